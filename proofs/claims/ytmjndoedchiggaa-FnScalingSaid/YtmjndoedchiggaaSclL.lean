/- Enlarged pictures can be brought back. No statement is proved here. -/
import Derived.Test.YtmjndoedchiggaaMA
import Derived.Test.YtmjndoedchiggaaImR
import Derived.Test.YtmjndoedchiggaaImO
import Derived.Test.YtmjndoedchiggaaImM
import Derived.Test.YtmjndoedchiggaaSclB
import Derived.Test.YtmjndoedchiggaaProg
import Derived.WalkKit
import Derived.ProofKit
import Derived.OpenShut
import Derived.WalkLawsBesides
import Derived.WalkSpells
import Derived.ShutString
import Derived.ChangeOld
import Derived.Below
import Derived.Lib.Hide
import Derived.Deep.MidRow
import Derived.Deep.WholeRow
import Derived.Maps.AppendAt
import Derived.BigQuiet
import Derived.Deep.QuietTactic
import Derived.Deep.OwnRows
import Derived.Handy
import Derived.Deep.Draws
import Derived.OwnWalk
import Derived.Deep.AppendLies
import Derived.Deep.LoopGhost
import Derived.Deep.Onto
import Derived.Laws.BitsAllLaws
import Derived.Lib.QuoteBits
import Derived.Deep.RegionHeld3
import Derived.Deep.DeepCutAuto
import Derived.Test.YtmjndoedchiggaaShelf
import Derived.Laws.CopyOwn
import Derived.Deep.RegionLaw
import Derived.Great.BuildSlice
import Derived.Laws.AppendOwn
namespace Go.Proofs.Ytmjndoedchiggaa
open Go.RowKit
theorem sclN_self {f k : Nat} (h : 1 ≤ f) : sclN f f k = k := by unfold sclN; exact Nat.mul_div_cancel _ h
/-- Of k*f places, the place in f. -/
theorem sclN_up {f k x : Nat} (hf : 1 ≤ f) : sclN f (k * f) x = x / k := by
  unfold sclN; rw [Nat.mul_div_mul_right _ _ hf]
theorem sclN_down {f k x : Nat} (hf : 1 ≤ f) : sclN (k * f) f x = x * k := by
  unfold sclN; rw [← Nat.mul_assoc, Nat.mul_div_cancel _ hf]
theorem tilN_self {f t k : Nat} (h : k < f) : tilN f t k = k := Nat.mod_eq_of_lt h
theorem sclN_last {f k : Nat} (hf : 1 ≤ f) (hk : 1 ≤ k) : sclN f (k * f) (k * f - 1) = f - 1 := by
  rw [sclN_up hf]
  have e : k * f - 1 = k * (f - 1) + (k - 1) := by
    obtain ⟨g, rfl⟩ : ∃ g, f = g + 1 := ⟨f - 1, by omega⟩
    rw [Nat.mul_add, Nat.mul_one, Nat.add_sub_cancel]; omega
  rw [e, Nat.mul_add_div hk, Nat.div_eq_of_lt (by omega), Nat.add_zero]
theorem rs_self {S : Nat → Nat → Nat → Nat} (hS : ∀ f k, k < f → S f f k = k) {W H : Nat} {L : List Int} (h : imOk W H L) : rsIm S W H L W H = ⟨W, H, L⟩ := by
  obtain ⟨W2, H2, e1, e2, wl, wh, hl, hh, hL⟩ := im_nat h
  obtain rfl : W = W2 := by exact_mod_cast e1
  obtain rfl : H = H2 := by exact_mod_cast e2
  rw [rs_yes S h h.1]
  congr 1
  symm
  refine tabI_ext hL fun j x hx => ?_
  have hj : j < W * H := by have := (List.getElem?_eq_some_iff.1 hx).1; omega
  unfold rsF
  rw [hS H _ (plc_row hj), hS W _ (Nat.mod_lt _ wl), plc_eq, List.getD_eq_getElem?_getD, hx]; rfl
theorem rs_valid {S : Nat → Nat → Nat → Nat} (hS : PlOk S) {W H w h : Nat} {L : List Int} (h1 : imOk W H L) (h2 : szOk w h) : imOk w h (tabI (w * h) (rsF S W H w h L)) := by
  obtain ⟨W2, H2, e1, e2, wl, wh, hl, hh, hL⟩ := im_nat h1
  obtain rfl : W = W2 := by exact_mod_cast e1
  obtain rfl : H = H2 := by exact_mod_cast e2
  refine ⟨h2, by rw [tabI_length]; push_cast; rfl, fun k x hx => ?_⟩
  have hk : k < w * h := by have := (List.getElem?_eq_some_iff.1 hx).1; rwa [tabI_length] at this
  rw [tabI_get _ _ k hk] at hx
  injection hx with hx
  have hw : 0 < w := by unfold szOk at h2; omega
  obtain ⟨a, b, z, _, _, _, _, _, hz, hF⟩ := rs_src hS hL wl hl (Nat.mod_lt k hw) (plc_row hk)
  rw [plc_eq] at hF
  rw [← hx, hF]
  exact h1.2.2 _ _ hz
theorem rs_back {W H k : Nat} {L : List Int} (h : imOk W H L) (hk : 1 ≤ k) :
    tabI (W * H) (rsF sclN (k * W) (k * H) W H (tabI (k * W * (k * H)) (rsF sclN W H (k * W) (k * H) L))) = L := by
  obtain ⟨W2, H2, e1, e2, wl, wh, hl, hh, hL⟩ := im_nat h
  obtain rfl : W = W2 := by exact_mod_cast e1
  obtain rfl : H = H2 := by exact_mod_cast e2
  symm
  refine tabI_ext hL fun j x hx => ?_
  have hj : j < W * H := by have := (List.getElem?_eq_some_iff.1 hx).1; omega
  have hy := plc_row hj
  have hxx := Nat.mod_lt j wl
  have hx2 : j % W * k < k * W := by rw [Nat.mul_comm k W]; exact Nat.mul_lt_mul_of_pos_right hxx hk
  have hy2 : j / W * k < k * H := by rw [Nat.mul_comm k H]; exact Nat.mul_lt_mul_of_pos_right hy hk
  unfold rsF
  rw [sclN_down hl, sclN_down wl, tabI_getD _ _ _ (plc_lt hx2 hy2)]
  have e := rsF_at sclN W H (k * W) (k * H) L (j / W * k) hx2
  unfold rsF at e
  rw [e, sclN_up hl, sclN_up wl, Nat.mul_div_cancel _ hk, Nat.mul_div_cancel _ hk, plc_eq, List.getD_eq_getElem?_getD, hx]; rfl
end Go.Proofs.Ytmjndoedchiggaa
