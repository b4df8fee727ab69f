/- Enlarged pictures can be brought back. No statement is proved here. -/
import Derived.Test.YtokniebejilcbaaGreatMA
import Derived.Test.YtokniebejilcbaaGreatMB
import Derived.Test.YtokniebejilcbaaGreatMC
import Derived.Test.YtokniebejilcbaaGreatSclB
import Derived.Test.YtokniebejilcbaaGreatProg
import Derived.WalkKit
import Derived.ProofKit
import Derived.OpenShut
import Derived.WalkLawsBesides
import Derived.WalkSpells
import Derived.ShutString
import Derived.ChangeOld
import Derived.Below
import Derived.Lib.Hide
import Derived.Deep.MidRow
import Derived.Deep.WholeRow
import Derived.Maps.AppendAt
import Derived.BigQuiet
import Derived.Deep.QuietTactic
import Derived.Deep.OwnRows
import Derived.Handy
import Derived.Deep.Draws
import Derived.OwnWalk
import Derived.Deep.AppendLies
import Derived.Deep.LoopGhost
import Derived.Deep.Onto
import Derived.Laws.BitsAllLaws
import Derived.Lib.QuoteBits
import Derived.Deep.RegionHeld3
import Derived.Deep.DeepCutAuto
import Derived.Test.YtokniebejilcbaaGreatShelf
import Derived.Laws.CopyOwn
import Derived.Deep.RegionLaw
import Derived.Great.BuildSlice
import Derived.Laws.AppendOwn
namespace Go.Proofs.YtokniebejilcbaaGreat
open Go.RowKit
theorem sclN_self {f k : Nat} (h : 1 ≤ f) : sclN f f k = k := by unfold sclN; exact Nat.mul_div_cancel _ h
theorem rs_self {S : Nat → Nat → Nat → Nat} (hS : ∀ f k, k < f → S f f k = k) {W H : Nat} {L : List Int} (h : imOk W H L) : rsIm S W H L W H = ⟨W, H, L⟩ := by
 obtain ⟨W2, H2, e1, e2, wl, wh, hl, hh, hL⟩ := im_nat h
 obtain rfl : W = W2 := by exact_mod_cast e1
 obtain rfl : H = H2 := by exact_mod_cast e2
 rw [rs_yes S h h.1]
 congr 1
 symm
 refine tabI_ext hL fun j x hx => ?_
 have hj : j < W * H := by have := (List.getElem?_eq_some_iff.1 hx).1; omega
 unfold rsF
 rw [hS H _ (plc_row hj), hS W _ (Nat.mod_lt _ wl), plc_eq, List.getD_eq_getElem?_getD, hx]; rfl
theorem rs_valid {S : Nat → Nat → Nat → Nat} (hS : PlOk S) {W H w h : Nat} {L : List Int} (h1 : imOk W H L) (h2 : szOk w h) : imOk w h (tabI (w * h) (rsF S W H w h L)) := by
 obtain ⟨W2, H2, e1, e2, wl, wh, hl, hh, hL⟩ := im_nat h1
 obtain rfl : W = W2 := by exact_mod_cast e1
 obtain rfl : H = H2 := by exact_mod_cast e2
 refine ⟨h2, by rw [tabI_length]; push_cast; rfl, fun k x hx => ?_⟩
 have hk : k < w * h := by have := (List.getElem?_eq_some_iff.1 hx).1; rwa [tabI_length] at this
 rw [tabI_get _ _ k hk] at hx
 injection hx with hx
 have hw : 0 < w := by unfold szOk at h2; omega
 obtain ⟨a, b, z, _, _, _, _, _, hz, hF⟩ := rs_src hS hL wl hl (Nat.mod_lt k hw) (plc_row hk)
 rw [plc_eq] at hF
 rw [← hx, hF]
 exact h1.2.2 _ _ hz
end Go.Proofs.YtokniebejilcbaaGreat
