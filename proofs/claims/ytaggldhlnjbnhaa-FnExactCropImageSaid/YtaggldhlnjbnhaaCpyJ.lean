/- The contract of the program's CopyRegion. No statement is proved here. -/
import Derived.Test.YtaggldhlnjbnhaaRd
import Derived.Test.YtaggldhlnjbnhaaIntR
import Derived.Test.YtaggldhlnjbnhaaImR
import Derived.Test.YtaggldhlnjbnhaaRectC
import Derived.Test.YtaggldhlnjbnhaaPixM
import Derived.Test.YtaggldhlnjbnhaaImV
import Derived.Test.YtaggldhlnjbnhaaIsectP
import Derived.Test.YtaggldhlnjbnhaaHasC
import Derived.Test.YtaggldhlnjbnhaaRegM
import Derived.Test.YtaggldhlnjbnhaaRectM
import Derived.Test.YtaggldhlnjbnhaaProg
import Derived.WalkKit
import Derived.ProofKit
import Derived.OpenShut
import Derived.WalkLawsBesides
import Derived.WalkSpells
import Derived.ShutString
import Derived.ChangeOld
import Derived.Below
import Derived.Lib.Hide
import Derived.BigQuiet
import Derived.Deep.QuietTactic
import Derived.Maps.AppendAt
import Derived.Deep.OwnRows
import Derived.Handy
import Derived.Deep.Draws
import Derived.OwnWalk
import Derived.Deep.AppendLies
import Derived.Deep.LoopGhost
import Derived.Deep.Onto
import Derived.Laws.BitsAllLaws
import Derived.Lib.QuoteBits
import Derived.Test.YtaggldhlnjbnhaaShelf
import Derived.Laws.CopyOwn
import Derived.Deep.RegionLaw
import Derived.Deep.RegionHeld3
import Derived.Deep.DeepCutAuto
import Derived.Great.BuildSlice
import Derived.Deep.MidRow
import Derived.Deep.WholeRow
import Derived.Laws.AppendOwn
namespace Go.Proofs.Ytaggldhlnjbnhaa
open Go.RowKit
/-- The cells of a stretch of an image's pixels. -/
theorem span_cells {w W : World} {gu cu off n : Nat} {row : Option Nat} {F : List Int} (h : RdI w (.slice (some ⟨gu, 0, none⟩) F.length cu) F) (hg : w.grownBy W row) (hr : some gu ≠ row) (hf : off + n ≤ F.length) :
    ∀ j v, (intCells (tabI n (fun i => F.getD (off + i) 0)))[j]? = some v → W.cell? ((⟨gu, off, none⟩ : Addr).add j) = some v := by
  intro j v hv
  rw [intCells_get] at hv
  obtain ⟨x, hx, rfl⟩ := Option.map_eq_some_iff.1 hv
  have hj : j < n := by have := (List.getElem?_eq_some_iff.1 hx).1; rwa [tabI_length] at this
  rw [tabI_get n _ j hj] at hx
  injection hx with hx
  obtain ⟨g', x', e, hx', hc⟩ := h.at_ (k := off + j) (by omega)
  injection e with e
  injection e with e
  subst e
  have he : (⟨gu, off, none⟩ : Addr).add j = ⟨gu, off + j, none⟩ := by unfold Addr.add; split <;> simp_all
  rw [he, ← hx, List.getD_eq_getElem?_getD, hx']
  exact (World.cell?_of_block (hg.block gu (World.block_lt_of_cell? w _ hc) hr)).trans hc
/-- A part within the frame. -/
theorem part_nat (r : Rc) (M2 M : Nat) (a1 : 1 ≤ M2) (a2 : M2 ≤ 16) (b1 : 1 ≤ M) (b2 : M ≤ 16) :
    ∃ X Y n h : Nat, isect r ⟨0, 0, M2, M⟩ = ⟨X, Y, n, h⟩ ∧ X + n ≤ M2 ∧ Y + h ≤ M ∧ (h = 0 ∨ 1 ≤ n) ∧ ∀ p q : Nat, ((X ≤ p ∧ p < X + n ∧ Y ≤ q ∧ q < Y + h) ↔ (hasB r p q = true ∧ p < M2 ∧ q < M)) := by
  have hf : (⟨0, 0, M2, M⟩ : Rc).ok := by unfold Rc.ok; dsimp only; omega
  by_cases ho : r.ok
  · rcases isect_cases r _ ho hf with ⟨hi, e⟩ | ⟨hi, e⟩
    · rw [e]
      unfold isectRaw
      unfold isectIn at hi
      dsimp only at hi ⊢
      obtain ⟨X, hX⟩ := Int.eq_ofNat_of_zero_le (show 0 ≤ max r.x 0 by omega)
      obtain ⟨Y, hY⟩ := Int.eq_ofNat_of_zero_le (show 0 ≤ max r.y 0 by omega)
      obtain ⟨n, hn⟩ := Int.eq_ofNat_of_zero_le (show 0 ≤ min (r.x + r.w) (0 + (M2 : Int)) - max r.x 0 by omega)
      obtain ⟨h, hh⟩ := Int.eq_ofNat_of_zero_le (show 0 ≤ min (r.y + r.h) (0 + (M : Int)) - max r.y 0 by omega)
      refine ⟨X, Y, n, h, by rw [hn, hh, hX, hY], by omega, by omega, by omega, fun p q => ?_⟩
      unfold hasB
      rw [decide_eq_true_iff]
      constructor
      · intro k; exact ⟨⟨ho, by omega⟩, by omega, by omega⟩
      · rintro ⟨⟨_, k⟩, k1, k2⟩; omega
    · refine ⟨0, 0, 0, 0, e, by omega, by omega, .inl rfl, fun p q => ?_⟩
      unfold hasB
      rw [decide_eq_true_iff]
      unfold isectIn at hi
      dsimp only at hi
      constructor
      · intro k; omega
      · rintro ⟨⟨_, k⟩, k1, k2⟩; omega
  · refine ⟨0, 0, 0, 0, isect_no fun h => ho h.1, by omega, by omega, .inl rfl, fun p q => ?_⟩
    unfold hasB
    rw [decide_eq_true_iff]
    constructor
    · intro k; omega
    · rintro ⟨⟨k, _⟩, _⟩; exact absurd k ho
end Go.Proofs.Ytaggldhlnjbnhaa
