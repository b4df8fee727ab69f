/- The contract of the program's CopyRegion. No statement is proved here. -/
import Derived.Test.YteipkfoeghagaaaRectC
import Derived.Test.YteipkfoeghagaaaPixM
import Derived.Test.YteipkfoeghagaaaIsectP
import Derived.Test.YteipkfoeghagaaaHasC
import Derived.Test.YteipkfoeghagaaaRegM
import Derived.Test.YteipkfoeghagaaaRectM
import Derived.Test.YteipkfoeghagaaaProg
import Derived.WalkKit
import Derived.ProofKit
import Derived.OpenShut
import Derived.WalkLawsBesides
import Derived.WalkSpells
import Derived.ShutString
import Derived.ChangeOld
import Derived.Below
import Derived.Lib.Hide
import Derived.BigQuiet
import Derived.Deep.QuietTactic
import Derived.Maps.AppendAt
import Derived.Deep.OwnRows
import Derived.Handy
import Derived.Deep.Draws
import Derived.OwnWalk
import Derived.Deep.AppendLies
import Derived.Deep.LoopGhost
import Derived.Deep.Onto
import Derived.Laws.BitsAllLaws
import Derived.Lib.QuoteBits
import Derived.Laws.CopyOwn
import Derived.Deep.RegionLaw
import Derived.Deep.RegionHeld3
import Derived.Deep.DeepCutAuto
import Derived.Great.BuildSlice
import Derived.Deep.MidRow
import Derived.Deep.WholeRow
import Derived.Laws.AppendOwn
namespace Go.Proofs.Yteipkfoeghagaaa
open Go.RowKit
/-- A part within the frame. -/
theorem part_nat (r : Rc) (M2 M : Nat) (a1 : 1 ≤ M2) (a2 : M2 ≤ 16) (b1 : 1 ≤ M) (b2 : M ≤ 16) :
    ∃ X Y n h : Nat, isect r ⟨0, 0, M2, M⟩ = ⟨X, Y, n, h⟩ ∧ X + n ≤ M2 ∧ Y + h ≤ M ∧ (h = 0 ∨ 1 ≤ n) ∧ ∀ p q : Nat, ((X ≤ p ∧ p < X + n ∧ Y ≤ q ∧ q < Y + h) ↔ (hasB r p q = true ∧ p < M2 ∧ q < M)) := by
  have hf : (⟨0, 0, M2, M⟩ : Rc).ok := by unfold Rc.ok; dsimp only; omega
  by_cases ho : r.ok
  · rcases isect_cases r _ ho hf with ⟨hi, e⟩ | ⟨hi, e⟩
    · rw [e]
      unfold isectRaw
      unfold isectIn at hi
      dsimp only at hi ⊢
      obtain ⟨X, hX⟩ := Int.eq_ofNat_of_zero_le (show 0 ≤ max r.x 0 by omega)
      obtain ⟨Y, hY⟩ := Int.eq_ofNat_of_zero_le (show 0 ≤ max r.y 0 by omega)
      obtain ⟨n, hn⟩ := Int.eq_ofNat_of_zero_le (show 0 ≤ min (r.x + r.w) (0 + (M2 : Int)) - max r.x 0 by omega)
      obtain ⟨h, hh⟩ := Int.eq_ofNat_of_zero_le (show 0 ≤ min (r.y + r.h) (0 + (M : Int)) - max r.y 0 by omega)
      refine ⟨X, Y, n, h, by rw [hn, hh, hX, hY], by omega, by omega, by omega, fun p q => ?_⟩
      unfold hasB
      rw [decide_eq_true_iff]
      constructor
      · intro k; exact ⟨⟨ho, by omega⟩, by omega, by omega⟩
      · rintro ⟨⟨_, k⟩, k1, k2⟩; omega
    · refine ⟨0, 0, 0, 0, e, by omega, by omega, .inl rfl, fun p q => ?_⟩
      unfold hasB
      rw [decide_eq_true_iff]
      unfold isectIn at hi
      dsimp only at hi
      constructor
      · intro k; omega
      · rintro ⟨⟨_, k⟩, k1, k2⟩; omega
  · refine ⟨0, 0, 0, 0, isect_no fun h => ho h.1, by omega, by omega, .inl rfl, fun p q => ?_⟩
    unfold hasB
    rw [decide_eq_true_iff]
    constructor
    · intro k; omega
    · rintro ⟨⟨k, _⟩, _⟩; exact absurd k ho
end Go.Proofs.Yteipkfoeghagaaa
