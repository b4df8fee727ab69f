/- Texts of mine in one file: CpyJ, CrpB, DfsM, FilS. No statement is proved here. -/
import Derived.Test.YtfolphadhmgbiaaMA
import Derived.Test.YtfolphadhmgbiaaMC
import Derived.Test.YtfolphadhmgbiaaProg
import Derived.WalkKit
import Derived.ProofKit
import Derived.OpenShut
import Derived.WalkLawsBesides
import Derived.WalkSpells
import Derived.ShutString
import Derived.ChangeOld
import Derived.Below
import Derived.Lib.Hide
import Derived.BigQuiet
import Derived.Deep.QuietTactic
import Derived.Maps.AppendAt
import Derived.Deep.OwnRows
import Derived.Handy
import Derived.Deep.Draws
import Derived.OwnWalk
import Derived.Deep.AppendLies
import Derived.Deep.LoopGhost
import Derived.Deep.Onto
import Derived.Laws.BitsAllLaws
import Derived.Lib.QuoteBits
import Derived.Test.YtfolphadhmgbiaaShelf
import Derived.Laws.CopyOwn
import Derived.Deep.RegionLaw
import Derived.Deep.RegionHeld3
import Derived.Deep.DeepCutAuto
import Derived.Great.BuildSlice
import Derived.Deep.MidRow
import Derived.Deep.WholeRow
import Derived.Laws.AppendOwn
namespace Go.Proofs.Ytfolphadhmgbiaa
open Go.RowKit
/-- A part within the frame. -/
theorem part_nat (r : Rc) (M2 M : Nat) (a1 : 1 ≤ M2) (a2 : M2 ≤ 16) (b1 : 1 ≤ M) (b2 : M ≤ 16) :
    ∃ X Y n h : Nat, isect r ⟨0, 0, M2, M⟩ = ⟨X, Y, n, h⟩ ∧ X + n ≤ M2 ∧ Y + h ≤ M ∧ (h = 0 ∨ 1 ≤ n) ∧ ∀ p q : Nat, ((X ≤ p ∧ p < X + n ∧ Y ≤ q ∧ q < Y + h) ↔ (hasB r p q = true ∧ p < M2 ∧ q < M)) := by
  have hf : (⟨0, 0, M2, M⟩ : Rc).ok := by unfold Rc.ok; dsimp only; omega
  by_cases ho : r.ok
  · rcases isect_cases r _ ho hf with ⟨hi, e⟩ | ⟨hi, e⟩
    · rw [e]
      unfold isectRaw
      unfold isectIn at hi
      dsimp only at hi ⊢
      obtain ⟨X, hX⟩ := Int.eq_ofNat_of_zero_le (show 0 ≤ max r.x 0 by omega)
      obtain ⟨Y, hY⟩ := Int.eq_ofNat_of_zero_le (show 0 ≤ max r.y 0 by omega)
      obtain ⟨n, hn⟩ := Int.eq_ofNat_of_zero_le (show 0 ≤ min (r.x + r.w) (0 + (M2 : Int)) - max r.x 0 by omega)
      obtain ⟨h, hh⟩ := Int.eq_ofNat_of_zero_le (show 0 ≤ min (r.y + r.h) (0 + (M : Int)) - max r.y 0 by omega)
      refine ⟨X, Y, n, h, by rw [hn, hh, hX, hY], by omega, by omega, by omega, fun p q => ?_⟩
      unfold hasB
      rw [decide_eq_true_iff]
      constructor
      · intro k; exact ⟨⟨ho, by omega⟩, by omega, by omega⟩
      · rintro ⟨⟨_, k⟩, k1, k2⟩; omega
    · refine ⟨0, 0, 0, 0, e, by omega, by omega, .inl rfl, fun p q => ?_⟩
      unfold hasB
      rw [decide_eq_true_iff]
      unfold isectIn at hi
      dsimp only at hi
      constructor
      · intro k; omega
      · rintro ⟨⟨_, k⟩, k1, k2⟩; omega
  · refine ⟨0, 0, 0, 0, isect_no fun h => ho h.1, by omega, by omega, .inl rfl, fun p q => ?_⟩
    unfold hasB
    rw [decide_eq_true_iff]
    constructor
    · intro k; omega
    · rintro ⟨⟨k, _⟩, _⟩; exact absurd k ho
end Go.Proofs.Ytfolphadhmgbiaa
namespace Go.Proofs.Ytfolphadhmgbiaa
open Go.RowKit
theorem intCells_append (L M : List Int) : intCells (L ++ M) = intCells L ++ intCells M := by simp [intCells]
end Go.Proofs.Ytfolphadhmgbiaa
namespace Go.Proofs.Ytfolphadhmgbiaa
open Go.RowKit
theorem rowCnt_none (g : Nat → Bool) (y x : Nat) (h : ∀ p, p < 16 → g (y * 16 + p) = false) : rowCnt g y x = 0 := by
  fun_induction rowCnt g y x with
  | case1 x hx ih => rw [if_neg (by rw [h x hx]; simp), ih]; rfl
  | case2 x hx => rfl
end Go.Proofs.Ytfolphadhmgbiaa
namespace Go.Proofs.Ytfolphadhmgbiaa
open Go.RowKit
theorem partS (r : Rc) (M2 M : Nat) (a1 : 1 ≤ M2) (a2 : M2 ≤ 16) (b1 : 1 ≤ M) (b2 : M ≤ 16) (w : World) :
    Calls Try.prog 97 #[.agg #[.int .i64 r.x, .int .i64 r.y, .int .i64 r.w, .int .i64 r.h], .agg #[.int .i64 0, .int .i64 0, .int .i64 M2, .int .i64 M]] w
      fun e w' => (∃ X Y n h : Nat, e = .returned (.agg #[.int .i64 X, .int .i64 Y, .int .i64 n, .int .i64 h]) ∧ X + n ≤ M2 ∧ Y + h ≤ M ∧ (h = 0 ∨ 1 ≤ n) ∧ Hid (∀ p q : Nat, ((X ≤ p ∧ p < X + n ∧ Y ≤ q ∧ q < Y + h) ↔ (hasB r p q = true ∧ p < M2 ∧ q < M)))) ∧ Below w.heap.size w w' := by
  refine (isectS_any r ⟨0, 0, M2, M⟩ w).mono ?_
  rintro e w' ⟨rfl, hb⟩
  obtain ⟨X, Y, n, h, he, h1, h2, h3, h4⟩ := part_nat r M2 M a1 a2 b1 b2
  exact ⟨⟨X, Y, n, h, by rw [he], h1, h2, h3, h4⟩, hb⟩
end Go.Proofs.Ytfolphadhmgbiaa
