/- The contract of the model's FillRect. No statement is proved here. -/
import Derived.Test.YtjjamdibgjeokaaGreatMA
import Derived.Test.YtjjamdibgjeokaaGreatMC
import Derived.Test.YtjjamdibgjeokaaGreatCpyJ
import Derived.Test.YtjjamdibgjeokaaGreatProg
import Derived.WalkKit
import Derived.ProofKit
import Derived.OpenShut
import Derived.WalkLawsBesides
import Derived.WalkSpells
import Derived.ShutString
import Derived.ChangeOld
import Derived.Below
import Derived.Lib.Hide
import Derived.BigQuiet
import Derived.Deep.QuietTactic
import Derived.Maps.AppendAt
import Derived.Deep.OwnRows
import Derived.Handy
import Derived.Deep.Draws
import Derived.OwnWalk
import Derived.Deep.AppendLies
import Derived.Deep.LoopGhost
import Derived.Deep.Onto
import Derived.Laws.BitsAllLaws
import Derived.Lib.QuoteBits
import Derived.Test.YtjjamdibgjeokaaGreatShelf
import Derived.Laws.CopyOwn
import Derived.Deep.RegionLaw
import Derived.Deep.RegionHeld3
import Derived.Deep.DeepCutAuto
import Derived.Great.BuildSlice
import Derived.Deep.MidRow
import Derived.Deep.WholeRow
import Derived.Laws.AppendOwn
namespace Go.Proofs.YtjjamdibgjeokaaGreat
open Go.RowKit
theorem partS (r : Rc) (M2 M : Nat) (a1 : 1 ≤ M2) (a2 : M2 ≤ 16) (b1 : 1 ≤ M) (b2 : M ≤ 16) (w : World) :
    Calls Tryz.prog 61 #[.agg #[.int .i64 r.x, .int .i64 r.y, .int .i64 r.w, .int .i64 r.h], .agg #[.int .i64 0, .int .i64 0, .int .i64 M2, .int .i64 M]] w
      fun e w' => (∃ X Y n h : Nat, e = .returned (.agg #[.int .i64 X, .int .i64 Y, .int .i64 n, .int .i64 h]) ∧ X + n ≤ M2 ∧ Y + h ≤ M ∧ (h = 0 ∨ 1 ≤ n) ∧ Hid (∀ p q : Nat, ((X ≤ p ∧ p < X + n ∧ Y ≤ q ∧ q < Y + h) ↔ (hasB r p q = true ∧ p < M2 ∧ q < M)))) ∧ Below w.heap.size w w' := by
  refine (isectS_any r ⟨0, 0, M2, M⟩ w).mono ?_
  rintro e w' ⟨rfl, hb⟩
  obtain ⟨X, Y, n, h, he, h1, h2, h3, h4⟩ := part_nat r M2 M a1 a2 b1 b2
  exact ⟨⟨X, Y, n, h, by rw [he], h1, h2, h3, h4⟩, hb⟩
end Go.Proofs.YtjjamdibgjeokaaGreat
