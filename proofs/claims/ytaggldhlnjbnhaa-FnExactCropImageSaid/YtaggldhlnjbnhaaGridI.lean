/- The contract of impl.pointsOf. No statement is proved here. -/
import Derived.Test.YtaggldhlnjbnhaaRectC
import Derived.Test.YtaggldhlnjbnhaaBlk4
import Derived.Test.YtaggldhlnjbnhaaRectEq
import Derived.Test.YtaggldhlnjbnhaaIsectI
import Derived.Test.YtaggldhlnjbnhaaHasC
import Derived.Test.YtaggldhlnjbnhaaRegM
import Derived.Test.YtaggldhlnjbnhaaRds
import Derived.Test.YtaggldhlnjbnhaaProg
import Derived.WalkKit
import Derived.ProofKit
import Derived.OpenShut
import Derived.WalkLawsBesides
import Derived.WalkSpells
import Derived.ShutString
import Derived.ChangeOld
import Derived.Below
import Derived.Lib.Hide
import Derived.BigQuiet
import Derived.Deep.QuietTactic
import Derived.Maps.AppendAt
import Derived.Deep.Draws
import Derived.Deep.MidRow
import Derived.Deep.WholeRow
import Derived.Deep.OwnRows
import Derived.Deep.RegionHeld3
import Derived.Deep.DeepCutAuto
import Derived.Deep.LoopGhost
namespace Go.Proofs.Ytaggldhlnjbnhaa
open Go.RowKit
theorem bottom_nat (X Y W H : Nat) (h1 : X + W ≤ 16) (h2 : Y + H ≤ 16) (w : World) :
    Calls Try.prog 78 #[.agg #[.int .i64 X, .int .i64 Y, .int .i64 W, .int .i64 H]] w fun e w' => e = .returned (.int .i64 (Y + H)) ∧ Below w.heap.size w w' := by
  refine (bottomOf_any ⟨X, Y, W, H⟩ (by unfold Rc.ok; dsimp only; omega) w).mono ?_
  rintro e w' ⟨rfl, rfl⟩
  exact ⟨rfl, (Below.refl _ _).alloc (Nat.le_refl _) _⟩
end Go.Proofs.Ytaggldhlnjbnhaa
