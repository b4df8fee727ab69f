/- What the exact laws keep in memory besides images: a rectangle or a region that came in, a region in a variable; a variable that a statement in a free order makes. No statement is proved here. -/
import Derived.Test.YteipkfoeghagaaaRd
import Derived.Test.YteipkfoeghagaaaIntR
import Derived.Test.YteipkfoeghagaaaImR
import Derived.Test.YteipkfoeghagaaaPixM
import Derived.Test.YteipkfoeghagaaaBlk4
import Derived.Test.YteipkfoeghagaaaImL
import Derived.Test.YteipkfoeghagaaaImV
import Derived.Test.YteipkfoeghagaaaProg
import Derived.WalkKit
import Derived.ProofKit
import Derived.OpenShut
import Derived.WalkLawsBesides
import Derived.WalkSpells
import Derived.ShutString
import Derived.ChangeOld
import Derived.Below
import Derived.Lib.Hide
import Derived.BigQuiet
import Derived.Deep.QuietTactic
import Derived.Maps.AppendAt
import Derived.Deep.OwnRows
import Derived.Handy
import Derived.Deep.Draws
import Derived.OwnWalk
import Derived.Deep.AppendLies
import Derived.Deep.LoopGhost
import Derived.Deep.Onto
import Derived.Deep.RegionHeld3
import Derived.Deep.DeepCutAuto
import Derived.Laws.BitsAllLaws
import Derived.Lib.QuoteBits
import Derived.Laws.CopyOwn
import Derived.Deep.RegionLaw
import Derived.Great.BuildSlice
import Derived.Deep.MidRow
import Derived.Deep.WholeRow
namespace Go.Proofs.Yteipkfoeghagaaa
open Go.RowKit
theorem ownA_ne {v : Value} {b : Nat} (h : ∀ g, v.ownBlock = some g → g ≠ b) : v.ownBlock = none ∨ v.ownBlock ≠ some b := by
  by_cases hv : v.ownBlock = none
  · exact .inl hv
  · exact .inr fun e => h b e rfl
theorem ImA.lt {b : Nat} {X Y : Int} {v : Value} {L : List Int} {W : World} (h : ImA b X Y v L W) : b < W.heap.size := h.at_.lt
theorem markImI (B : Nat) (W H : Int) (v : Value) (L : List Int) (k0 : Nat) (ki : Int) (w : World) (hm : k0 + L.length ≤ 1000000000) (hk : ki = (k0 : Nat)) (hown : w.ownsRow B 3 1 v L.length (intCells L)) :
    Calls Try.prog 19 #[.agg #[.int .i64 W, .int .i64 H, v], .int .i64 ki] w fun ed w' => ed = .returned (.int .i64 ((k0 + L.length : Nat) : Int)) ∧ w'.ownsRow B 3 1 v L.length (intCells (marksI k0 L.length)) ∧ w.grownBy w' v.ownBlock := by
  subst hk
  exact markIm B W H v L k0 w hm hown
end Go.Proofs.Yteipkfoeghagaaa
