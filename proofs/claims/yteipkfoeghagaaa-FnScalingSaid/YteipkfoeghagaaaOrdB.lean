/- An image in an orientation: where its pixels come from and go to. No statement is proved here. -/
import Derived.Test.YteipkfoeghagaaaBk
import Derived.Test.YteipkfoeghagaaaIntR
import Derived.Test.YteipkfoeghagaaaImR
import Derived.Test.YteipkfoeghagaaaPixM
import Derived.Test.YteipkfoeghagaaaHasC
import Derived.Test.YteipkfoeghagaaaRds
import Derived.Test.YteipkfoeghagaaaImV
import Derived.Test.YteipkfoeghagaaaFilB
import Derived.Test.YteipkfoeghagaaaProg
import Derived.WalkKit
import Derived.ProofKit
import Derived.OpenShut
import Derived.WalkLawsBesides
import Derived.WalkSpells
import Derived.ShutString
import Derived.ChangeOld
import Derived.Below
import Derived.Lib.Hide
import Derived.Deep.MidRow
import Derived.Deep.WholeRow
import Derived.Maps.AppendAt
import Derived.BigQuiet
import Derived.Deep.QuietTactic
import Derived.Deep.OwnRows
import Derived.Handy
import Derived.Deep.Draws
import Derived.OwnWalk
import Derived.Deep.AppendLies
import Derived.Deep.LoopGhost
import Derived.Deep.Onto
import Derived.Laws.BitsAllLaws
import Derived.Lib.QuoteBits
import Derived.Deep.RegionHeld3
import Derived.Deep.DeepCutAuto
import Derived.Laws.CopyOwn
import Derived.Deep.RegionLaw
import Derived.Great.BuildSlice
import Derived.Laws.AppendOwn
namespace Go.Proofs.Yteipkfoeghagaaa
open Go.RowKit
theorem idx_div {W x y : Nat} (hx : x < W) : (y * W + x) / W = y ∧ (y * W + x) % W = x := by
  constructor
  · rw [Nat.add_comm, Nat.add_mul_div_right _ _ (by omega), Nat.div_eq_of_lt hx]; omega
  · rw [Nat.add_comm, Nat.add_mul_mod_self_right, Nat.mod_eq_of_lt hx]
/-- What Oriented keeps: its image's block and slice, its answer's block. -/
structure OrA (w : World) (X Y : Int) (v : Value) (L : List Int) (W : World) : Prop where
  a : ImAt W w.heap.size 26 X Y v
  r : ImAt W (w.heap.size + 1) 26 0 0 (.slice none 0 0)
  rd : RdI W v L
  bw : Below w.heap.size w W
theorem OrA.call {w : World} {X Y : Int} {v : Value} {L : List Int} {W W' : World} (h : OrA w X Y v L W) (k : Below W.heap.size W W') : OrA w X Y v L W' := ⟨h.a.call k, h.r.call k, h.rd.call k, h.bw.trans (k.mono h.bw.size)⟩
end Go.Proofs.Yteipkfoeghagaaa
