/- The memory of spec.l03Join. No statement is proved here. -/
import Derived.Test.YtfolphadhmgbiaaGreatMA
import Derived.Test.YtfolphadhmgbiaaGreatMC
import Derived.Test.YtfolphadhmgbiaaGreatCombI
import Derived.Test.YtfolphadhmgbiaaGreatProg
import Derived.WalkKit
import Derived.ProofKit
import Derived.OpenShut
import Derived.WalkLawsBesides
import Derived.WalkSpells
import Derived.ShutString
import Derived.ChangeOld
import Derived.Below
import Derived.Lib.Hide
import Derived.BigQuiet
import Derived.Deep.QuietTactic
import Derived.Maps.AppendAt
import Derived.Deep.Draws
import Derived.Deep.MidRow
import Derived.Deep.WholeRow
import Derived.Deep.OwnRows
import Derived.Deep.RegionHeld3
import Derived.Deep.DeepCutAuto
import Derived.Deep.LoopGhost
import Derived.OwnWalk
import Derived.Deep.AppendLies
import Derived.Deep.Onto
import Derived.Laws.AppendOwn
import Derived.Deep.RegionWith
namespace Go.Proofs.YtfolphadhmgbiaaGreat
open Go.RowKit
/-- The two grids of l03Join. -/
structure CgB (w : World) (g h : Nat → Bool) (b c : Nat) (W : World) : Prop where
  g1 : GrAt W b 4 g
  g2 : GrAt W c 4 h
  ne : b ≠ c
  l1 : w.heap.size + 3 ≤ b
  l2 : w.heap.size + 3 ≤ c
  rs : BxR W (w.heap.size + 2)
  bw : Below w.heap.size w W
theorem CgB.call {w W W' : World} {g h : Nat → Bool} {b c : Nat} (k : CgB w g h b c W) (hb : Below W.heap.size W W') : CgB w g h b c W' :=
  ⟨k.g1.call hb, k.g2.call hb, k.ne, k.l1, k.l2, k.rs.call hb, k.bw.trans (hb.mono k.bw.size)⟩
theorem CgB.congr {w W : World} {g g' h : Nat → Bool} {b c : Nat} (k : CgB w g h b c W) (e : ∀ i, i < 256 → g i = g' i) : CgB w g' h b c W :=
  ⟨k.g1.congr e, k.g2, k.ne, k.l1, k.l2, k.rs, k.bw⟩
theorem CgB.set {w W : World} {g h : Nat → Bool} {b c : Nat} (k : CgB w g h b c W) (n : Nat) (v : Bool) : CgB w (gSet g n v) h b c (W.setCell ⟨b, n, none⟩ (.bool v)) :=
  ⟨k.g1.set n v, k.g2.far (Ne.symm k.ne) _, k.ne, k.l1, k.l2, (Below.heap_setCell W _ _ _ (by have := k.l1; simp; omega)).trans k.rs, k.bw.setCell (by have := k.l1; simp; omega) _⟩
end Go.Proofs.YtfolphadhmgbiaaGreat
