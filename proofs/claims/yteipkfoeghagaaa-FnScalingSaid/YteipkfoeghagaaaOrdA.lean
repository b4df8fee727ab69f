/- The contracts of Oriented at every image and number. No statement is proved here. -/
import Derived.Test.YteipkfoeghagaaaBk
import Derived.Test.YteipkfoeghagaaaIntR
import Derived.Test.YteipkfoeghagaaaImR
import Derived.Test.YteipkfoeghagaaaPixM
import Derived.Test.YteipkfoeghagaaaBlk4
import Derived.Test.YteipkfoeghagaaaHasC
import Derived.Test.YteipkfoeghagaaaImN
import Derived.Test.YteipkfoeghagaaaRds
import Derived.Test.YteipkfoeghagaaaImV
import Derived.Test.YteipkfoeghagaaaFilB
import Derived.Test.YteipkfoeghagaaaOrdB
import Derived.Test.YteipkfoeghagaaaProg
import Derived.WalkKit
import Derived.ProofKit
import Derived.OpenShut
import Derived.WalkLawsBesides
import Derived.WalkSpells
import Derived.ShutString
import Derived.ChangeOld
import Derived.Below
import Derived.Lib.Hide
import Derived.Deep.MidRow
import Derived.Deep.WholeRow
import Derived.Maps.AppendAt
import Derived.BigQuiet
import Derived.Deep.QuietTactic
import Derived.Deep.OwnRows
import Derived.Handy
import Derived.Deep.Draws
import Derived.OwnWalk
import Derived.Deep.AppendLies
import Derived.Deep.LoopGhost
import Derived.Deep.Onto
import Derived.Laws.BitsAllLaws
import Derived.Lib.QuoteBits
import Derived.Deep.RegionHeld3
import Derived.Deep.DeepCutAuto
import Derived.Laws.CopyOwn
import Derived.Deep.RegionLaw
import Derived.Great.BuildSlice
import Derived.Laws.AppendOwn
namespace Go.Proofs.Yteipkfoeghagaaa
open Go.RowKit
theorem OrA.born (w : World) (X Y : Int) {v : Value} {L : List Int} (hv : RdI w v L) : OrA w X Y v L ((w.alloc (.cells #[.int .i64 X, .int .i64 Y, v] 26)).alloc (.cells #[.int .i64 0, .int .i64 0, .slice none 0 0] 26)) :=
  ⟨(ImAt.new _ _ _ _ _).alloc _, ImAt.newAt (by simp) _ _ _ _, (hv.alloc _).alloc _, belI_call (belI_box _ _) (belI_box _ _)⟩
theorem or_zero {w W : World} {X Y : Int} {v : Value} {L : List Int} (h : OrA w X Y v L W) : AnsIm zeroIm w (.returned (.agg #[.int .i64 0, .int .i64 0, .slice none 0 0])) (((W.setCell ⟨w.heap.size + 1, 0, none⟩ (.int .i64 0)).setCell ⟨w.heap.size + 1, 1, none⟩ (.int .i64 0)).setCell ⟨w.heap.size + 1, 2, none⟩ (.slice none 0 0)) :=
  zeroIm_ans (((h.bw.setCell (by simp) _).setCell (by simp) _).setCell (by simp) _)
end Go.Proofs.Yteipkfoeghagaaa
