/- The walk of the law FnExactOrientSize: it returns true for every three numbers. -/
import Derived.Test.YtmffbjicjpgimaaPixM
import Derived.Test.YtmffbjicjpgimaaImR
import Derived.Test.YtmffbjicjpgimaaHasC
import Derived.Test.YtmffbjicjpgimaaOriP
import Derived.Test.YtmffbjicjpgimaaProg
import Derived.WalkKit
import Derived.ProofKit
import Derived.OpenShut
import Derived.WalkLawsBesides
import Derived.WalkSpells
import Derived.ShutString
import Derived.ChangeOld
import Derived.Below
import Derived.Lib.Hide
import Derived.Deep.MidRow
import Derived.Deep.WholeRow
import Derived.Maps.AppendAt
import Derived.BigQuiet
import Derived.Deep.QuietTactic
import Derived.Deep.OwnRows
import Derived.Handy
import Derived.Deep.Draws
import Derived.OwnWalk
import Derived.Deep.AppendLies
import Derived.Deep.LoopGhost
import Derived.Deep.Onto
import Derived.Laws.BitsAllLaws
import Derived.Lib.QuoteBits
import Derived.Deep.RegionHeld3
import Derived.Deep.DeepCutAuto
namespace Go.Proofs.Ytmffbjicjpgimaa
open Go.RowKit
set_option maxHeartbeats 600000 in
theorem walk_FnExactOrientSize (p0 : Int) (_ : (Lit.int .i64 p0).wf = true) (p1 : Int) (_ : (Lit.int .i64 p1).wf = true) (p2 : Int) (_ : (Lit.int .i64 p2).wf = true) (w : World) :
    Calls Try.prog 6 #[.int .i64 p0, .int .i64 p1, .int .i64 p2] w fun e w' => e = .returned (.bool true) ∧ Below w.heap.size w w' := by
  obtain ⟨q, r, hq⟩ : ∃ q r, osM p0 p1 p2 = (q, r) := ⟨_, _, rfl⟩
  have PS := fun W => osS p0 p1 p2 W
  have PI := fun W => osI p0 p1 p2 W
  unfold TwoAns at PS PI
  rw [hq] at PS PI
  dsimp only at PS PI
  have HS := Lib.hid PS
  have HI := Lib.hid PI
  clear PS PI hq
  go_enter Try.func6, Try.ntmps6
  go_wp2_with fail
  refine (HS.out _).mono ?_
  rintro e w1 ⟨rfl, hb⟩
  have HB := Lib.hid hb
  clear hb
  go_wp2_with fail
  refine (HI.out _).mono ?_
  rintro e w2 ⟨rfl, hb⟩
  have HC := Lib.hid (belI_call HB.out hb)
  clear hb
  go_wp2_with fail
  go_ret
  exact ⟨rfl, HC.out⟩
end Go.Proofs.Ytmffbjicjpgimaa
