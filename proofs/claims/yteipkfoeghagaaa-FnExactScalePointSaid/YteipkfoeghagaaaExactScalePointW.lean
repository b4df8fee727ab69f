/- The walk of the law FnExactScalePoint: it returns true for every three numbers. -/
import Derived.Test.YteipkfoeghagaaaOriP
import Derived.Test.YteipkfoeghagaaaSclM
import Derived.Test.YteipkfoeghagaaaProg
import Derived.WalkKit
import Derived.ProofKit
import Derived.OpenShut
import Derived.WalkLawsBesides
import Derived.WalkSpells
import Derived.ShutString
import Derived.ChangeOld
import Derived.Below
import Derived.Lib.Hide
import Derived.Deep.MidRow
import Derived.Deep.WholeRow
import Derived.Maps.AppendAt
import Derived.BigQuiet
import Derived.Deep.QuietTactic
import Derived.Deep.OwnRows
import Derived.Handy
import Derived.Deep.Draws
import Derived.OwnWalk
import Derived.Deep.AppendLies
import Derived.Deep.LoopGhost
import Derived.Deep.Onto
import Derived.Laws.BitsAllLaws
import Derived.Lib.QuoteBits
import Derived.Deep.RegionHeld3
import Derived.Deep.DeepCutAuto
namespace Go.Proofs.Yteipkfoeghagaaa
open Go.RowKit
set_option maxHeartbeats 600000 in
theorem walk_FnExactScalePoint (p0 : Int) (_ : (Lit.int .i64 p0).wf = true) (p1 : Int) (wf1 : (Lit.int .i64 p1).wf = true) (p2 : Int) (_ : (Lit.int .i64 p2).wf = true) (w : World) :
    Calls Try.prog 4 #[.int .i64 p0, .int .i64 p1, .int .i64 p2] w fun e w' => e = .returned (.bool true) ∧ Below w.heap.size w w' := by
  obtain ⟨q, hq⟩ : ∃ q, sclM p0 p1 p2 = q := ⟨_, rfl⟩
  have PS := fun W => scS p0 p1 p2 wf1 W
  have PI := fun W => scI p0 p1 p2 wf1 W
  unfold OneAns at PS PI
  rw [hq] at PS PI
  have HS := Lib.hid PS
  have HI := Lib.hid PI
  clear PS PI hq
  go_enter Try.func4, Try.ntmps4
  go_wp2_with fail
  refine (HS.out _).mono ?_
  rintro e w1 ⟨rfl, rfl⟩
  go_wp2_with fail
  refine (HI.out _).mono ?_
  rintro e w2 ⟨rfl, rfl⟩
  go_wp2_with fail
  go_ret
  exact ⟨rfl, Below.refl _ _⟩
end Go.Proofs.Yteipkfoeghagaaa
