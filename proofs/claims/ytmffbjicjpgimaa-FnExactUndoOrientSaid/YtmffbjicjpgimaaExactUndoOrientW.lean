/- The walk of the law FnExactUndoOrient: it returns true for every number. -/
import Derived.Test.YtmffbjicjpgimaaPixM
import Derived.Test.YtmffbjicjpgimaaHasC
import Derived.Test.YtmffbjicjpgimaaOriP
import Derived.Test.YtmffbjicjpgimaaProg
import Derived.WalkKit
import Derived.ProofKit
import Derived.OpenShut
import Derived.WalkLawsBesides
import Derived.WalkSpells
import Derived.ShutString
import Derived.ChangeOld
import Derived.Below
import Derived.Lib.Hide
import Derived.Deep.MidRow
import Derived.Deep.WholeRow
import Derived.Maps.AppendAt
import Derived.BigQuiet
import Derived.Deep.QuietTactic
import Derived.Deep.OwnRows
import Derived.Handy
import Derived.Deep.Draws
import Derived.OwnWalk
import Derived.Deep.AppendLies
import Derived.Deep.LoopGhost
import Derived.Deep.Onto
import Derived.Laws.BitsAllLaws
import Derived.Lib.QuoteBits
import Derived.Deep.RegionHeld3
import Derived.Deep.DeepCutAuto
namespace Go.Proofs.Ytmffbjicjpgimaa
open Go.RowKit
set_option maxHeartbeats 600000 in
theorem walk_FnExactUndoOrient (p0 : Int) (_ : (Lit.int .i64 p0).wf = true) (w : World) :
    Calls Try.prog 9 #[.int .i64 p0] w fun e w' => e = .returned (.bool true) ∧ Below w.heap.size w w' := by
  obtain ⟨q, hq⟩ : ∃ q, unM p0 = q := ⟨_, rfl⟩
  have PS := fun W => unS p0 W
  have PI := fun W => unI p0 W
  unfold OneAns at PS PI
  rw [hq] at PS PI
  have HS := Lib.hid PS
  have HI := Lib.hid PI
  clear PS PI hq
  go_enter Try.func9, Try.ntmps9
  go_wp2_with fail
  refine (HS.out _).mono ?_
  rintro e w1 ⟨rfl, rfl⟩
  go_wp2_with fail
  refine (HI.out _).mono ?_
  rintro e w2 ⟨rfl, rfl⟩
  go_wp2_with fail
  go_ret
  exact ⟨rfl, Below.refl _ _⟩
end Go.Proofs.Ytmffbjicjpgimaa
