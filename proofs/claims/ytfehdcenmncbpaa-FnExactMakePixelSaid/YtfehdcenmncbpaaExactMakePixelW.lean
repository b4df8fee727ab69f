/- The walk of the law FnExactMakePixel: it returns true for every four integers. -/
import Derived.Test.YtfehdcenmncbpaaPixM
import Derived.Test.YtfehdcenmncbpaaPixS
import Derived.Test.YtfehdcenmncbpaaPixB
import Derived.Test.YtfehdcenmncbpaaProg
import Derived.WalkKit
import Derived.ProofKit
import Derived.OpenShut
import Derived.WalkLawsBesides
import Derived.WalkSpells
import Derived.ShutString
import Derived.ChangeOld
import Derived.Below
import Derived.Lib.Hide
import Derived.Laws.BitsAllLaws
import Derived.Lib.QuoteBits
import Derived.Deep.RegionHeld3
import Derived.ChangeKeysEq
namespace Go.Proofs.Ytfehdcenmncbpaa
open Go.RowKit
theorem walk_FnExactMakePixel (a : Int) (_ : (Lit.int .i64 a).wf = true) (r : Int) (_ : (Lit.int .i64 r).wf = true) (g : Int) (_ : (Lit.int .i64 g).wf = true) (b : Int) (_ : (Lit.int .i64 b).wf = true) (w : World) :
    Calls Try.prog 10 #[.int .i64 a, .int .i64 r, .int .i64 g, .int .i64 b] w fun e w' => e = .returned (.bool true) ∧ Below w.heap.size w w' := by
  obtain ⟨v, hv⟩ : ∃ v, v = mkPix a r g b := ⟨_, rfl⟩
  have hS := mkS_any a r g b
  have hI := mkI_any a r g b
  rw [← hv] at hS hI
  have HS := Lib.hid hS
  have HI := Lib.hid hI
  clear hS hI hv
  go_enter Try.func10, Try.ntmps10
  go_wp2_with fail
  refine (HS.out _).mono ?_
  rintro e w1 ⟨rfl, rfl⟩
  go_wp2_with fail
  refine (HI.out _).mono ?_
  rintro e w1 ⟨rfl, hb⟩
  go_wp2_with fail
  go_ret
  exact ⟨rfl, hb⟩
end Go.Proofs.Ytfehdcenmncbpaa
