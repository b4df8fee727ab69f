/- VisibleOf's contracts in the uniform form. No statement is proved here. -/
import Derived.Test.YtfolphadhmgbiaaGreatMA
import Derived.Test.YtfolphadhmgbiaaGreatMC
import Derived.Test.YtfolphadhmgbiaaGreatPlH
import Derived.Test.YtfolphadhmgbiaaGreatOcM
import Derived.Test.YtfolphadhmgbiaaGreatOvI
import Derived.Test.YtfolphadhmgbiaaGreatOcU
import Derived.Test.YtfolphadhmgbiaaGreatProg
import Derived.WalkKit
import Derived.ProofKit
import Derived.OpenShut
import Derived.WalkLawsBesides
import Derived.WalkSpells
import Derived.ShutString
import Derived.ChangeOld
import Derived.Below
import Derived.Lib.Hide
import Derived.BigQuiet
import Derived.Deep.QuietTactic
import Derived.Maps.AppendAt
import Derived.Deep.OwnRows
import Derived.Handy
import Derived.Deep.Draws
import Derived.OwnWalk
import Derived.Deep.AppendLies
import Derived.Deep.LoopGhost
import Derived.Deep.Onto
import Derived.Deep.MidRow
import Derived.Deep.WholeRow
import Derived.Laws.BitsAllLaws
import Derived.Lib.QuoteBits
import Derived.Deep.RegionHeld3
import Derived.Deep.DeepCutAuto
import Derived.Test.YtfolphadhmgbiaaGreatShelf
import Derived.Laws.CopyOwn
import Derived.Deep.RegionLaw
import Derived.Great.BuildSlice
import Derived.Shelf.RegionOpenPlain
import Derived.Lib.SliceRun
import Derived.Deep.RegionWith
import Derived.Laws.AppendOwn
import Derived.ChangeKeysEq
import Derived.Deep.DeepAppendRoom
namespace Go.Proofs.YtfolphadhmgbiaaGreat
open Go.RowKit
theorem visM_len (s : Sn) (k : Int) : (visM s k).length ≤ 256 := by
  unfold visM
  split
  · split
    · exact joinL_len _ _ _
    · exact Nat.zero_le _
  · exact Nat.zero_le _
theorem visS' (s : Sn) (k : Int) (v : Value) (bs : List Nat) (w : World) (h : repSfs.R w s.fs [v] bs) : Calls Tryz.prog 44 #[.agg #[.int .i64 s.w, .int .i64 s.h, .int .i64 s.back, v], .int .i64 k] w (RgU (visM s k) w) := (visS s k v bs w h).mono fun _ _ h => rgU h
theorem visI' (s : Sn) (k : Int) (v : Value) (bs : List Nat) (w : World) (h : repSfs.R w s.fs [v] bs) : Calls Tryz.prog 18 #[.agg #[.int .i64 s.w, .int .i64 s.h, .int .i64 s.back, v], .int .i64 k] w (RgU (visM s k) w) := (visI s k v bs w h).mono fun _ _ h => rgU h
end Go.Proofs.YtfolphadhmgbiaaGreat
