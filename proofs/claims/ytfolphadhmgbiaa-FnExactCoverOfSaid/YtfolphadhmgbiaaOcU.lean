/- CoverOf's contracts in the uniform form. No statement is proved here. -/
import Derived.Test.YtfolphadhmgbiaaMA
import Derived.Test.YtfolphadhmgbiaaMC
import Derived.Test.YtfolphadhmgbiaaOcM
import Derived.Test.YtfolphadhmgbiaaMB
import Derived.Test.YtfolphadhmgbiaaPlH
import Derived.Test.YtfolphadhmgbiaaOcK
import Derived.Test.YtfolphadhmgbiaaOcS
import Derived.Test.YtfolphadhmgbiaaProg
import Derived.WalkKit
import Derived.ProofKit
import Derived.OpenShut
import Derived.WalkLawsBesides
import Derived.WalkSpells
import Derived.ShutString
import Derived.ChangeOld
import Derived.Below
import Derived.Lib.Hide
import Derived.BigQuiet
import Derived.Deep.QuietTactic
import Derived.Maps.AppendAt
import Derived.Deep.OwnRows
import Derived.Handy
import Derived.Deep.Draws
import Derived.OwnWalk
import Derived.Deep.AppendLies
import Derived.Deep.LoopGhost
import Derived.Deep.Onto
import Derived.Deep.MidRow
import Derived.Deep.WholeRow
import Derived.Laws.BitsAllLaws
import Derived.Lib.QuoteBits
import Derived.Deep.RegionHeld3
import Derived.Deep.DeepCutAuto
import Derived.Test.YtfolphadhmgbiaaShelf
import Derived.Laws.CopyOwn
import Derived.Deep.RegionLaw
import Derived.Great.BuildSlice
import Derived.Shelf.RegionOpenPlain
import Derived.Lib.SliceRun
import Derived.Deep.RegionWith
import Derived.Laws.AppendOwn
import Derived.ChangeKeysEq
import Derived.Deep.DeepAppendRoom
namespace Go.Proofs.Ytfolphadhmgbiaa
open Go.RowKit
def RgU (Q : List Rc) (w : World) (e : Ending) (w' : World) : Prop := ∃ u bs, e = .returned (.agg #[u]) ∧ repRg.Own w.heap.size w' Q [u] bs ∧ Below w.heap.size w w'
theorem rgU {Q : List Rc} {w : World} {e : Ending} {w' : World} (h : RgQ Q w e w') : RgU Q w e w' := by
  obtain ⟨v, he, ho, hb⟩ := h
  exact ⟨v, _, he, rg_own ho, hb⟩
theorem covM_len (s : Sn) (k : Int) : (covM s k).length ≤ 256 := by
  unfold covM
  split
  · exact canon_len _
  · exact Nat.zero_le _
theorem covS' (s : Sn) (k : Int) (v : Value) (bs : List Nat) (w : World) (h : repSfs.R w s.fs [v] bs) : Calls Try.prog 47 #[.agg #[.int .i64 s.w, .int .i64 s.h, .int .i64 s.back, v], .int .i64 k] w (RgU (covM s k) w) := (covS s k v bs w h).mono fun _ _ h => rgU h
theorem covI' (s : Sn) (k : Int) (v : Value) (bs : List Nat) (w : World) (h : repSfs.R w s.fs [v] bs) : Calls Try.prog 48 #[.agg #[.int .i64 s.w, .int .i64 s.h, .int .i64 s.back, v], .int .i64 k] w (RgU (covM s k) w) := (covI s k v bs w h).mono fun _ _ h => rgU h
end Go.Proofs.Ytfolphadhmgbiaa
