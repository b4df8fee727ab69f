/- Texts of mine in one file: LdU. No statement is proved here. -/
import Derived.Test.YtokniebejilcbaaMB
import Derived.Test.YtokniebejilcbaaMA
import Derived.Test.YtokniebejilcbaaLdI
import Derived.Test.YtokniebejilcbaaLdS
import Derived.Test.YtokniebejilcbaaProg
import Derived.WalkKit
import Derived.ProofKit
import Derived.OpenShut
import Derived.WalkLawsBesides
import Derived.WalkSpells
import Derived.ShutString
import Derived.ChangeOld
import Derived.Below
import Derived.Lib.Hide
import Derived.BigQuiet
import Derived.Deep.QuietTactic
import Derived.Maps.AppendAt
import Derived.Deep.OwnRows
import Derived.Handy
import Derived.Deep.Draws
import Derived.OwnWalk
import Derived.Deep.AppendLies
import Derived.Deep.LoopGhost
import Derived.Deep.Onto
import Derived.RangeFuncNested
import Derived.RangeFuncCalls
import Derived.RangeFuncFrom
import Derived.Shelf.Abstract
import Derived.Shelf.RegionOpen
import Derived.OwnWalkIn
import Derived.TacticsInMore
import Derived.LoopNIn
import Derived.LoopIn
import Derived.Deep.MidRow
import Derived.Deep.WholeRow
import Derived.Laws.BitsAllLaws
import Derived.Lib.QuoteBits
import Derived.Deep.RegionHeld3
import Derived.Deep.DeepCutAuto
import Derived.Test.YtokniebejilcbaaShelf
import Derived.Laws.CopyOwn
import Derived.Deep.RegionLaw
import Derived.Great.BuildSlice
import Derived.Laws.AppendOwn
import Derived.Carry
import Derived.Maps.Own
import Derived.ChangeKeysEq
import Derived.Deep.RegionWith
import Derived.Shelf.RegionOpenPlain
import Derived.Lib.SliceRun
import Derived.Deep.DeepAppendRoom
namespace Go.Proofs.Ytokniebejilcbaa
open Go.RowKit
def LdK (I : Im) (z : Bool) (w : World) (e : Ending) (w' : World) : Prop := ∃ u bs, e = .returned (.tuple #[.agg #[.int .i64 I.w, .int .i64 I.h, u], .bool z]) ∧ repIm.Own w.heap.size w' I [.int .i64 I.w, .int .i64 I.h, u] bs ∧ Below w.heap.size w w'
theorem ldK {I : Im} {z : Bool} {w : World} {e : Ending} {w' : World} (h : LdAns I z w e w') : LdK I z w e w' := by
 obtain ⟨u, he, ho, hb⟩ := h
 have h := ints_own ho
 exact ⟨u, _, he, ⟨⟨u, rfl, h.r⟩, h.nd, h.lo⟩, hb⟩
theorem wr_il {w : World} {f : List Int} {d : Value} (h : wkInts.R w f [d]) : Rd w d f.length (intCells f) := by
 obtain ⟨v, e, h2⟩ := h
 obtain rfl : d = v := by simpa using e
 exact h2
theorem wform_il {w : World} {f : List Int} {d : Value} (h : wkInts.R w f [d]) : ∃ A c, d = .slice A f.length c := (wr_il h).form
theorem to_il (f : List Int) (d : Value) (w : World) (hr : wkInts.R w f [d]) (hm : f.length ≤ 1048576) : Calls Try.prog 26 #[d] w fun e w' => ∃ u bs, e = .returned u ∧ repInts.Own w.heap.size w' f [u] bs ∧ Below w.heap.size w w' := by
 refine (toIO d f w hm (wr_il hr)).mono ?_
 rintro e w1 ⟨u, rfl, ho, hb⟩
 exact ⟨u, _, rfl, repInts_own ho, hb⟩
theorem ldS' (X Y l : Int) (v : Value) (ws : List Int) (w : World) (hws : ws.length ≤ 2000000) (hv : RdI w v ws) : Calls Try.prog 25 #[v, .int .i64 X, .int .i64 Y, .int .i64 l] w (LdK (ldM ws X Y l) (ldB ws X Y l) w) := (ldS X Y l v ws w hv hws).mono fun _ _ h => ldK h
theorem ldI' (X Y l : Int) (v : Value) (ws : List Int) (w : World) (hws : ws.length ≤ 2000000) (hv : RdI w v ws) : Calls Try.prog 27 #[v, .int .i64 X, .int .i64 Y, .int .i64 l] w (LdK (ldM ws X Y l) (ldB ws X Y l) w) := (ldI X Y l v ws w hv hws).mono fun _ _ h => ldK h
end Go.Proofs.Ytokniebejilcbaa
