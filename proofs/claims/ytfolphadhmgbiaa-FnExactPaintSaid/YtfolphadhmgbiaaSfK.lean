/- PictureOf's contracts in the uniform form. No statement is proved here. -/
import Derived.Test.YtfolphadhmgbiaaMA
import Derived.Test.YtfolphadhmgbiaaMB
import Derived.Test.YtfolphadhmgbiaaLk
import Derived.Test.YtfolphadhmgbiaaMC
import Derived.Test.YtfolphadhmgbiaaProg
import Derived.WalkKit
import Derived.ProofKit
import Derived.OpenShut
import Derived.WalkLawsBesides
import Derived.WalkSpells
import Derived.ShutString
import Derived.ChangeOld
import Derived.Below
import Derived.Lib.Hide
import Derived.BigQuiet
import Derived.Deep.QuietTactic
import Derived.Maps.AppendAt
import Derived.Deep.OwnRows
import Derived.Handy
import Derived.Deep.Draws
import Derived.OwnWalk
import Derived.Deep.AppendLies
import Derived.Deep.LoopGhost
import Derived.Deep.Onto
import Derived.Deep.MidRow
import Derived.Deep.WholeRow
import Derived.Laws.BitsAllLaws
import Derived.Lib.QuoteBits
import Derived.Deep.RegionHeld3
import Derived.Deep.DeepCutAuto
import Derived.Test.YtfolphadhmgbiaaShelf
import Derived.Laws.CopyOwn
import Derived.Deep.RegionLaw
import Derived.Great.BuildSlice
import Derived.Laws.AppendOwn
import Derived.ChangeKeysEq
namespace Go.Proofs.Ytfolphadhmgbiaa
open Go.RowKit
def ImK (I : Im) (w : World) (e : Ending) (w' : World) : Prop := ∃ u bs, e = .returned (.agg #[.int .i64 I.w, .int .i64 I.h, u]) ∧ repIm.Own w.heap.size w' I [.int .i64 I.w, .int .i64 I.h, u] bs ∧ Below w.heap.size w w'
theorem imK {I : Im} {w : World} {e : Ending} {w' : World} (h : AnsIm I w e w') : ImK I w e w' := by
  obtain ⟨u, he, ho, hb⟩ := h
  have h := ints_own ho
  exact ⟨u, _, he, ⟨⟨u, rfl, h.r⟩, h.nd, h.lo⟩, hb⟩
end Go.Proofs.Ytfolphadhmgbiaa
