/- CoverOf's contracts in the uniform form. No statement is proved here. -/
import Derived.Test.YtfolphadhmgbiaaGreatMA
import Derived.Test.YtfolphadhmgbiaaGreatMC
import Derived.Test.YtfolphadhmgbiaaGreatMB
import Derived.Test.YtfolphadhmgbiaaGreatOcK
import Derived.Test.YtfolphadhmgbiaaGreatProg
import Derived.WalkKit
import Derived.ProofKit
import Derived.OpenShut
import Derived.WalkLawsBesides
import Derived.WalkSpells
import Derived.ShutString
import Derived.ChangeOld
import Derived.Below
import Derived.Lib.Hide
import Derived.BigQuiet
import Derived.Deep.QuietTactic
import Derived.Maps.AppendAt
import Derived.Deep.OwnRows
import Derived.Handy
import Derived.Deep.Draws
import Derived.OwnWalk
import Derived.Deep.AppendLies
import Derived.Deep.LoopGhost
import Derived.Deep.Onto
import Derived.Deep.MidRow
import Derived.Deep.WholeRow
import Derived.Laws.BitsAllLaws
import Derived.Lib.QuoteBits
import Derived.Deep.RegionHeld3
import Derived.Deep.DeepCutAuto
import Derived.Test.YtfolphadhmgbiaaGreatShelf
import Derived.Laws.CopyOwn
import Derived.Deep.RegionLaw
import Derived.Great.BuildSlice
import Derived.Shelf.RegionOpenPlain
import Derived.Lib.SliceRun
import Derived.Deep.RegionWith
import Derived.Laws.AppendOwn
import Derived.ChangeKeysEq
import Derived.Deep.DeepAppendRoom
namespace Go.Proofs.YtfolphadhmgbiaaGreat
open Go.RowKit
def RgU (Q : List Rc) (w : World) (e : Ending) (w' : World) : Prop := ∃ u bs, e = .returned (.agg #[u]) ∧ repRg.Own w.heap.size w' Q [u] bs ∧ Below w.heap.size w w'
theorem rgU {Q : List Rc} {w : World} {e : Ending} {w' : World} (h : RgQ Q w e w') : RgU Q w e w' := by
  obtain ⟨v, he, ho, hb⟩ := h
  exact ⟨v, _, he, rg_own ho, hb⟩
end Go.Proofs.YtfolphadhmgbiaaGreat
