/- The contracts of RegionOf and RegionOk, of the program and of its model. No statement is proved here. -/
import Derived.Test.YtmffbjicjpgimaaRectC
import Derived.Test.YtmffbjicjpgimaaRegM
import Derived.Test.YtmffbjicjpgimaaHasC
import Derived.Test.YtmffbjicjpgimaaSameI
import Derived.Test.YtmffbjicjpgimaaProg
import Derived.WalkKit
import Derived.ProofKit
import Derived.OpenShut
import Derived.WalkLawsBesides
import Derived.WalkSpells
import Derived.ShutString
import Derived.ChangeOld
import Derived.Below
import Derived.Lib.Hide
import Derived.BigQuiet
import Derived.Deep.QuietTactic
import Derived.Maps.AppendAt
import Derived.Deep.Draws
import Derived.Deep.MidRow
import Derived.Deep.WholeRow
import Derived.Deep.OwnRows
import Derived.Deep.RegionHeld3
import Derived.Deep.DeepCutAuto
import Derived.Deep.LoopGhost
import Derived.OwnWalk
import Derived.Deep.AppendLies
import Derived.Deep.Onto
import Derived.Laws.AppendOwn
namespace Go.Proofs.Ytmffbjicjpgimaa
open Go.RowKit
/-- Whether a list of rectangles is a canonical form. -/
noncomputable def okL (L : List Rc) : Bool := sameL (canon (gridOf L)) L
end Go.Proofs.Ytmffbjicjpgimaa
