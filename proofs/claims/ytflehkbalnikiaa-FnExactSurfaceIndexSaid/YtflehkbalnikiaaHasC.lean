/- The contracts of impl.HasPoint and spec.HasPoint. No statement is proved here. -/
import Derived.Test.YtflehkbalnikiaaRectC
import Derived.Test.YtflehkbalnikiaaProg
import Derived.WalkKit
import Derived.ProofKit
import Derived.OpenShut
import Derived.WalkLawsBesides
import Derived.WalkSpells
import Derived.ShutString
import Derived.ChangeOld
import Derived.Below
import Derived.Lib.Hide
import Derived.Deep.RegionHeld3
import Derived.Deep.DeepCutAuto
namespace Go.Proofs.Ytflehkbalnikiaa
open Go.RowKit
instance (r : Rc) : Decidable r.ok := by unfold Rc.ok; infer_instance
end Go.Proofs.Ytflehkbalnikiaa
