/- The contracts of spec.Over, spec.Blend. No statement is proved here. -/
import Derived.Test.YtfehdcenmncbpaaPixM
import Derived.Test.YtfehdcenmncbpaaProg
import Derived.WalkKit
import Derived.ProofKit
import Derived.OpenShut
import Derived.WalkLawsBesides
import Derived.WalkSpells
import Derived.ShutString
import Derived.ChangeOld
import Derived.Below
import Derived.Lib.Hide
import Derived.Laws.BitsAllLaws
import Derived.Lib.QuoteBits
namespace Go.Proofs.Ytfehdcenmncbpaa
open Go.RowKit
theorem over_no {p q : Int} (h : ¬ (pixOk p ∧ pixOk q)) : over p q = -1 := if_neg h
theorem over_yes {p q : Int} (hp : pixOk p) (hq : pixOk q) : over p q = overK p q := if_pos ⟨hp, hq⟩
end Go.Proofs.Ytfehdcenmncbpaa
