/- Plain mathematics of pixels: their channels, parts, one over another; and of the bit operations that pack them. No statement is proved here. -/
import Derived.Test.YteipkfoeghagaaaProg
import Derived.WalkKit
import Derived.ProofKit
import Derived.OpenShut
import Derived.WalkLawsBesides
import Derived.WalkSpells
import Derived.ShutString
import Derived.ChangeOld
import Derived.Below
import Derived.Lib.Hide
import Derived.Laws.BitsAllLaws
import Derived.Lib.QuoteBits
namespace Go.Proofs.Yteipkfoeghagaaa
open Go.RowKit
/-- Whether a number is a pixel; a channel. -/
def pixOk (p : Int) : Prop := 0 ≤ p ∧ p ≤ 4294967295
instance (p : Int) : Decidable (pixOk p) := by unfold pixOk; infer_instance
end Go.Proofs.Yteipkfoeghagaaa
