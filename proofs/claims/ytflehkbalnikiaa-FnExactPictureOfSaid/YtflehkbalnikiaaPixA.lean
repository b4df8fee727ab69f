/- The contracts of impl.clamped, impl.MakePixel, impl.Fade: channels in a block of memory. No statement is proved here. -/
import Derived.Test.YtflehkbalnikiaaPixM
import Derived.Test.YtflehkbalnikiaaProg
import Derived.WalkKit
import Derived.ProofKit
import Derived.OpenShut
import Derived.WalkLawsBesides
import Derived.WalkSpells
import Derived.ShutString
import Derived.ChangeOld
import Derived.Below
import Derived.Lib.Hide
import Derived.Laws.BitsAllLaws
import Derived.Lib.QuoteBits
import Derived.Deep.RegionHeld3
namespace Go.Proofs.Ytflehkbalnikiaa
open Go.RowKit
section
variable {w w' : World} {g B : Nat} {a b c d : Int}
end
theorem px_call {a w w' : World} (h : Below a.heap.size a w) (hb : Below w.heap.size w w') : Below a.heap.size a w' := h.trans (hb.mono h.size)
end Go.Proofs.Ytflehkbalnikiaa
