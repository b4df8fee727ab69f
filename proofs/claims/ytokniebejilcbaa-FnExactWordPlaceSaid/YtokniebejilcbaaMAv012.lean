/- Texts of mine in one file: ImO. No statement is proved here. -/
import Derived.Test.YtokniebejilcbaaMA
import Derived.Test.YtokniebejilcbaaProg
import Derived.WalkKit
import Derived.ProofKit
import Derived.OpenShut
import Derived.WalkLawsBesides
import Derived.WalkSpells
import Derived.ShutString
import Derived.ChangeOld
import Derived.Below
import Derived.Lib.Hide
import Derived.BigQuiet
import Derived.Deep.QuietTactic
import Derived.Maps.AppendAt
import Derived.Deep.OwnRows
import Derived.Handy
import Derived.Deep.Draws
import Derived.OwnWalk
import Derived.Deep.AppendLies
import Derived.Deep.LoopGhost
import Derived.Deep.Onto
import Derived.Laws.BitsAllLaws
import Derived.Lib.QuoteBits
namespace Go.Proofs.Ytokniebejilcbaa
open Go.RowKit
theorem sz_pos {W H : Int} (h : szOk W H) : 1 ≤ W * H := by
 obtain ⟨h1, h2, h3, h4⟩ := h
 have := Int.mul_le_mul (a := 1) (b := 1) (c := W) (d := H) h1 h3 (by omega) (by omega)
 omega
end Go.Proofs.Ytokniebejilcbaa
