/- The contract of impl.sameRow at rectangles. No statement is proved here. -/
import Derived.Test.YtaggldhlnjbnhaaRectC
import Derived.Test.YtaggldhlnjbnhaaProg
import Derived.WalkKit
import Derived.ProofKit
import Derived.OpenShut
import Derived.WalkLawsBesides
import Derived.WalkSpells
import Derived.ShutString
import Derived.ChangeOld
import Derived.Below
import Derived.Lib.Hide
import Derived.BigQuiet
import Derived.Deep.QuietTactic
import Derived.Maps.AppendAt
import Derived.Deep.Draws
import Derived.Deep.RegionHeld3
import Derived.Deep.DeepCutAuto
namespace Go.Proofs.Ytaggldhlnjbnhaa
open Go.RowKit
open Classical in
/-- Whether two lists of rectangles are equal. -/
noncomputable def sameL (L M : List Rc) : Bool := decide (L = M)
open Classical in
theorem sameL_yes {L M : List Rc} (h : L = M) : sameL L M = true := by unfold sameL; exact decide_eq_true h
end Go.Proofs.Ytaggldhlnjbnhaa
