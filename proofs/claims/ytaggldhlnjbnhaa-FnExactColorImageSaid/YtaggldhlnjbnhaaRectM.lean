/- Plain mathematics of intersections and bounds. No statement is proved here. -/
import Derived.Test.YtaggldhlnjbnhaaRectC
import Derived.Test.YtaggldhlnjbnhaaIsectP
import Derived.Test.YtaggldhlnjbnhaaHasC
import Derived.Test.YtaggldhlnjbnhaaProg
import Derived.WalkKit
import Derived.ProofKit
import Derived.OpenShut
import Derived.WalkLawsBesides
import Derived.WalkSpells
import Derived.ShutString
import Derived.ChangeOld
import Derived.Below
import Derived.Lib.Hide
import Derived.Deep.RegionHeld3
import Derived.Deep.DeepCutAuto
namespace Go.Proofs.Ytaggldhlnjbnhaa
theorem isect_cases (a b : Rc) (ha : a.ok) (hb : b.ok) : (isectIn a b ∧ isect a b = isectRaw a b) ∨ (¬ isectIn a b ∧ isect a b = ⟨0, 0, 0, 0⟩) := by
  by_cases h : isectIn a b
  · exact .inl ⟨h, isect_yes ha hb h⟩
  · exact .inr ⟨h, isect_no (fun k => h k.2.2)⟩
end Go.Proofs.Ytaggldhlnjbnhaa
