/- The contracts of impl.HasPoint and spec.HasPoint. No statement is proved here. -/
import Derived.Test.YteipkfoeghagaaaRectC
import Derived.Test.YteipkfoeghagaaaProg
import Derived.WalkKit
import Derived.ProofKit
import Derived.OpenShut
import Derived.WalkLawsBesides
import Derived.WalkSpells
import Derived.ShutString
import Derived.ChangeOld
import Derived.Below
import Derived.Lib.Hide
import Derived.Deep.RegionHeld3
import Derived.Deep.DeepCutAuto
namespace Go.Proofs.Yteipkfoeghagaaa
open Go.RowKit
instance (r : Rc) : Decidable r.ok := by unfold Rc.ok; infer_instance
/-- Whether a valid rectangle contains a point. -/
def hasB (r : Rc) (x y : Int) : Bool := decide (r.ok ∧ r.x ≤ x ∧ x < r.x + r.w ∧ r.y ≤ y ∧ y < r.y + r.h)
theorem has_no {r : Rc} {x y : Int} (h : ¬ (r.ok ∧ r.x ≤ x ∧ x < r.x + r.w ∧ r.y ≤ y ∧ y < r.y + r.h)) : hasB r x y = false := decide_eq_false h
end Go.Proofs.Yteipkfoeghagaaa
