/- Plain mathematics of intersections and bounds. No statement is proved here. -/
import Derived.Test.YtfehdcenmncbpabRectC
import Derived.Test.YtfehdcenmncbpabIsectP
import Derived.Test.YtfehdcenmncbpabCoverC
import Derived.Test.YtfehdcenmncbpabHasC
import Derived.Test.YtfehdcenmncbpabProg
import Derived.WalkKit
import Derived.ProofKit
import Derived.OpenShut
import Derived.WalkLawsBesides
import Derived.WalkSpells
import Derived.ShutString
import Derived.ChangeOld
import Derived.Below
import Derived.Lib.Hide
import Derived.Deep.RegionHeld3
import Derived.Deep.DeepCutAuto
namespace Go.Proofs.Ytfehdcenmncbpab
theorem isect_cases (a b : Rc) (ha : a.ok) (hb : b.ok) : (isectIn a b ∧ isect a b = isectRaw a b) ∨ (¬ isectIn a b ∧ isect a b = ⟨0, 0, 0, 0⟩) := by
  by_cases h : isectIn a b
  · exact .inl ⟨h, isect_yes ha hb h⟩
  · exact .inr ⟨h, isect_no (fun k => h k.2.2)⟩
theorem cov_of {a b : Rc} (ha : a.ok) (hb : b.ok) (h : b.emp ∨ (b.x ≥ a.x ∧ b.x + b.w ≤ a.x + a.w ∧ b.y ≥ a.y ∧ b.y + b.h ≤ a.y + a.h)) : covB a b = true := by
  by_cases he : b.emp
  · exact cov_yes ⟨ha, hb, .inl he⟩
  · have h' := h.resolve_left he
    refine cov_yes ⟨ha, hb, .inr ?_⟩
    unfold Rc.emp at he
    have h1 := ha; have h2 := hb
    unfold Rc.ok at h1 h2
    rw [isect_yes ha hb (by unfold isectIn; omega)]
    exact rc_ext (by unfold isectRaw; dsimp only; omega)
end Go.Proofs.Ytfehdcenmncbpab
