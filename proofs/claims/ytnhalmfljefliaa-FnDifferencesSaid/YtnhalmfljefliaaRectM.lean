/- Plain mathematics of intersections and bounds. No statement is proved here. -/
import Derived.Test.YtnhalmfljefliaaHasC
import Derived.Test.YtnhalmfljefliaaBndP
import Derived.Test.YtnhalmfljefliaaMA
namespace Go.Proofs.Ytnhalmfljefliaa
/-- A rectangle as l02Rect draws it. -/
def SmallRc (r : Rc) : Prop := -4 ≤ r.x ∧ r.x ≤ 15 ∧ -4 ≤ r.y ∧ r.y ≤ 11 ∧ 0 ≤ r.w ∧ r.w ≤ 11 ∧ 0 ≤ r.h ∧ r.h ≤ 9
theorem SmallRc.ok {r : Rc} (h : SmallRc r) : r.ok := by unfold SmallRc at h; unfold Rc.ok; omega
theorem isect_cases (a b : Rc) (ha : a.ok) (hb : b.ok) : (isectIn a b ∧ isect a b = isectRaw a b) ∨ (¬ isectIn a b ∧ isect a b = ⟨0, 0, 0, 0⟩) := by
  by_cases h : isectIn a b
  · exact .inl ⟨h, isect_yes ha hb h⟩
  · exact .inr ⟨h, isect_no (fun k => h k.2.2)⟩
theorem isect_ok (a b : Rc) (ha : a.ok) (hb : b.ok) : (isect a b).ok := by
  rcases isect_cases a b ha hb with ⟨h, e⟩ | ⟨h, e⟩
  · rw [e]; unfold isectRaw Rc.ok; unfold isectIn at h; unfold Rc.ok at ha hb; dsimp only; omega
  · rw [e]; unfold Rc.ok; dsimp only; omega
theorem isect_comm (a b : Rc) (ha : a.ok) (hb : b.ok) : isect b a = isect a b := by
  rcases isect_cases a b ha hb with ⟨h, e⟩ | ⟨h, e⟩ <;> rcases isect_cases b a hb ha with ⟨k, f⟩ | ⟨k, f⟩
  · rw [e, f]; unfold isectRaw; rw [Int.max_comm b.x, Int.max_comm b.y, Int.min_comm (b.x + b.w), Int.min_comm (b.y + b.h)]
  · unfold isectIn at h k; omega
  · unfold isectIn at h k; omega
  · rw [e, f]
theorem has_isect (a b : Rc) (ha : a.ok) (hb : b.ok) (x y : Int) : hasB (isect a b) x y = (hasB a x y && hasB b x y) := by
  have ho := isect_ok a b ha hb
  rcases isect_cases a b ha hb with ⟨h, e⟩ | ⟨h, e⟩
  · by_cases k : (a.ok ∧ a.x ≤ x ∧ x < a.x + a.w ∧ a.y ≤ y ∧ y < a.y + a.h) ∧ (b.ok ∧ b.x ≤ x ∧ x < b.x + b.w ∧ b.y ≤ y ∧ y < b.y + b.h)
    · rw [has_yes k.1, has_yes k.2, has_yes ⟨ho, by rw [e]; unfold isectRaw; dsimp only; omega⟩]; rfl
    · rw [has_no (r := isect a b) (fun q => by rw [e] at q; unfold isectRaw at q; dsimp only at q; exact k ⟨⟨ha, by omega⟩, hb, by omega⟩)]
      by_cases k1 : (a.ok ∧ a.x ≤ x ∧ x < a.x + a.w ∧ a.y ≤ y ∧ y < a.y + a.h)
      · rw [has_no (r := b) (fun q => k ⟨k1, q⟩)]; simp
      · rw [has_no k1]; simp
  · rw [has_no (r := isect a b) (fun q => by rw [e] at q; dsimp only at q; omega)]
    by_cases k1 : (a.ok ∧ a.x ≤ x ∧ x < a.x + a.w ∧ a.y ≤ y ∧ y < a.y + a.h)
    · rw [has_no (r := b) (fun q => h (by unfold isectIn; omega))]; simp
    · rw [has_no k1]; simp
theorem cov_of {a b : Rc} (ha : a.ok) (hb : b.ok) (h : b.emp ∨ (b.x ≥ a.x ∧ b.x + b.w ≤ a.x + a.w ∧ b.y ≥ a.y ∧ b.y + b.h ≤ a.y + a.h)) : covB a b = true := by
  by_cases he : b.emp
  · exact cov_yes ⟨ha, hb, .inl he⟩
  · have h' := h.resolve_left he
    refine cov_yes ⟨ha, hb, .inr ?_⟩
    unfold Rc.emp at he
    have h1 := ha; have h2 := hb
    unfold Rc.ok at h1 h2
    rw [isect_yes ha hb (by unfold isectIn; omega)]
    exact rc_ext (by unfold isectRaw; dsimp only; omega)
theorem cov_isect (a b : Rc) (ha : a.ok) (hb : b.ok) : covB a (isect a b) = true := by
  refine cov_of ha (isect_ok a b ha hb) ?_
  rcases isect_cases a b ha hb with ⟨h, e⟩ | ⟨h, e⟩
  · rw [e]; unfold isectRaw; unfold isectIn at h; dsimp only; right; omega
  · rw [e]; unfold Rc.emp; dsimp only; left; omega
theorem bounds_all (a b : Rc) (ha : SmallRc a) (hb : SmallRc b) : (boundsR a b).ok ∧ covB (boundsR a b) a = true ∧ covB (boundsR a b) b = true := by
  have oa := ha.ok; have ob := hb.ok
  have z : (⟨0, 0, 0, 0⟩ : Rc).ok := by unfold Rc.ok; dsimp only; omega
  by_cases ea : a.emp
  · by_cases eb : b.emp
    · rw [bnd_both oa ob ea eb]; exact ⟨z, cov_of z oa (.inl ea), cov_of z ob (.inl eb)⟩
    · rw [bnd_a oa ob ea eb]; exact ⟨ob, cov_of ob oa (.inl ea), cov_of ob ob (.inr (by omega))⟩
  · by_cases eb : b.emp
    · rw [bnd_b oa ob ea eb]; exact ⟨oa, cov_of oa oa (.inr (by omega)), cov_of oa ob (.inl eb)⟩
    · have ou : (unionRaw a b).ok := by unfold unionRaw Rc.ok; unfold SmallRc at ha hb; dsimp only; omega
      rw [bnd_yes oa ob ea eb ou]
      exact ⟨ou, cov_of ou oa (.inr (by unfold unionRaw; dsimp only; omega)), cov_of ou ob (.inr (by unfold unionRaw; dsimp only; omega))⟩
end Go.Proofs.Ytnhalmfljefliaa
