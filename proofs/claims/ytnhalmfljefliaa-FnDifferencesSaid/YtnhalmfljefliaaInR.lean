/- The contracts of InRegion, of the program and of its model. No statement is proved here. -/
import Derived.Test.YtnhalmfljefliaaRok
import Derived.Test.YtnhalmfljefliaaHasC
namespace Go.Proofs.Ytnhalmfljefliaa
open Go.RowKit
theorem below_after {W w' : World} {o : Obj} (hb : Below (W.alloc o).heap.size (W.alloc o) w') : Below W.heap.size W w' :=
  ((Below.refl W.heap.size W).alloc (Nat.le_refl _) o).trans (hb.mono (by simp))
open Classical in
theorem okL_iff (L : List Rc) : okL L = true ↔ canon (gridOf L) = L := by unfold okL sameL; exact decide_eq_true_iff
open Classical in
/-- Whether a region contains a point. -/
noncomputable def inR (L : List Rc) (x y : Int) : Bool := okL L && decide (memP L x y)
open Classical in
theorem inR_no {L : List Rc} {x y : Int} (h : okL L = false) : inR L x y = false := by unfold inR; rw [h, Bool.false_and]
open Classical in
theorem inR_yes {L : List Rc} {x y : Int} (h : okL L = true) (hm : memP L x y) : inR L x y = true := by unfold inR; rw [h, Bool.true_and]; exact decide_eq_true hm
open Classical in
theorem inR_out {L : List Rc} {x y : Int} (hm : ¬ memP L x y) : inR L x y = false := by unfold inR; rw [decide_eq_false hm, Bool.and_false]
theorem ok_on {L : List Rc} (h : okL L = true) : ∀ r ∈ L, OnScreen r := by
  rw [← (okL_iff L).1 h]; exact bands_on _ 0
theorem in_out {L : List Rc} (h : okL L = true) {x y : Int} (hx : ¬ (0 ≤ x ∧ x ≤ 15 ∧ 0 ≤ y ∧ y ≤ 15)) : ¬ memP L x y := by
  rintro ⟨r, hr, hm⟩
  have := ok_on h r hr
  unfold OnScreen at this
  omega
theorem in_grid {L : List Rc} (h : okL L = true) (x y : Nat) (hx : x < 16) (hy : y < 16) : memP L x y ↔ gridOf L (y * 16 + x) = true := by
  have hm := bands_mem (gridOf L) 0 x y
  have e : bands (gridOf L) 0 = L := (okL_iff L).1 h
  rw [e] at hm
  rw [hm]
  exact ⟨fun k => k.2.2.2, fun k => ⟨hx, Nat.zero_le _, hy, k⟩⟩
theorem has_mem {r : Rc} (h : OnScreen r) (x y : Int) : hasB r x y = true ↔ r.x ≤ x ∧ x < r.x + r.w ∧ r.y ≤ y ∧ y < r.y + r.h := by
  unfold hasB
  rw [decide_eq_true_iff]
  exact ⟨fun k => k.2, fun k => ⟨h.ok, k⟩⟩

end Go.Proofs.Ytnhalmfljefliaa
