/- Plain mathematics of the rectangle around two rectangles; contracts of the test for an empty one that speak of what is kept. No statement is proved here. -/
import Derived.Test.YtnhalmfljefliaaCoverC
namespace Go.Proofs.Ytnhalmfljefliaa
open Go.RowKit
def unionRaw (a b : Rc) : Rc := ⟨min a.x b.x, min a.y b.y, max (a.x + a.w) (b.x + b.w) - min a.x b.x, max (a.y + a.h) (b.y + b.h) - min a.y b.y⟩
open Classical in
/-- What Bounds answers. -/
noncomputable def boundsR (a b : Rc) : Rc :=
  if ¬ (a.ok ∧ b.ok) then ⟨0, 0, 0, 0⟩ else if a.emp then (if b.emp then ⟨0, 0, 0, 0⟩ else b) else if b.emp then a else if (unionRaw a b).ok then unionRaw a b else ⟨0, 0, 0, 0⟩
theorem bnd_bad {a b : Rc} (h : ¬ (a.ok ∧ b.ok)) : boundsR a b = ⟨0, 0, 0, 0⟩ := if_pos h
theorem bnd_both {a b : Rc} (h1 : a.ok) (h2 : b.ok) (h3 : a.emp) (h4 : b.emp) : boundsR a b = ⟨0, 0, 0, 0⟩ := by unfold boundsR; rw [if_neg (by simp [h1, h2]), if_pos h3, if_pos h4]
theorem bnd_a {a b : Rc} (h1 : a.ok) (h2 : b.ok) (h3 : a.emp) (h4 : ¬ b.emp) : boundsR a b = b := by unfold boundsR; rw [if_neg (by simp [h1, h2]), if_pos h3, if_neg h4]
theorem bnd_b {a b : Rc} (h1 : a.ok) (h2 : b.ok) (h3 : ¬ a.emp) (h4 : b.emp) : boundsR a b = a := by unfold boundsR; rw [if_neg (by simp [h1, h2]), if_neg h3, if_pos h4]
theorem bnd_yes {a b : Rc} (h1 : a.ok) (h2 : b.ok) (h3 : ¬ a.emp) (h4 : ¬ b.emp) (h5 : (unionRaw a b).ok) : boundsR a b = unionRaw a b := by unfold boundsR; rw [if_neg (by simp [h1, h2]), if_neg h3, if_neg h4, if_pos h5]
theorem bnd_no {a b : Rc} (h1 : a.ok) (h2 : b.ok) (h3 : ¬ a.emp) (h4 : ¬ b.emp) (h5 : ¬ (unionRaw a b).ok) : boundsR a b = ⟨0, 0, 0, 0⟩ := by unfold boundsR; rw [if_neg (by simp [h1, h2]), if_neg h3, if_neg h4, if_neg h5]
theorem ret_rcs {s r : Rc} (h : s = r) : Ending.returned (.agg #[.int .i64 r.x, .int .i64 r.y, .int .i64 r.w, .int .i64 r.h]) = .returned (.agg #[.int .i64 s.x, .int .i64 s.y, .int .i64 s.w, .int .i64 s.h]) := by rw [h]

theorem empI_yes' (r : Rc) (hr : r.emp) (w : World) :
    Calls Try.prog 59 #[.agg #[.int .i64 r.x, .int .i64 r.y, .int .i64 r.w, .int .i64 r.h]] w fun e w' => e = .returned (.bool true) ∧ Below w.heap.size w w' :=
  (empI_yes r hr w).mono (by rintro e w' ⟨rfl, rfl⟩; exact ⟨rfl, (Below.refl _ _).alloc (Nat.le_refl _) _⟩)
theorem empI_no' (r : Rc) (hr : ¬ r.emp) (w : World) :
    Calls Try.prog 59 #[.agg #[.int .i64 r.x, .int .i64 r.y, .int .i64 r.w, .int .i64 r.h]] w fun e w' => e = .returned (.bool false) ∧ Below w.heap.size w w' :=
  (empI_no r hr w).mono (by rintro e w' ⟨rfl, rfl⟩; exact ⟨rfl, (Below.refl _ _).alloc (Nat.le_refl _) _⟩)

theorem empS_yes' (r : Rc) (hr : r.emp) (w : World) :
    Calls Try.prog 74 #[.agg #[.int .i64 r.x, .int .i64 r.y, .int .i64 r.w, .int .i64 r.h]] w fun e w' => e = .returned (.bool true) ∧ Below w.heap.size w w' :=
  (empS_yes r hr w).mono (by rintro e w' ⟨rfl, rfl⟩; exact ⟨rfl, (Below.refl _ _).alloc (Nat.le_refl _) _⟩)
theorem empS_no' (r : Rc) (hr : ¬ r.emp) (w : World) :
    Calls Try.prog 74 #[.agg #[.int .i64 r.x, .int .i64 r.y, .int .i64 r.w, .int .i64 r.h]] w fun e w' => e = .returned (.bool false) ∧ Below w.heap.size w w' :=
  (empS_no r hr w).mono (by rintro e w' ⟨rfl, rfl⟩; exact ⟨rfl, (Below.refl _ _).alloc (Nat.le_refl _) _⟩)
end Go.Proofs.Ytnhalmfljefliaa
