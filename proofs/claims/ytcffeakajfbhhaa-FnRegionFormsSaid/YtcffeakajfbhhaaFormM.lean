/- Plain mathematics of equal regions: equal sets have equal forms. No statement is proved here. -/
import Derived.Test.YtcffeakajfbhhaaRegS
import Derived.Test.YtcffeakajfbhhaaBoundI
namespace Go.Proofs.Ytcffeakajfbhhaa
open Go.RowKit
theorem join_grid {f : Bool → Bool → Bool} {A B : List Rc} (hA : okL A = true) (hB : okL B = true) {k : Nat} (hk : k < 256) : gridOf (joinL f A B) k = f (gridOf A k) (gridOf B k) := by
  rw [joinL_yes ⟨hA, hB⟩, gridOf_canon _ k hk]
  rfl
theorem forms_one {A B : List Rc} (hA : okL A = true) (hB : okL B = true) :
    joinL (fun p q => p || q) (joinL (fun p q => p && !q) A B) (joinL (fun p q => p && q) A B) = A := by
  rw [joinL_yes ⟨join_ok hA hB, join_ok hA hB⟩]
  refine (canon_congr (fun k hk => ?_)).trans ((okL_iff A).1 hA)
  unfold joinG
  rw [join_grid hA hB hk, join_grid hA hB hk]
  cases gridOf A k <;> cases gridOf B k <;> rfl
theorem forms_two {A B : List Rc} (hA : okL A = true) (hB : okL B = true) : canon (gridOf (B ++ A)) = joinL (fun p q => p || q) A B := by
  rw [joinL_yes ⟨hA, hB⟩]
  refine canon_congr (fun k hk => ?_)
  show gridOf (B ++ A) k = (gridOf A k || gridOf B k)
  rw [gridOf_append, Bool.or_comm]
theorem forms_three {A B : List Rc} (hA : okL A = true) (hB : okL B = true) : joinL (fun p q => p || q) B A = joinL (fun p q => p || q) A B := by
  rw [joinL_yes ⟨hB, hA⟩, joinL_yes ⟨hA, hB⟩]
  refine canon_congr (fun k hk => ?_)
  show (gridOf B k || gridOf A k) = (gridOf A k || gridOf B k)
  rw [Bool.or_comm]
theorem forms_four {A : List Rc} (hA : okL A = true) : joinL (fun p q => p && !q) A A = [] := by
  rcases e : joinL (fun p q => p && !q) A A with _ | ⟨r, L⟩
  · rfl
  · have hok : okL (joinL (fun p q => p && !q) A A) = true := join_ok hA hA
    have hr : r ∈ joinL (fun p q => p && !q) A A := by rw [e]; exact List.mem_cons_self
    have hin := first_in hok hr
    have hon := ok_on hok r hr
    unfold OnScreen at hon
    obtain ⟨x, hx⟩ : ∃ x : Nat, r.x = (x : Int) := ⟨r.x.toNat, by omega⟩
    obtain ⟨y, hy⟩ : ∃ y : Nat, r.y = (y : Int) := ⟨r.y.toNat, by omega⟩
    rw [hx, hy, join_in hA hA x y (by omega) (by omega)] at hin
    cases inR A x y <;> simp at hin
theorem forms_cov {L : List Rc} (h : okL L = true) {r : Rc} (hr : r ∈ L) : covB (boundR L) r = true := by
  unfold boundR
  rw [if_pos h]
  exact boundsAll_cov L (ok_on h) r hr
end Go.Proofs.Ytcffeakajfbhhaa
