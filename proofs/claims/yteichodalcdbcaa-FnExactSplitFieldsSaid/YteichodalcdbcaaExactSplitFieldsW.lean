/- The walk of the law FnExactSplitFields: it returns true for every line. -/
import Derived.Test.YteichodalcdbcaaSplitS
import Derived.Test.YteichodalcdbcaaSplitI
import Derived.Test.YteichodalcdbcaaMarkStr
namespace Go.Proofs.Yteichodalcdbcaa
open Go.RowKit

theorem own_drewN {w : World} {B : Nat} {e : TypeId} {size : Nat} {v : Value} {n : Nat} {xs : List Value} (h : w.ownsRow B e size v n xs) (q : Nat) : (w.drewN q).ownsRow B e size v n xs := h
theorem below_drewN {B : Nat} {a w : World} (h : Below B a w) (q : Nat) : Below B a (w.drewN q) := ⟨h.os, h.tape, h.output, h.size, h.block⟩
theorem fields_le (s : ByteArray) : ((fieldsOf s).getD []).length ≤ 24 := by
  unfold fieldsOf
  split
  · rename_i h; exact h.2.2
  · simp

set_option maxHeartbeats 1000000 in
theorem walk_FnExactSplitFields (s : ByteArray) (hs : s.size ≤ maxLen) (w : World) :
    Calls Try.prog 6 #[.string s] w fun e w' => e = .returned (.bool true) ∧ Below w.heap.size w w' := by
  have hm : s.size ≤ 9223372036854775807 := by unfold maxLen at hs; omega
  by_cases hbig : s.size ≤ 1048576
  · go_enter Try.func6, Try.ntmps6
    go_wp2_with fail
    refine (splitS s hm _).mono ?_
    rintro e w1 ⟨v0, l0, ok0, rfl, hok0, hl0, hown0, hb1⟩
    have Hok0 := Lib.hid hok0
    have Hl0 := Lib.hid hl0
    have Hb1 := Lib.hid hb1
    clear hok0 hl0 hb1
    go_wp2_with fail
    refine (splitI s hm _).mono ?_
    rintro e w2 ⟨v1, l1, ok1, rfl, hok1, hl1, hown1, hb2⟩
    obtain rfl : ok1 = ok0 := hok1.trans Hok0.out.symm
    obtain rfl : l1 = l0 := hl1.trans Hl0.out.symm
    have hlen : l1.length ≤ 24 := by rw [hl1]; exact fields_le s
    have hne : ∀ k, v1.ownBlock = some k → w1.heap.size ≤ k := fun k hk => (hown1.lt k hk).1
    have hlt0 : ∀ k, v0.ownBlock = some k → k < w1.heap.size := fun k hk => (hown0.lt k hk).2
    have hown0b := own_below hown0 hb2 (Nat.le_refl _)
    have hb12 := Hb1.out.trans (hb2.mono Hb1.out.size)
    have Hne := Lib.hid hne
    have Hlt0 := Lib.hid hlt0
    have Ho0 := Lib.hid hown0b
    have Ho1 := Lib.hid hown1
    have Hb2 := Lib.hid hb12
    clear hok1 hl1 hne hlt0 hown0 hown0b hown1 hb2 hb12
    go_wp2_with fail
    refine (eqStrS v1 v0 l1 l1 _ (Rd.of_own Ho1.out) (Rd.of_own Ho0.out)).mono ?_
    rintro e w3 ⟨rfl, q, rfl⟩
    have e1 : decide (l1 = l1) = true := by simp
    rw [e1]
    clear e1
    go_wp2_with fail
    refine (markStr w1.heap.size v1 l1 1 _ (by omega) (by omega) (own_drewN Ho1.out q)).mono ?_
    rintro e w4 ⟨rfl, hown4, hgr4⟩
    have hown40 : w4.ownsRow w.heap.size 9 1 v0 l1.length (strCells l1) := (own_drewN Ho0.out q).kept hgr4 (by
      by_cases hv : v0.ownBlock = none
      · exact .inl hv
      · refine .inr fun e => ?_
        obtain ⟨k, hk⟩ := Option.ne_none_iff_exists'.1 hv
        have h1 := Hlt0.out k hk
        have h2 := Hne.out k (by rw [← e]; exact hk)
        omega)
    have hb4 : Below w.heap.size w w4 := (below_drewN Hb2.out q).grown hgr4 (show w.heap.size ≤ w2.heap.size from Hb2.out.size) (fun k hk => by have := Hne.out k hk; have := Hb1.out.size; omega)
    have Ho4 := Lib.hid hown4
    have Ho40 := Lib.hid hown40
    have Hb4 := Lib.hid hb4
    clear hown4 hown40 hb4 hgr4
    go_wp2_with fail
    refine (heldStr v1 1 l1.length _ (by omega) (by omega) (Rd.of_own Ho4.out)).mono ?_
    rintro e w5 ⟨rfl, hb5⟩
    have Ho5 := Lib.hid (own_below Ho4.out hb5 (Nat.le_refl _))
    have Ho50 := Lib.hid (own_below Ho40.out hb5 (Nat.le_refl _))
    have Hb5 := Lib.hid (Hb4.out.trans (hb5.mono Hb4.out.size))
    clear hb5
    have c1 : ¬ ((1 + l1.length : Nat) : Int) < 0 := by omega
    go_wp2_with fail
    refine (splitI s hm _).mono ?_
    rintro e w6 ⟨v2, l2, ok2, rfl, hok2, hl2, hown2, hb6⟩
    obtain rfl : ok2 = ok1 := hok2.trans Hok0.out.symm
    obtain rfl : l2 = l1 := hl2.trans Hl0.out.symm
    have Ho6 := Lib.hid (own_below Ho5.out hb6 (Nat.le_refl _))
    have Ho60 := Lib.hid (own_below Ho50.out hb6 (Nat.le_refl _))
    have Ho2 := Lib.hid hown2
    have Hb6 := Lib.hid (Hb5.out.trans (hb6.mono Hb5.out.size))
    clear hok2 hl2 hown2 hb6
    go_wp2_with fail
    refine (eqStrS v2 v0 l2 l2 _ (Rd.of_own Ho2.out) (Rd.of_own Ho60.out)).mono ?_
    rintro e w7 ⟨rfl, q2, rfl⟩
    have e1 : decide (l2 = l2) = true := by simp
    rw [e1]
    clear e1
    go_wp2_with fail
    refine (heldStr v1 1 l2.length _ (by omega) (by omega) (Rd.of_own (own_drewN Ho6.out q2))).mono ?_
    rintro e w8 ⟨rfl, hb8⟩
    have Hb8 := Lib.hid ((below_drewN Hb6.out q2).trans (hb8.mono (show w.heap.size ≤ w6.heap.size from Hb6.out.size)))
    clear hb8
    go_wp2_with fail
    go_ret
    exact ⟨rfl, Hb8.out⟩
  · go_enter Try.func6, Try.ntmps6
    go_wp2_with fail
    go_ret
    exact ⟨rfl, Below.refl _ _⟩
end Go.Proofs.Yteichodalcdbcaa
