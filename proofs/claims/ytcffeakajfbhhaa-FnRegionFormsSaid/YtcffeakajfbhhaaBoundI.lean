/- The contracts of BoundsOf, of the program and of its model. No statement is proved here. -/
import Derived.Test.YtcffeakajfbhhaaAreaR
import Derived.Test.YtcffeakajfbhhaaBndMI
import Derived.Test.YtcffeakajfbhhaaBndMS
import Derived.Test.YtcffeakajfbhhaaRectEq
import Derived.Deep.RegionHeld3
namespace Go.Proofs.Ytcffeakajfbhhaa
open Go.RowKit
/-- The rectangle around a region; the zero rectangle if it is not valid. -/
noncomputable def boundR (L : List Rc) : Rc := if okL L = true then boundsAll L else ⟨0, 0, 0, 0⟩
theorem bound_next {L : List Rc} {k : Nat} {r : Rc} (h : L[k]? = some r) : boundsAll (L.take (k + 1)) = boundsR (boundsAll (L.take k)) r := by
  rw [List.take_add_one, h]; unfold boundsAll; rw [List.foldl_append]; rfl
theorem below_box' (w : World) (o : Obj) : Below w.heap.size w (w.alloc o) := (Below.refl _ _).alloc (Nat.le_refl _) _
theorem RcAt.call {w w' : World} {g : Nat} {r : Rc} (h : RcAt w g r) (hb : Below w.heap.size w w') : RcAt w' g r := h.below hb h.lt

set_option maxHeartbeats 1000000 in
set_option maxRecDepth 10000 in
theorem boundI (v : Value) (L : List Rc) (w : World) (h : RdR w v L) :
    Calls Try.prog 22 #[.agg #[v]] w fun e w' => e = .returned (.agg #[.int .i64 (boundR L).x, .int .i64 (boundR L).y, .int .i64 (boundR L).w, .int .i64 (boundR L).h]) ∧ Below w.heap.size w w' := by
  obtain ⟨A, c, rfl⟩ := h.form
  have hm : L.length ≤ 9223372036854775807 := by have := h.len; unfold maxLen at this; omega
  obtain ⟨n, hn⟩ : ∃ n, n = L.length := ⟨_, rfl⟩
  rw [← hn] at hm h ⊢
  have Hn := Lib.hid hn
  have K := ((Below.refl w.heap.size w).alloc (Nat.le_refl _) (.cells #[.slice A n c] 26)).alloc (by simp) (.cells #[.int .i64 0, .int .i64 0, .int .i64 0, .int .i64 0] 31)
  have hc := cell_call (below_box' (w.alloc (.cells #[.slice A n c] 26)) (.cells #[.int .i64 0, .int .i64 0, .int .i64 0, .int .i64 0] 31)) (new_cell w (.slice A n c) 26)
  have hZ : RcAt ((w.alloc (.cells #[.slice A n c] 26)).alloc (.cells #[.int .i64 0, .int .i64 0, .int .i64 0, .int .i64 0] 31)) (w.heap.size + 1) ⟨0, 0, 0, 0⟩ := RcAt.newAt (by simp) ⟨0, 0, 0, 0⟩
  have H0 := Lib.hid h
  clear h hn
  rcases hk : okL L with _ | _
  · have Hi : Hid (boundR L = ⟨0, 0, 0, 0⟩) := Lib.hid (by unfold boundR; rw [if_neg (by rw [hk]; simp)])
    have R := fun W hv => rokI (.slice A n c) L W hv
    unfold RokAns at R
    rw [hk] at R
    clear hk
    go_enter Try.func22, Try.ntmps22
    go_wp2_with fail
    refine (R _ (H0.out.call K)).mono ?_
    rintro e w1 ⟨rfl, hb⟩
    replace K := below_call K hb
    replace hZ := hZ.call hb
    obtain ⟨z0, z1, z2, z3⟩ := hZ.cells4
    have zf := hZ.frozen
    clear hb hc R hZ
    go_wp2_with fail
    exact bodyPost_ret (v := .agg #[.int .i64 0, .int .i64 0, .int .i64 0, .int .i64 0]) (by simp [results, Try.results22, go_sem, z0, z1, z2, z3]) rfl ⟨ret_rc Hi.out, below_set4 K (by simp) _ _ _ _⟩
  · have Hk := Lib.hid hk
    have Hi : Hid (boundR L = boundsAll L) := Lib.hid (if_pos hk)
    have R := fun W hv => rokI (.slice A n c) L W hv
    unfold RokAns at R
    rw [hk] at R
    clear hk
    go_enter Try.func22, Try.ntmps22
    go_wp2_with fail
    refine (R _ (H0.out.call K)).mono ?_
    rintro e w1 ⟨rfl, hb⟩
    replace hc := cell_call hb hc
    replace K := below_call K hb
    replace hZ := hZ.call hb
    clear hb R
    have hsz : w.heap.size + 1 < w1.heap.size := hZ.lt
    have hsz0 : w.heap.size < w1.heap.size := by omega
    go_wp2_with fail
    go_loopw [13] (fun i wr => ∃ k : Nat, k ≤ n ∧ i = .int .i64 k ∧ RcAt wr w1.heap.size (boundsAll (L.take k)) ∧ RcAt wr (w.heap.size + 1) ⟨0, 0, 0, 0⟩ ∧ Below w.heap.size w wr) (fun i _ => n - (intOf i).toNat)
    case atStart => exact ⟨0, Nat.zero_le _, rfl, by simpa [boundsAll] using RcAt.new w1 ⟨0, 0, 0, 0⟩, hZ.alloc _, K.alloc K.size _⟩
    case round =>
      clear K hc hZ
      obtain ⟨k, hk, rfl, hB, hZ, K⟩ := hrel
      by_cases hlt : k < n
      · obtain ⟨g, r, e, hr, hC⟩ := (H0.out.call K).at_ (k := k) (by rw [← Hn.out]; exact hlt)
        subst e
        have Hr := Lib.hid hr
        obtain ⟨c0, c1, c2, c3⟩ := hC.cells
        obtain ⟨b0, b1, b2, b3⟩ := hB.cells
        have hlB := hB.lt
        have k0 : (0 : Int) ≤ (k : Int) := by omega
        have k1 : (k : Int) < (n : Int) := by omega
        clear hr hC
        go_wp2_with fail
        refine (bndI_any (boundsAll (L.take k)) r _).mono ?_
        rintro e w2 ⟨rfl, hb⟩
        have hb2 := below_after hb
        replace K := below_call K hb2
        replace hB := hB.call hb2
        replace hZ := hZ.call hb2
        obtain ⟨d0, d1, d2, d3⟩ := hB.cells
        have df := hB.frozen
        have HB := Lib.hid hB
        clear hb hb2 c0 c1 c2 c3 b0 b1 b2 b3 hB
        go_wp2_with fail
        go_roundw
        case rel =>
          refine ⟨k + 1, by omega, by go_num, ?_, hZ.far4 hsz _ _ _ _, below_set4 K (by omega) _ _ _ _⟩
          rw [bound_next Hr.out]
          exact HB.out.setr _
        case measure => simp [intOf]; omega
      · obtain rfl : k = n := by omega
        have Hj : Hid (boundsAll (L.take k) = boundR L) := Lib.hid (by rw [Hi.out, List.take_of_length_le (by rw [← Hn.out]; exact Nat.le_refl _)])
        rw [Hj.out] at hB
        obtain ⟨b0, b1, b2, b3⟩ := hB.cells
        obtain ⟨z0, z1, z2, z3⟩ := hZ.cells4
        have zf := hZ.frozen
        have hlB := hB.lt
        go_wp2_with fail
        exact bodyPost_ret (v := .agg #[.int .i64 (boundR L).x, .int .i64 (boundR L).y, .int .i64 (boundR L).w, .int .i64 (boundR L).h]) (by simp [results, Try.results22, go_sem, z0, z1, z2, z3]) rfl ⟨rfl, below_set4 K (by simp) _ _ _ _⟩
end Go.Proofs.Ytcffeakajfbhhaa
