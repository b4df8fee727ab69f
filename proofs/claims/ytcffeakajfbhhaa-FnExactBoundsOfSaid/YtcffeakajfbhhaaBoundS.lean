/- The contract of BoundsOf of the model. No statement is proved here. -/
import Derived.Test.YtcffeakajfbhhaaBoundI
import Derived.Deep.RegionWith
namespace Go.Proofs.Ytcffeakajfbhhaa
open Go.RowKit
theorem cell_far4 {w : World} {g o b : Nat} {v : Value} (h : w.cell? ⟨g, o, none⟩ = some v) (hb : g ≠ b) (v0 v1 v2 v3 : Value) :
    ((((w.setCell ⟨b, 0, none⟩ v0).setCell ⟨b, 1, none⟩ v1).setCell ⟨b, 2, none⟩ v2).setCell ⟨b, 3, none⟩ v3).cell? ⟨g, o, none⟩ = some v :=
  (World.cell?_of_block (a := ⟨g, o, none⟩) ((((Below.heap_setCell _ ⟨b, 3, none⟩ v3 g hb).trans (Below.heap_setCell _ ⟨b, 2, none⟩ v2 g hb)).trans (Below.heap_setCell _ ⟨b, 1, none⟩ v1 g hb)).trans (Below.heap_setCell _ ⟨b, 0, none⟩ v0 g hb))).trans h
theorem below_undrew' {w w' : World} (h : Below w.drew.heap.size w.drew w') : Below w.heap.size w w' := ((Below.refl w.heap.size w).drew).trans h
set_option maxHeartbeats 1000000 in
set_option maxRecDepth 10000 in
theorem boundS (v : Value) (L : List Rc) (w : World) (h : RdR w v L) :
    Calls Try.prog 42 #[.agg #[v]] w fun e w' => e = .returned (.agg #[.int .i64 (boundR L).x, .int .i64 (boundR L).y, .int .i64 (boundR L).w, .int .i64 (boundR L).h]) ∧ Below w.heap.size w w' := by
  obtain ⟨A, c, rfl⟩ := h.form
  have hm : L.length ≤ 9223372036854775807 := by have := h.len; unfold maxLen at this; omega
  obtain ⟨n, hn⟩ : ∃ n, n = L.length := ⟨_, rfl⟩
  rw [← hn] at hm h ⊢
  have Hn := Lib.hid hn
  obtain ⟨W2, hW2⟩ : ∃ W2, W2 = ((w.alloc (.cells #[.slice A n c] 26)).alloc (.cells #[.int .i64 0, .int .i64 0, .int .i64 0, .int .i64 0] 31)).alloc (.cells #[.int .i64 0, .int .i64 0, .int .i64 0, .int .i64 0] 31) := ⟨_, rfl⟩
  have K : Below w.heap.size w W2 := by rw [hW2]; exact (((Below.refl w.heap.size w).alloc (Nat.le_refl _) _).alloc (by simp) _).alloc (by simp; omega) _
  have hc : W2.cell? ⟨w.heap.size, 0, none⟩ = some (.slice A n c) := by rw [hW2]; exact cell_call (below_box' _ _) (cell_call (below_box' _ _) (new_cell w (.slice A n c) 26))
  have hZ : RcAt W2 (w.heap.size + 1) ⟨0, 0, 0, 0⟩ := by rw [hW2]; exact (RcAt.newAt (by simp) ⟨0, 0, 0, 0⟩).alloc _
  have hB : RcAt W2 (w.heap.size + 2) ⟨0, 0, 0, 0⟩ := by rw [hW2]; exact RcAt.newAt (by simp) ⟨0, 0, 0, 0⟩
  have H0 := Lib.hid h
  have HW := Lib.hid hW2
  clear h hn hW2
  rcases hk : okL L with _ | _
  · have Hi : Hid (boundR L = ⟨0, 0, 0, 0⟩) := Lib.hid (by unfold boundR; rw [if_neg (by rw [hk]; simp)])
    have R := fun W hv => rokS (.slice A n c) L W hv
    unfold RokAns at R
    rw [hk] at R
    have HR := Lib.hid R
    clear hk R
    go_enter Try.func42, Try.ntmps42
    go_wp2_with fail
    rw [← HW.out]
    go_loopw [4] (fun i wr => i = .int .i64 0 ∧ RcAt wr (w.heap.size + 2) ⟨0, 0, 0, 0⟩ ∧ RcAt wr (w.heap.size + 1) ⟨0, 0, 0, 0⟩ ∧ Below w.heap.size w wr ∧ wr.cell? ⟨w.heap.size, 0, none⟩ = some (.slice A n c)) (fun _ _ => 0)
    case atStart => exact ⟨rfl, hB, hZ, K, hc⟩
    case round =>
      clear K hc hB hZ
      obtain ⟨rfl, hB, hZ, K, hc⟩ := hrel
      by_cases hlt : 0 < n
      · have hlti : (0 : Int) < (n : Int) := by omega
        go_wp2_with fail
        refine (HR.out _ (H0.out.call K)).mono ?_
        rintro e w1 ⟨rfl, hb⟩
        replace K := below_call K hb
        replace hB := hB.call hb
        replace hZ := hZ.call hb
        obtain ⟨b0, b1, b2, b3⟩ := hB.cells4
        obtain ⟨z0, z1, z2, z3⟩ := hZ.cells4
        have zf := hZ.frozen
        have hlB := hB.lt
        clear hb hc
        go_wp2_with fail
        exact bodyPost_ret (v := .agg #[.int .i64 0, .int .i64 0, .int .i64 0, .int .i64 0]) (by simp [results, Try.results42, go_sem, z0, z1, z2, z3]) rfl ⟨ret_rc Hi.out, below_set4 K (by simp) _ _ _ _⟩
      · have hlti : ¬ (0 : Int) < (n : Int) := by omega
        obtain ⟨b0, b1, b2, b3⟩ := hB.cells4
        obtain ⟨z0, z1, z2, z3⟩ := hZ.cells4
        have zf := hZ.frozen
        have hlB := hB.lt
        go_wp2_with fail
        exact bodyPost_ret (v := .agg #[.int .i64 0, .int .i64 0, .int .i64 0, .int .i64 0]) (by simp [results, Try.results42, go_sem, z0, z1, z2, z3]) rfl ⟨ret_rc Hi.out, below_set4 K (by simp) _ _ _ _⟩
  · have Hk := Lib.hid hk
    have Hi : Hid (boundR L = boundsAll L) := Lib.hid (if_pos hk)
    have R := fun W hv => rokS (.slice A n c) L W hv
    unfold RokAns at R
    rw [hk] at R
    have HR := Lib.hid R
    clear hk R
    go_enter Try.func42, Try.ntmps42
    go_wp2_with fail
    rw [← HW.out]
    go_loopw [4] (fun i wr => ∃ k : Nat, k ≤ n ∧ i = .int .i64 k ∧ RcAt wr (w.heap.size + 2) (boundsAll (L.take k)) ∧ RcAt wr (w.heap.size + 1) ⟨0, 0, 0, 0⟩ ∧ Below w.heap.size w wr ∧ wr.cell? ⟨w.heap.size, 0, none⟩ = some (.slice A n c)) (fun i _ => n - (intOf i).toNat)
    case atStart => exact ⟨0, Nat.zero_le _, rfl, by simpa [boundsAll] using hB, hZ, K, hc⟩
    case round =>
      clear K hc hB hZ
      obtain ⟨k, hk, rfl, hB, hZ, K, hc⟩ := hrel
      by_cases hlt : k < n
      · have k1 : (k : Int) < (n : Int) := by omega
        have k0 : (0 : Int) ≤ (k : Int) := by omega
        go_wp2_with fail
        refine (HR.out _ (H0.out.call K)).mono ?_
        rintro e w1 ⟨rfl, hb⟩
        replace K := below_call K hb
        replace hc := cell_call hb hc
        replace hB := hB.call hb
        replace hZ := hZ.call hb
        clear hb
        obtain ⟨g, r, e, hr, hC⟩ := (H0.out.call K).at_ (k := k) (by rw [← Hn.out]; exact hlt)
        subst e
        have Hr := Lib.hid hr
        obtain ⟨c0, c1, c2, c3⟩ := hC.cells
        obtain ⟨b0, b1, b2, b3⟩ := hB.cells
        have hgl : g ≠ w.heap.size + 2 := by
          obtain ⟨g', r', e', _, hC'⟩ := H0.out.at_ (k := k) (by rw [← Hn.out]; exact hlt)
          injection e' with e'
          injection e' with e'
          have := hC'.lt
          omega
        clear hr
        go_wp2_with fail
        go_region_with ((go_at_call 65; (with_reducible refine (bndS_any (boundsAll (L.take k)) r _).mono ?_); rintro e wk ⟨rfl, hb⟩; (with_reducible first | have hb := below_undrew' hb | skip); replace K := below_call K hb; replace hB := hB.call hb; replace hZ := hZ.call hb; replace hc := cell_call hb hc; obtain ⟨b0, b1, b2, b3⟩ := hB.cells; have bf := hB.frozen))
        all_goals
          go_wp2_with fail
          go_roundw
          case rel =>
            refine ⟨k + 1, by omega, by go_num, ?_, hZ.far4 (by omega) _ _ _ _, below_set4 K (by omega) _ _ _ _, ?_⟩
            · rw [bound_next Hr.out]
              exact hB.setr _
            · exact cell_far4 hc (by omega) _ _ _ _
          case measure => simp [intOf]; omega
      · have k1 : ¬ (k : Int) < (n : Int) := by omega
        obtain rfl : k = n := by omega
        have Hj : Hid (boundsAll (L.take k) = boundR L) := Lib.hid (by rw [Hi.out, List.take_of_length_le (by rw [← Hn.out]; exact Nat.le_refl _)])
        rw [Hj.out] at hB
        obtain ⟨b0, b1, b2, b3⟩ := hB.cells
        obtain ⟨z0, z1, z2, z3⟩ := hZ.cells4
        have zf := hZ.frozen
        have hlB := hB.lt
        go_wp2_with fail
        exact bodyPost_ret (v := .agg #[.int .i64 (boundR L).x, .int .i64 (boundR L).y, .int .i64 (boundR L).w, .int .i64 (boundR L).h]) (by simp [results, Try.results42, go_sem, z0, z1, z2, z3]) rfl ⟨rfl, below_set4 K (by simp) _ _ _ _⟩
end Go.Proofs.Ytcffeakajfbhhaa
