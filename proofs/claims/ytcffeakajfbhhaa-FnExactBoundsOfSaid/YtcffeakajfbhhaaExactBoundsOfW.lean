/- The walk of the law FnExactBoundsOf: it returns true for every region. -/
import Derived.Test.YtcffeakajfbhhaaExR
import Derived.Test.YtcffeakajfbhhaaBoundS
import Derived.Deep.DeepCutAuto
namespace Go.Proofs.Ytcffeakajfbhhaa
open Go.RowKit
set_option maxHeartbeats 600000 in
set_option maxRecDepth 10000 in
theorem walk_FnExactBoundsOf (v : Value) (L : List Rc) (w : World) (h : LdR w v L) :
    Calls Try.prog 12 #[.agg #[v]] w fun e w' => e = .returned (.bool true) ∧ Below w.heap.size w w' := by
  obtain ⟨A, c, rfl⟩ := h.form
  obtain ⟨n, hn⟩ : ∃ n, n = L.length := ⟨_, rfl⟩
  have hnm := h.1
  rw [← hn] at h hnm ⊢
  have Hn := Lib.hid hn
  clear hn
  have K0 := below_lx w (.slice A n c)
  have hX := LxAt.new w (.slice A n c)
  have X0 := hX.cell
  by_cases hbig : n ≤ 1048576
  · have hn1 : L.length ≤ 1048576 := by rw [← Hn.out]; exact hbig
    go_enter Try.func12, Try.ntmps12
    go_wp2_with fail
    with_reducible refine (szRg_yes n A c 1048576 (by omega) (by omega) _).mono ?_
    rintro e w1 ⟨rfl, hb1⟩
    have K := below_call K0 hb1
    have hX := hX.call hb1
    have X1 := hX.cell
    have c1 : ¬ ((1048576 : Int) - (n : Int) < 0) := by omega
    clear X0 hb1 K0
    go_wp2_with fail
    refine (toRg _ L _ hn1 (h.ofBelow K)).mono ?_
    rintro e w2 ⟨v2, rfl, hown2, hb2⟩
    have K := below_call K hb2
    have hX := hX.call hb2
    have X2 := hX.cell
    clear X1 hb2
    go_wp2_with fail
    refine (boundS v2 L _ (RdR.of_own hown2)).mono ?_
    rintro e w3 ⟨rfl, hb3⟩
    have hb3' := hb3.trans ((below_box' w3 (.cells #[.int .i64 (boundR L).x, .int .i64 (boundR L).y, .int .i64 (boundR L).w, .int .i64 (boundR L).h] 31)).mono hb3.size)
    have K := below_call K hb3'
    have hX := hX.call hb3'
    have hY := RcAt.new w3 (boundR L)
    have X3 := hX.cell
    clear X2 hb3 hb3' hown2
    go_wp2_with fail
    refine (toRg _ L _ hn1 (h.ofBelow K)).mono ?_
    rintro e w4 ⟨v4, rfl, hown4, hb4⟩
    obtain ⟨A4, cap4, hv4⟩ := own_shape hown4
    subst hv4
    have K := below_call (below_call K hb4) (below_box w4 (.slice A4 L.length cap4))
    have hX := (hX.call hb4).call (below_box w4 (.slice A4 L.length cap4))
    have hY := (hY.call hb4).call (below_box w4 (.slice A4 L.length cap4))
    have hx := BxAt.new w4 (.slice A4 L.length cap4)
    have hown := own_call hown4 (below_box w4 (.slice A4 L.length cap4))
    have X4 := hX.cell
    have x4 := hx.cell
    clear X3 hb4 hown4
    go_wp2_with fail
    refine (boundI _ L _ (RdR.of_own hown)).mono ?_
    rintro e w5 ⟨rfl, hb5⟩
    have hb5' := hb5.trans ((below_box' w5 (.cells #[.int .i64 (boundR L).x, .int .i64 (boundR L).y, .int .i64 (boundR L).w, .int .i64 (boundR L).h] 31)).mono hb5.size)
    have K := below_call K hb5'
    have hX := hX.call hb5'
    have hY := hY.call hb5'
    have hx := hx.call hb5'
    have hown := own_call hown hb5'
    have hZ := RcAt.new w5 (boundR L)
    obtain ⟨y0, y1, y2, y3⟩ := hY.cells
    obtain ⟨z0, z1, z2, z3⟩ := hZ.cells
    clear X4 x4 hb5 hb5'
    go_wp2_with fail
    refine (eqRect_same (boundR L) _).mono ?_
    rintro e w6 ⟨rfl, hb6⟩
    have K := below_call K hb6
    have hX := hX.call hb6
    have hx := hx.call hb6
    have hown := own_call hown hb6
    have X5 := hX.cell
    have x5 := hx.cell
    have hC := h.ofBelow K
    have hR := RdR.of_own hown
    clear hb6 y0 y1 y2 y3 z0 z1 z2 z3
    go_wp2_with fail
    go_region_held3 (fun w' => w'.cell? ⟨w.heap.size, 0, none⟩ = some (.slice A n c) ∧ w'.cell? ⟨w4.heap.size, 0, none⟩ = some (.slice A4 L.length cap4))
      (with_reducible first | exact ⟨hX.cell, hx.cell⟩ | exact ⟨cell_drew hX.cell, cell_drew hx.cell⟩ | fail)
      (first | (go_at_call 36; (with_reducible first | refine (toRg _ L _ hn1 hC).mono ?_ | refine (toRg _ L _ hn1 (hC.call (below_drew _))).mono ?_); rintro e wk ⟨v6, rfl, hown6, hb6⟩; (with_reducible first | have hb6 := below_undrew hb6 | skip); have K := below_call K hb6; have hX := hX.call hb6; have hx := hx.call hb6; have hR := hR.call hb6) | (go_at_call 29; (with_reducible refine (eqRg_same _ v6 L _ hR (RdR.of_own hown6)).mono ?_); rintro e wk2 ⟨rfl, hb6⟩; have K := below_call K hb6; have hX := hX.call hb6; have hx := hx.call hb6))
    go_wp2_with fail
    go_ret
    exact ⟨rfl, K⟩
  · go_enter Try.func12, Try.ntmps12
    go_wp2_with fail
    refine (szRg_no n A c hnm 1048576 (by omega) (by omega) _).mono ?_
    rintro e w1 ⟨rfl, hb1⟩
    have K := below_call K0 hb1
    go_wp2_with fail
    go_ret
    exact ⟨rfl, K⟩
end Go.Proofs.Ytcffeakajfbhhaa
