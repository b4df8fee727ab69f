/- The contract of spec.Moved. No statement is proved here. -/
import Derived.Test.YtfjdknghphmceaaMovedI
namespace Go.Proofs.Ytfjdknghphmceaa
open Go.RowKit
theorem movedS_bad (r : Rc) (dx dy : Int) (hr : ¬ r.ok) (w : World) :
    Calls Try.prog 20 #[.agg #[.int .i64 r.x, .int .i64 r.y, .int .i64 r.w, .int .i64 r.h], .int .i64 dx, .int .i64 dy] w
      fun e w' => e = .returned (.agg #[.int .i64 (movedR r dx dy).x, .int .i64 (movedR r dx dy).y, .int .i64 (movedR r dx dy).w, .int .i64 (movedR r dx dy).h]) ∧ Below w.heap.size w w' := by
  have Hn : Hid (movedR r dx dy = r) := moved_no (fun h => hr h.1)
  have Hr := Lib.hid hr
  clear hr
  go_enter Try.func20, Try.ntmps20
  go_wp2_with fail
  refine (rectOkS_no r Hr.out _).mono ?_
  rintro e w1 ⟨rfl, hb1⟩
  have h0 : RcAt w1 w.heap.size r := ((RcAt.new w r).alloc _).below hb1 (by simp; omega)
  have h1 : RcAt w1 (w.heap.size + 1) ⟨0, 0, 0, 0⟩ := (RcAt.newAt (by simp) ⟨0, 0, 0, 0⟩).below hb1 (by simp)
  have hw : Below w.heap.size w w1 := (((Below.refl _ _).alloc (Nat.le_refl _) _).alloc (by simp) _).trans (hb1.mono (by simp; omega))
  have l1 := h1.lt
  clear hb1
  have H0 := Lib.hid h0
  have H1 := Lib.hid h1
  obtain ⟨r0, r1, r2, r3⟩ := h0.cells
  obtain ⟨z0, z1, z2, z3⟩ := h1.cells
  have zf := h1.frozen
  clear h0 h1
  go_wp2_with fail
  exact bodyPost_ret (v := .agg #[.int .i64 r.x, .int .i64 r.y, .int .i64 r.w, .int .i64 r.h]) (by simp [results, Try.results20, go_sem, z0, z1, z2, z3]) rfl ⟨ret_same Hn.out, ((((hw.setCell (by simp) _).setCell (by simp) _).setCell (by simp) _).setCell (by simp) _)⟩
theorem movedS_x (r : Rc) (dx dy : Int) (hr : r.ok) (hx : dx < -2000 ∨ 2000 < dx) (w : World) :
    Calls Try.prog 20 #[.agg #[.int .i64 r.x, .int .i64 r.y, .int .i64 r.w, .int .i64 r.h], .int .i64 dx, .int .i64 dy] w
      fun e w' => e = .returned (.agg #[.int .i64 (movedR r dx dy).x, .int .i64 (movedR r dx dy).y, .int .i64 (movedR r dx dy).w, .int .i64 (movedR r dx dy).h]) ∧ Below w.heap.size w w' := by
  have Hn : Hid (movedR r dx dy = r) := moved_no (fun h => by unfold movable at h; omega)
  have Hr := Lib.hid hr
  clear hr
  have Hx := Lib.hid hx
  clear hx
  go_enter Try.func20, Try.ntmps20
  go_wp2_with fail
  refine (rectOkS_yes r Hr.out _).mono ?_
  rintro e w1 ⟨rfl, hb1⟩
  have h0 : RcAt w1 w.heap.size r := ((RcAt.new w r).alloc _).below hb1 (by simp; omega)
  have h1 : RcAt w1 (w.heap.size + 1) ⟨0, 0, 0, 0⟩ := (RcAt.newAt (by simp) ⟨0, 0, 0, 0⟩).below hb1 (by simp)
  have hw : Below w.heap.size w w1 := (((Below.refl _ _).alloc (Nat.le_refl _) _).alloc (by simp) _).trans (hb1.mono (by simp; omega))
  have l1 := h1.lt
  clear hb1
  have H0 := Lib.hid h0
  have H1 := Lib.hid h1
  obtain ⟨r0, r1, r2, r3⟩ := h0.cells
  obtain ⟨z0, z1, z2, z3⟩ := h1.cells
  have zf := h1.frozen
  clear h0 h1
  go_wp2_with fail
  refine (inS_no dx _ _ _ Hx.out).mono ?_
  rintro e w' ⟨rfl, rfl⟩
  go_wp2_with fail
  exact bodyPost_ret (v := .agg #[.int .i64 r.x, .int .i64 r.y, .int .i64 r.w, .int .i64 r.h]) (by simp [results, Try.results20, go_sem, z0, z1, z2, z3]) rfl ⟨ret_same Hn.out, ((((hw.setCell (by simp) _).setCell (by simp) _).setCell (by simp) _).setCell (by simp) _)⟩
theorem movedS_y (r : Rc) (dx dy : Int) (hr : r.ok) (hx1 : -2000 ≤ dx) (hx2 : dx ≤ 2000) (hy : dy < -2000 ∨ 2000 < dy) (w : World) :
    Calls Try.prog 20 #[.agg #[.int .i64 r.x, .int .i64 r.y, .int .i64 r.w, .int .i64 r.h], .int .i64 dx, .int .i64 dy] w
      fun e w' => e = .returned (.agg #[.int .i64 (movedR r dx dy).x, .int .i64 (movedR r dx dy).y, .int .i64 (movedR r dx dy).w, .int .i64 (movedR r dx dy).h]) ∧ Below w.heap.size w w' := by
  have Hn : Hid (movedR r dx dy = r) := moved_no (fun h => by unfold movable at h; omega)
  have Hr := Lib.hid hr
  clear hr
  have Hy := Lib.hid hy
  clear hy
  go_enter Try.func20, Try.ntmps20
  go_wp2_with fail
  refine (rectOkS_yes r Hr.out _).mono ?_
  rintro e w1 ⟨rfl, hb1⟩
  have h0 : RcAt w1 w.heap.size r := ((RcAt.new w r).alloc _).below hb1 (by simp; omega)
  have h1 : RcAt w1 (w.heap.size + 1) ⟨0, 0, 0, 0⟩ := (RcAt.newAt (by simp) ⟨0, 0, 0, 0⟩).below hb1 (by simp)
  have hw : Below w.heap.size w w1 := (((Below.refl _ _).alloc (Nat.le_refl _) _).alloc (by simp) _).trans (hb1.mono (by simp; omega))
  have l1 := h1.lt
  clear hb1
  have H0 := Lib.hid h0
  have H1 := Lib.hid h1
  obtain ⟨r0, r1, r2, r3⟩ := h0.cells
  obtain ⟨z0, z1, z2, z3⟩ := h1.cells
  have zf := h1.frozen
  clear h0 h1
  go_wp2_with fail
  refine (inS_yes dx _ _ _ (by omega) (by omega)).mono ?_
  rintro e w' ⟨rfl, rfl⟩
  go_wp2_with fail
  refine (inS_no dy _ _ _ Hy.out).mono ?_
  rintro e w' ⟨rfl, rfl⟩
  go_wp2_with fail
  exact bodyPost_ret (v := .agg #[.int .i64 r.x, .int .i64 r.y, .int .i64 r.w, .int .i64 r.h]) (by simp [results, Try.results20, go_sem, z0, z1, z2, z3]) rfl ⟨ret_same Hn.out, ((((hw.setCell (by simp) _).setCell (by simp) _).setCell (by simp) _).setCell (by simp) _)⟩
set_option maxHeartbeats 1000000 in
theorem movedS_in (r : Rc) (dx dy : Int) (hr : r.ok) (hx1 : -2000 ≤ dx) (hx2 : dx ≤ 2000) (hy1 : -2000 ≤ dy) (hy2 : dy ≤ 2000) (w : World) :
    Calls Try.prog 20 #[.agg #[.int .i64 r.x, .int .i64 r.y, .int .i64 r.w, .int .i64 r.h], .int .i64 dx, .int .i64 dy] w
      fun e w' => e = .returned (.agg #[.int .i64 (movedR r dx dy).x, .int .i64 (movedR r dx dy).y, .int .i64 (movedR r dx dy).w, .int .i64 (movedR r dx dy).h]) ∧ Below w.heap.size w w' := by
  have Hr := Lib.hid hr
  clear hr
  go_enter Try.func20, Try.ntmps20
  go_wp2_with fail
  refine (rectOkS_yes r Hr.out _).mono ?_
  rintro e w1 ⟨rfl, hb1⟩
  have h0 : RcAt w1 w.heap.size r := ((RcAt.new w r).alloc _).below hb1 (by simp; omega)
  have h1 : RcAt w1 (w.heap.size + 1) ⟨0, 0, 0, 0⟩ := (RcAt.newAt (by simp) ⟨0, 0, 0, 0⟩).below hb1 (by simp)
  have hw : Below w.heap.size w w1 := (((Below.refl _ _).alloc (Nat.le_refl _) _).alloc (by simp) _).trans (hb1.mono (by simp; omega))
  have l1 := h1.lt
  clear hb1
  have H0 := Lib.hid h0
  have H1 := Lib.hid h1
  obtain ⟨r0, r1, r2, r3⟩ := h0.cells
  obtain ⟨z0, z1, z2, z3⟩ := h1.cells
  have zf := h1.frozen
  clear h0 h1
  go_wp2_with fail
  refine (inS_yes dx _ _ _ (by omega) (by omega)).mono ?_
  rintro e w' ⟨rfl, rfl⟩
  go_wp2_with fail
  refine (inS_yes dy _ _ _ (by omega) (by omega)).mono ?_
  rintro e w' ⟨rfl, rfl⟩
  obtain ⟨g1, g2, g3, g4, g5, g6, g7, g8⟩ := Hr.out
  by_cases hm : (⟨r.x + dx, r.y + dy, r.w, r.h⟩ : Rc).ok
  all_goals
    have Hm := Lib.hid hm
    clear hm
    go_wp2_with fail
    first
    | (refine (rectOkS_yes ⟨r.x + dx, r.y + dy, r.w, r.h⟩ Hm.out _).mono ?_)
    | (refine (rectOkS_no ⟨r.x + dx, r.y + dy, r.w, r.h⟩ Hm.out _).mono ?_)
    rintro e w2 ⟨rfl, hb2⟩
    have h0 : RcAt w2 w.heap.size r := (H0.out.alloc _).below hb2 (by simp; omega)
    have h1 : RcAt w2 (w.heap.size + 1) ⟨0, 0, 0, 0⟩ := (H1.out.alloc _).below hb2 (by simp; omega)
    have h2 : RcAt w2 w1.heap.size ⟨r.x + dx, r.y + dy, r.w, r.h⟩ := (RcAt.new w1 ⟨r.x + dx, r.y + dy, r.w, r.h⟩).below hb2 (by simp)
    have hw := (hw.alloc hw.size _).trans (hb2.mono (by simp; omega))
    clear r0 r1 r2 r3 z0 z1 z2 z3 zf hb2
    obtain ⟨r0, r1, r2, r3⟩ := h0.cells
    obtain ⟨z0, z1, z2, z3⟩ := h1.cells
    obtain ⟨m0, m1, m2, m3⟩ := h2.cells
    have zf := h1.frozen
    clear h0 h1 h2
    go_wp2_with fail
  · have Hn : Hid (movedR r dx dy = ⟨r.x + dx, r.y + dy, r.w, r.h⟩) := moved_yes ⟨Hr.out, hx1, hx2, hy1, hy2, Hm.out⟩
    exact bodyPost_ret (v := .agg #[.int .i64 (r.x + dx), .int .i64 (r.y + dy), .int .i64 r.w, .int .i64 r.h]) (by simp [results, Try.results20, go_sem, z0, z1, z2, z3]) rfl ⟨ret_rc Hn.out, ((((hw.setCell (by simp) _).setCell (by simp) _).setCell (by simp) _).setCell (by simp) _)⟩
  · have Hn : Hid (movedR r dx dy = r) := moved_no (fun h => Hm.out h.2.2.2.2.2)
    exact bodyPost_ret (v := .agg #[.int .i64 r.x, .int .i64 r.y, .int .i64 r.w, .int .i64 r.h]) (by simp [results, Try.results20, go_sem, z0, z1, z2, z3]) rfl ⟨ret_same Hn.out, ((((hw.setCell (by simp) _).setCell (by simp) _).setCell (by simp) _).setCell (by simp) _)⟩
theorem movedS_any (r : Rc) (dx dy : Int) (w : World) :
    Calls Try.prog 20 #[.agg #[.int .i64 r.x, .int .i64 r.y, .int .i64 r.w, .int .i64 r.h], .int .i64 dx, .int .i64 dy] w
      fun e w' => e = .returned (.agg #[.int .i64 (movedR r dx dy).x, .int .i64 (movedR r dx dy).y, .int .i64 (movedR r dx dy).w, .int .i64 (movedR r dx dy).h]) ∧ Below w.heap.size w w' := by
  by_cases hr : r.ok
  · by_cases hx : -2000 ≤ dx ∧ dx ≤ 2000
    · by_cases hy : -2000 ≤ dy ∧ dy ≤ 2000
      · exact movedS_in r dx dy hr hx.1 hx.2 hy.1 hy.2 w
      · exact movedS_y r dx dy hr hx.1 hx.2 (by omega) w
    · exact movedS_x r dx dy hr (by omega) w
  · exact movedS_bad r dx dy hr w
end Go.Proofs.Ytfjdknghphmceaa
