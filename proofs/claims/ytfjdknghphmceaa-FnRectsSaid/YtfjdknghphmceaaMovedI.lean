/- The contracts of impl.Moved and spec.Moved. No statement is proved here. -/
import Derived.Test.YtfjdknghphmceaaIsectI
namespace Go.Proofs.Ytfjdknghphmceaa
open Go.RowKit
def movedRaw (r : Rc) (dx dy : Int) : Rc := ⟨r.x + dx, r.y + dy, r.w, r.h⟩
def movable (r : Rc) (dx dy : Int) : Prop := r.ok ∧ -2000 ≤ dx ∧ dx ≤ 2000 ∧ -2000 ≤ dy ∧ dy ≤ 2000 ∧ (movedRaw r dx dy).ok
open Classical in
/-- What Moved answers. -/
noncomputable def movedR (r : Rc) (dx dy : Int) : Rc := if movable r dx dy then movedRaw r dx dy else r
theorem moved_yes {r : Rc} {dx dy : Int} (h : movable r dx dy) : movedR r dx dy = movedRaw r dx dy := if_pos h
theorem moved_no {r : Rc} {dx dy : Int} (h : ¬ movable r dx dy) : movedR r dx dy = r := if_neg h
theorem ret_same {r s : Rc} (h : r = s) : Ending.returned (.agg #[.int .i64 s.x, .int .i64 s.y, .int .i64 s.w, .int .i64 s.h]) = .returned (.agg #[.int .i64 r.x, .int .i64 r.y, .int .i64 r.w, .int .i64 r.h]) := by
  subst h; rfl
theorem movedI_x (r : Rc) (dx dy : Int) (hx : dx < -2000 ∨ 2000 < dx) (w : World) :
    Calls Try.prog 21 #[.agg #[.int .i64 r.x, .int .i64 r.y, .int .i64 r.w, .int .i64 r.h], .int .i64 dx, .int .i64 dy] w
      fun e w' => e = .returned (.agg #[.int .i64 (movedR r dx dy).x, .int .i64 (movedR r dx dy).y, .int .i64 (movedR r dx dy).w, .int .i64 (movedR r dx dy).h]) ∧ Below w.heap.size w w' := by
  have Hn : Hid (movedR r dx dy = r) := moved_no (fun h => by unfold movable at h; omega)
  have Hx := Lib.hid hx
  clear hx
  go_enter Try.func21, Try.ntmps21
  go_wp2_with (first | (go_at_call 28; (with_reducible refine (inI_no dx _ _ _ Hx.out).mono ?_); rintro e w' ⟨rfl, rfl⟩))
  exact bodyPost_ret (v := .agg #[.int .i64 r.x, .int .i64 r.y, .int .i64 r.w, .int .i64 r.h]) (by simp [results, Try.results21, go_sem]) rfl ⟨ret_same Hn.out, by
      repeat first | exact Below.refl _ _ | refine Below.setCell ?_ (by first | (simp; done) | (simp; omega)) _ | refine Below.alloc ?_ (by first | (simp; done) | (simp; omega)) _⟩
theorem movedI_y (r : Rc) (dx dy : Int) (hx1 : -2000 ≤ dx) (hx2 : dx ≤ 2000) (hy : dy < -2000 ∨ 2000 < dy) (w : World) :
    Calls Try.prog 21 #[.agg #[.int .i64 r.x, .int .i64 r.y, .int .i64 r.w, .int .i64 r.h], .int .i64 dx, .int .i64 dy] w
      fun e w' => e = .returned (.agg #[.int .i64 (movedR r dx dy).x, .int .i64 (movedR r dx dy).y, .int .i64 (movedR r dx dy).w, .int .i64 (movedR r dx dy).h]) ∧ Below w.heap.size w w' := by
  have Hn : Hid (movedR r dx dy = r) := moved_no (fun h => by unfold movable at h; omega)
  have Hy := Lib.hid hy
  clear hy
  go_enter Try.func21, Try.ntmps21
  go_wp2_with (first | (go_at_call 28; (with_reducible refine (inI_yes dx _ _ _ (by omega) (by omega)).mono ?_); rintro e w' ⟨rfl, rfl⟩) | (go_at_call 28; (with_reducible refine (inI_no dy _ _ _ Hy.out).mono ?_); rintro e w' ⟨rfl, rfl⟩))
  exact bodyPost_ret (v := .agg #[.int .i64 r.x, .int .i64 r.y, .int .i64 r.w, .int .i64 r.h]) (by simp [results, Try.results21, go_sem]) rfl ⟨ret_same Hn.out, by
      repeat first | exact Below.refl _ _ | refine Below.setCell ?_ (by first | (simp; done) | (simp; omega)) _ | refine Below.alloc ?_ (by first | (simp; done) | (simp; omega)) _⟩
set_option maxHeartbeats 1000000 in
theorem movedI_in (r : Rc) (dx dy : Int) (hx1 : -2000 ≤ dx) (hx2 : dx ≤ 2000) (hy1 : -2000 ≤ dy) (hy2 : dy ≤ 2000) (w : World) :
    Calls Try.prog 21 #[.agg #[.int .i64 r.x, .int .i64 r.y, .int .i64 r.w, .int .i64 r.h], .int .i64 dx, .int .i64 dy] w
      fun e w' => e = .returned (.agg #[.int .i64 (movedR r dx dy).x, .int .i64 (movedR r dx dy).y, .int .i64 (movedR r dx dy).w, .int .i64 (movedR r dx dy).h]) ∧ Below w.heap.size w w' := by
  go_enter Try.func21, Try.ntmps21
  go_wp2_with fail
  refine (inI_yes dx _ _ _ (by omega) (by omega)).mono ?_
  rintro e w' ⟨rfl, rfl⟩
  go_wp2_with fail
  refine (inI_yes dy _ _ _ (by omega) (by omega)).mono ?_
  rintro e w' ⟨rfl, rfl⟩
  go_upto_region 3 with fail
  go_cut [7] (fun s7 wx => ∃ m : Rc, s7 = .pointer (some ⟨w.heap.size + 1 + 1, 0, none⟩) ∧ Hid (r.ok → m = movedRaw r dx dy) ∧ RcAt wx w.heap.size r ∧ RcAt wx (w.heap.size + 1) ⟨0, 0, 0, 0⟩ ∧ RcAt wx (w.heap.size + 1 + 1) m ∧ Below w.heap.size w wx)
  case first =>
    by_cases hr : r.ok
    · obtain ⟨h1, h2, h3, h4, h5, h6, h7, h8⟩ := hr
      go_wp2_with fail
      go_meet
      case rel => exact ⟨⟨r.x + dx, r.y + dy, r.w, r.h⟩, rfl, fun _ => rfl, ((RcAt.new w r).alloc _).alloc _, (RcAt.newAt (by simp) ⟨0, 0, 0, 0⟩).alloc _, RcAt.newAt (by simp) ⟨r.x + dx, r.y + dy, r.w, r.h⟩, by
        repeat first | exact Below.refl _ _ | refine Below.alloc ?_ (by first | (simp; done) | (simp; omega)) _⟩
    · have Hr := Lib.hid hr
      clear hr
      go_wp2_with fail
      go_meet
      case rel => exact ⟨⟨wrap64 (r.x + dx), wrap64 (r.y + dy), r.w, r.h⟩, rfl, fun h => absurd h Hr.out, ((RcAt.new w r).alloc _).alloc _, (RcAt.newAt (by simp) ⟨0, 0, 0, 0⟩).alloc _, RcAt.newAt (by simp) ⟨wrap64 (r.x + dx), wrap64 (r.y + dy), r.w, r.h⟩, by
        repeat first | exact Below.refl _ _ | refine Below.alloc ?_ (by first | (simp; done) | (simp; omega)) _⟩
  case rest =>
    obtain ⟨m, rfl, Hm, h0, h1, h2, hw⟩ := hcut
    have l0 := h0.lt
    have l1 := h1.lt
    have l2 := h2.lt
    have H0 := Lib.hid h0
    have H1 := Lib.hid h1
    have H2 := Lib.hid h2
    obtain ⟨r0, r1, r2, r3⟩ := h0.cells
    obtain ⟨m0, m1, m2, m3⟩ := h2.cells
    clear h0 h1 h2
    by_cases hr : r.ok
    · have Hr := Lib.hid hr
      clear hr
      have hmv := Hm.out Hr.out
      have Hmv := Lib.hid hmv
      clear hmv
      go_wp2_with fail
      refine (rectOkI_yes r Hr.out _).mono ?_
      rintro e w1 ⟨rfl, hb1⟩
      have h0 := H0.out.below hb1 l0
      have h1 := H1.out.below hb1 l1
      have h2 := H2.out.below hb1 l2
      have hw := hw.trans (hb1.mono hw.size)
      clear r0 r1 r2 r3 m0 m1 m2 m3 l0 l1 l2 H0 H1 H2 hb1
      have l0 := h0.lt
      have l1 := h1.lt
      have l2 := h2.lt
      have H0 := Lib.hid h0
      have H1 := Lib.hid h1
      have H2 := Lib.hid h2
      obtain ⟨r0, r1, r2, r3⟩ := h0.cells
      obtain ⟨m0, m1, m2, m3⟩ := h2.cells
      clear h0 h1 h2
      by_cases hm : m.ok
      · have Hn : Hid (movedR r dx dy = ⟨m.x, m.y, m.w, m.h⟩) := (moved_yes ⟨Hr.out, hx1, hx2, hy1, hy2, Hmv.out ▸ hm⟩).trans Hmv.out.symm
        have Hk := Lib.hid hm
        clear hm
        go_wp2_with fail
        refine (rectOkI_yes m Hk.out _).mono ?_
        rintro e w2 ⟨rfl, hb1⟩
        have h0 := H0.out.below hb1 l0
        have h1 := H1.out.below hb1 l1
        have h2 := H2.out.below hb1 l2
        have hw := hw.trans (hb1.mono hw.size)
        clear r0 r1 r2 r3 m0 m1 m2 m3 l0 l1 l2 H0 H1 H2 hb1
        obtain ⟨r0, r1, r2, r3⟩ := h0.cells
        obtain ⟨m0, m1, m2, m3⟩ := h2.cells
        obtain ⟨z0, z1, z2, z3⟩ := h1.cells
        have zf := h1.frozen
        clear h0 h1 h2
        go_wp2_with fail
        exact bodyPost_ret (v := .agg #[.int .i64 m.x, .int .i64 m.y, .int .i64 m.w, .int .i64 m.h]) (by simp [results, Try.results21, go_sem, z0, z1, z2, z3]) rfl ⟨ret_rc Hn.out, ((((hw.setCell (by simp) _).setCell (by simp) _).setCell (by simp) _).setCell (by simp) _)⟩
      · have Hn : Hid (movedR r dx dy = r) := moved_no (fun h => hm (Hmv.out ▸ h.2.2.2.2.2))
        have Hk := Lib.hid hm
        clear hm
        go_wp2_with fail
        refine (rectOkI_no m Hk.out _).mono ?_
        rintro e w2 ⟨rfl, hb1⟩
        have h0 := H0.out.below hb1 l0
        have h1 := H1.out.below hb1 l1
        have hw := hw.trans (hb1.mono hw.size)
        clear r0 r1 r2 r3 m0 m1 m2 m3 l0 l1 l2 H0 H1 H2 hb1
        obtain ⟨r0, r1, r2, r3⟩ := h0.cells
        obtain ⟨z0, z1, z2, z3⟩ := h1.cells
        have zf := h1.frozen
        clear h0 h1
        go_wp2_with fail
        exact bodyPost_ret (v := .agg #[.int .i64 r.x, .int .i64 r.y, .int .i64 r.w, .int .i64 r.h]) (by simp [results, Try.results21, go_sem, z0, z1, z2, z3]) rfl ⟨ret_same Hn.out, ((((hw.setCell (by simp) _).setCell (by simp) _).setCell (by simp) _).setCell (by simp) _)⟩
    · have Hn : Hid (movedR r dx dy = r) := moved_no (fun h => hr h.1)
      have Hr := Lib.hid hr
      clear hr
      go_wp2_with fail
      refine (rectOkI_no r Hr.out _).mono ?_
      rintro e w1 ⟨rfl, hb1⟩
      have h0 := H0.out.below hb1 l0
      have h1 := H1.out.below hb1 l1
      have hw := hw.trans (hb1.mono hw.size)
      clear r0 r1 r2 r3 m0 m1 m2 m3 l0 l1 l2 H0 H1 H2 hb1
      obtain ⟨r0, r1, r2, r3⟩ := h0.cells
      obtain ⟨z0, z1, z2, z3⟩ := h1.cells
      have zf := h1.frozen
      clear h0 h1
      go_wp2_with fail
      exact bodyPost_ret (v := .agg #[.int .i64 r.x, .int .i64 r.y, .int .i64 r.w, .int .i64 r.h]) (by simp [results, Try.results21, go_sem, z0, z1, z2, z3]) rfl ⟨ret_same Hn.out, ((((hw.setCell (by simp) _).setCell (by simp) _).setCell (by simp) _).setCell (by simp) _)⟩
theorem movedI_any (r : Rc) (dx dy : Int) (w : World) :
    Calls Try.prog 21 #[.agg #[.int .i64 r.x, .int .i64 r.y, .int .i64 r.w, .int .i64 r.h], .int .i64 dx, .int .i64 dy] w
      fun e w' => e = .returned (.agg #[.int .i64 (movedR r dx dy).x, .int .i64 (movedR r dx dy).y, .int .i64 (movedR r dx dy).w, .int .i64 (movedR r dx dy).h]) ∧ Below w.heap.size w w' := by
  by_cases hx : -2000 ≤ dx ∧ dx ≤ 2000
  · by_cases hy : -2000 ≤ dy ∧ dy ≤ 2000
    · exact movedI_in r dx dy hx.1 hx.2 hy.1 hy.2 w
    · exact movedI_y r dx dy hx.1 hx.2 (by omega) w
  · exact movedI_x r dx dy (by omega) w
end Go.Proofs.Ytfjdknghphmceaa
