/- The contract of impl.Bounds. No statement is proved here. -/
import Derived.Test.YtcffeakajfbhhaaBndP
namespace Go.Proofs.Ytcffeakajfbhhaa
open Go.RowKit
theorem bndI_bad1 (a b : Rc) (ha : ¬ a.ok) (w : World) :
    Calls Try.prog 53 #[.agg #[.int .i64 a.x, .int .i64 a.y, .int .i64 a.w, .int .i64 a.h], .agg #[.int .i64 b.x, .int .i64 b.y, .int .i64 b.w, .int .i64 b.h]] w
      fun e w' => e = .returned (.agg #[.int .i64 (boundsR a b).x, .int .i64 (boundsR a b).y, .int .i64 (boundsR a b).w, .int .i64 (boundsR a b).h]) ∧ Below w.heap.size w w' := by
  have Hn : Hid (boundsR a b = ⟨0, 0, 0, 0⟩) := bnd_bad (fun h => ha h.1)
  have Ha := Lib.hid ha
  clear ha
  go_enter Try.func53, Try.ntmps53
  go_wp2_with fail
  refine (rectOkI_no a Ha.out _).mono ?_
  rintro e w1 ⟨rfl, hb1⟩
  have hA : RcAt w1 w.heap.size a := (((RcAt.new w a).alloc _).alloc _).below hb1 (by simp; omega)
  have hB : RcAt w1 (w.heap.size + 1) b := ((RcAt.newAt (by simp) b).alloc _).below hb1 (by simp)
  have hR : RcAt w1 (w.heap.size + 1 + 1) ⟨0, 0, 0, 0⟩ := (RcAt.newAt (by simp) ⟨0, 0, 0, 0⟩).below hb1 (by simp)
  have hw : Below w.heap.size w w1 := ((((Below.refl _ _).alloc (Nat.le_refl _) _).alloc (by simp) _).alloc (by simp; omega) _).trans (hb1.mono (by simp; omega))
  clear hb1
  have lA := hA.lt
  have lB := hB.lt
  have lR := hR.lt
  have HA := Lib.hid hA
  have HB := Lib.hid hB
  have HR := Lib.hid hR
  obtain ⟨a0, a1, a2, a3⟩ := hA.cells
  obtain ⟨b0, b1, b2, b3⟩ := hB.cells
  obtain ⟨z0, z1, z2, z3⟩ := hR.cells
  have zf := hR.frozen
  clear hA hB hR
  go_wp2_with fail
  exact bodyPost_ret (v := .agg #[.int .i64 0, .int .i64 0, .int .i64 0, .int .i64 0]) (by simp [results, Try.results53, go_sem, z0, z1, z2, z3]) rfl ⟨ret_rc Hn.out, ((((hw.setCell (by first | (simp; done) | (simp; omega)) _).setCell (by first | (simp; done) | (simp; omega)) _).setCell (by first | (simp; done) | (simp; omega)) _).setCell (by first | (simp; done) | (simp; omega)) _)⟩
theorem bndI_bad2 (a b : Rc) (ha : a.ok) (hb : ¬ b.ok) (w : World) :
    Calls Try.prog 53 #[.agg #[.int .i64 a.x, .int .i64 a.y, .int .i64 a.w, .int .i64 a.h], .agg #[.int .i64 b.x, .int .i64 b.y, .int .i64 b.w, .int .i64 b.h]] w
      fun e w' => e = .returned (.agg #[.int .i64 (boundsR a b).x, .int .i64 (boundsR a b).y, .int .i64 (boundsR a b).w, .int .i64 (boundsR a b).h]) ∧ Below w.heap.size w w' := by
  have Hn : Hid (boundsR a b = ⟨0, 0, 0, 0⟩) := bnd_bad (fun h => hb h.2)
  have Ha := Lib.hid ha
  have Hb := Lib.hid hb
  clear ha hb
  go_enter Try.func53, Try.ntmps53
  go_wp2_with fail
  refine (rectOkI_yes a Ha.out _).mono ?_
  rintro e w1 ⟨rfl, hb1⟩
  have hA : RcAt w1 w.heap.size a := (((RcAt.new w a).alloc _).alloc _).below hb1 (by simp; omega)
  have hB : RcAt w1 (w.heap.size + 1) b := ((RcAt.newAt (by simp) b).alloc _).below hb1 (by simp)
  have hR : RcAt w1 (w.heap.size + 1 + 1) ⟨0, 0, 0, 0⟩ := (RcAt.newAt (by simp) ⟨0, 0, 0, 0⟩).below hb1 (by simp)
  have hw : Below w.heap.size w w1 := ((((Below.refl _ _).alloc (Nat.le_refl _) _).alloc (by simp) _).alloc (by simp; omega) _).trans (hb1.mono (by simp; omega))
  clear hb1
  have lA := hA.lt
  have lB := hB.lt
  have lR := hR.lt
  have HA := Lib.hid hA
  have HB := Lib.hid hB
  have HR := Lib.hid hR
  obtain ⟨a0, a1, a2, a3⟩ := hA.cells
  obtain ⟨b0, b1, b2, b3⟩ := hB.cells
  obtain ⟨z0, z1, z2, z3⟩ := hR.cells
  have zf := hR.frozen
  clear hA hB hR
  go_wp2_with fail
  refine (rectOkI_no b Hb.out _).mono ?_
  rintro e w' ⟨rfl, hb1⟩
  have hA := HA.out.below hb1 lA
  have hB := HB.out.below hb1 lB
  have hR := HR.out.below hb1 lR
  have hw := hw.trans (hb1.mono hw.size)
  clear a0 a1 a2 a3 b0 b1 b2 b3 z0 z1 z2 z3 zf lA lB lR HA HB HR hb1
  have lA := hA.lt
  have lB := hB.lt
  have lR := hR.lt
  have HA := Lib.hid hA
  have HB := Lib.hid hB
  have HR := Lib.hid hR
  obtain ⟨a0, a1, a2, a3⟩ := hA.cells
  obtain ⟨b0, b1, b2, b3⟩ := hB.cells
  obtain ⟨z0, z1, z2, z3⟩ := hR.cells
  have zf := hR.frozen
  clear hA hB hR
  go_wp2_with fail
  exact bodyPost_ret (v := .agg #[.int .i64 0, .int .i64 0, .int .i64 0, .int .i64 0]) (by simp [results, Try.results53, go_sem, z0, z1, z2, z3]) rfl ⟨ret_rc Hn.out, ((((hw.setCell (by first | (simp; done) | (simp; omega)) _).setCell (by first | (simp; done) | (simp; omega)) _).setCell (by first | (simp; done) | (simp; omega)) _).setCell (by first | (simp; done) | (simp; omega)) _)⟩
set_option maxHeartbeats 400000 in
theorem bndI_both (a b : Rc) (ha : a.ok) (hb : b.ok) (hea : a.emp) (heb : b.emp) (w : World) :
    Calls Try.prog 53 #[.agg #[.int .i64 a.x, .int .i64 a.y, .int .i64 a.w, .int .i64 a.h], .agg #[.int .i64 b.x, .int .i64 b.y, .int .i64 b.w, .int .i64 b.h]] w
      fun e w' => e = .returned (.agg #[.int .i64 (boundsR a b).x, .int .i64 (boundsR a b).y, .int .i64 (boundsR a b).w, .int .i64 (boundsR a b).h]) ∧ Below w.heap.size w w' := by
  have Hn : Hid (boundsR a b = ⟨0, 0, 0, 0⟩) := bnd_both ha hb hea heb
  have Ha := Lib.hid ha
  have Hb := Lib.hid hb
  have Hea := Lib.hid hea
  have Heb := Lib.hid heb
  clear ha hb hea heb
  go_enter Try.func53, Try.ntmps53
  go_wp2_with fail
  refine (rectOkI_yes a Ha.out _).mono ?_
  rintro e w1 ⟨rfl, hb1⟩
  have hA : RcAt w1 w.heap.size a := (((RcAt.new w a).alloc _).alloc _).below hb1 (by simp; omega)
  have hB : RcAt w1 (w.heap.size + 1) b := ((RcAt.newAt (by simp) b).alloc _).below hb1 (by simp)
  have hR : RcAt w1 (w.heap.size + 1 + 1) ⟨0, 0, 0, 0⟩ := (RcAt.newAt (by simp) ⟨0, 0, 0, 0⟩).below hb1 (by simp)
  have hw : Below w.heap.size w w1 := ((((Below.refl _ _).alloc (Nat.le_refl _) _).alloc (by simp) _).alloc (by simp; omega) _).trans (hb1.mono (by simp; omega))
  clear hb1
  have lA := hA.lt
  have lB := hB.lt
  have lR := hR.lt
  have HA := Lib.hid hA
  have HB := Lib.hid hB
  have HR := Lib.hid hR
  obtain ⟨a0, a1, a2, a3⟩ := hA.cells
  obtain ⟨b0, b1, b2, b3⟩ := hB.cells
  obtain ⟨z0, z1, z2, z3⟩ := hR.cells
  have zf := hR.frozen
  clear hA hB hR
  go_wp2_with fail
  refine (rectOkI_yes b Hb.out _).mono ?_
  rintro e w' ⟨rfl, hb1⟩
  have hA := HA.out.below hb1 lA
  have hB := HB.out.below hb1 lB
  have hR := HR.out.below hb1 lR
  have hw := hw.trans (hb1.mono hw.size)
  clear a0 a1 a2 a3 b0 b1 b2 b3 z0 z1 z2 z3 zf lA lB lR HA HB HR hb1
  have lA := hA.lt
  have lB := hB.lt
  have lR := hR.lt
  have HA := Lib.hid hA
  have HB := Lib.hid hB
  have HR := Lib.hid hR
  obtain ⟨a0, a1, a2, a3⟩ := hA.cells
  obtain ⟨b0, b1, b2, b3⟩ := hB.cells
  obtain ⟨z0, z1, z2, z3⟩ := hR.cells
  have zf := hR.frozen
  clear hA hB hR
  go_wp2_with fail
  refine (empI_yes' a Hea.out _).mono ?_
  rintro e w' ⟨rfl, hb1⟩
  have hA := HA.out.below hb1 lA
  have hB := HB.out.below hb1 lB
  have hR := HR.out.below hb1 lR
  have hw := hw.trans (hb1.mono hw.size)
  clear a0 a1 a2 a3 b0 b1 b2 b3 z0 z1 z2 z3 zf lA lB lR HA HB HR hb1
  have lA := hA.lt
  have lB := hB.lt
  have lR := hR.lt
  have HA := Lib.hid hA
  have HB := Lib.hid hB
  have HR := Lib.hid hR
  obtain ⟨a0, a1, a2, a3⟩ := hA.cells
  obtain ⟨b0, b1, b2, b3⟩ := hB.cells
  obtain ⟨z0, z1, z2, z3⟩ := hR.cells
  have zf := hR.frozen
  clear hA hB hR
  go_wp2_with fail
  refine (empI_yes' b Heb.out _).mono ?_
  rintro e w' ⟨rfl, hb1⟩
  have hA := HA.out.below hb1 lA
  have hB := HB.out.below hb1 lB
  have hR := HR.out.below hb1 lR
  have hw := hw.trans (hb1.mono hw.size)
  clear a0 a1 a2 a3 b0 b1 b2 b3 z0 z1 z2 z3 zf lA lB lR HA HB HR hb1
  have lA := hA.lt
  have lB := hB.lt
  have lR := hR.lt
  have HA := Lib.hid hA
  have HB := Lib.hid hB
  have HR := Lib.hid hR
  obtain ⟨a0, a1, a2, a3⟩ := hA.cells
  obtain ⟨b0, b1, b2, b3⟩ := hB.cells
  obtain ⟨z0, z1, z2, z3⟩ := hR.cells
  have zf := hR.frozen
  clear hA hB hR
  go_wp2_with fail
  exact bodyPost_ret (v := .agg #[.int .i64 0, .int .i64 0, .int .i64 0, .int .i64 0]) (by simp [results, Try.results53, go_sem, z0, z1, z2, z3]) rfl ⟨ret_rc Hn.out, ((((hw.setCell (by first | (simp; done) | (simp; omega)) _).setCell (by first | (simp; done) | (simp; omega)) _).setCell (by first | (simp; done) | (simp; omega)) _).setCell (by first | (simp; done) | (simp; omega)) _)⟩
set_option maxHeartbeats 400000 in
theorem bndI_a (a b : Rc) (ha : a.ok) (hb : b.ok) (hea : a.emp) (heb : ¬ b.emp) (w : World) :
    Calls Try.prog 53 #[.agg #[.int .i64 a.x, .int .i64 a.y, .int .i64 a.w, .int .i64 a.h], .agg #[.int .i64 b.x, .int .i64 b.y, .int .i64 b.w, .int .i64 b.h]] w
      fun e w' => e = .returned (.agg #[.int .i64 (boundsR a b).x, .int .i64 (boundsR a b).y, .int .i64 (boundsR a b).w, .int .i64 (boundsR a b).h]) ∧ Below w.heap.size w w' := by
  have Hn : Hid (boundsR a b = b) := bnd_a ha hb hea heb
  have Ha := Lib.hid ha
  have Hb := Lib.hid hb
  have Hea := Lib.hid hea
  have Heb := Lib.hid heb
  clear ha hb hea heb
  go_enter Try.func53, Try.ntmps53
  go_wp2_with fail
  refine (rectOkI_yes a Ha.out _).mono ?_
  rintro e w1 ⟨rfl, hb1⟩
  have hA : RcAt w1 w.heap.size a := (((RcAt.new w a).alloc _).alloc _).below hb1 (by simp; omega)
  have hB : RcAt w1 (w.heap.size + 1) b := ((RcAt.newAt (by simp) b).alloc _).below hb1 (by simp)
  have hR : RcAt w1 (w.heap.size + 1 + 1) ⟨0, 0, 0, 0⟩ := (RcAt.newAt (by simp) ⟨0, 0, 0, 0⟩).below hb1 (by simp)
  have hw : Below w.heap.size w w1 := ((((Below.refl _ _).alloc (Nat.le_refl _) _).alloc (by simp) _).alloc (by simp; omega) _).trans (hb1.mono (by simp; omega))
  clear hb1
  have lA := hA.lt
  have lB := hB.lt
  have lR := hR.lt
  have HA := Lib.hid hA
  have HB := Lib.hid hB
  have HR := Lib.hid hR
  obtain ⟨a0, a1, a2, a3⟩ := hA.cells
  obtain ⟨b0, b1, b2, b3⟩ := hB.cells
  obtain ⟨z0, z1, z2, z3⟩ := hR.cells
  have zf := hR.frozen
  clear hA hB hR
  go_wp2_with fail
  refine (rectOkI_yes b Hb.out _).mono ?_
  rintro e w' ⟨rfl, hb1⟩
  have hA := HA.out.below hb1 lA
  have hB := HB.out.below hb1 lB
  have hR := HR.out.below hb1 lR
  have hw := hw.trans (hb1.mono hw.size)
  clear a0 a1 a2 a3 b0 b1 b2 b3 z0 z1 z2 z3 zf lA lB lR HA HB HR hb1
  have lA := hA.lt
  have lB := hB.lt
  have lR := hR.lt
  have HA := Lib.hid hA
  have HB := Lib.hid hB
  have HR := Lib.hid hR
  obtain ⟨a0, a1, a2, a3⟩ := hA.cells
  obtain ⟨b0, b1, b2, b3⟩ := hB.cells
  obtain ⟨z0, z1, z2, z3⟩ := hR.cells
  have zf := hR.frozen
  clear hA hB hR
  go_wp2_with fail
  refine (empI_yes' a Hea.out _).mono ?_
  rintro e w' ⟨rfl, hb1⟩
  have hA := HA.out.below hb1 lA
  have hB := HB.out.below hb1 lB
  have hR := HR.out.below hb1 lR
  have hw := hw.trans (hb1.mono hw.size)
  clear a0 a1 a2 a3 b0 b1 b2 b3 z0 z1 z2 z3 zf lA lB lR HA HB HR hb1
  have lA := hA.lt
  have lB := hB.lt
  have lR := hR.lt
  have HA := Lib.hid hA
  have HB := Lib.hid hB
  have HR := Lib.hid hR
  obtain ⟨a0, a1, a2, a3⟩ := hA.cells
  obtain ⟨b0, b1, b2, b3⟩ := hB.cells
  obtain ⟨z0, z1, z2, z3⟩ := hR.cells
  have zf := hR.frozen
  clear hA hB hR
  go_wp2_with fail
  refine (empI_no' b Heb.out _).mono ?_
  rintro e w' ⟨rfl, hb1⟩
  have hA := HA.out.below hb1 lA
  have hB := HB.out.below hb1 lB
  have hR := HR.out.below hb1 lR
  have hw := hw.trans (hb1.mono hw.size)
  clear a0 a1 a2 a3 b0 b1 b2 b3 z0 z1 z2 z3 zf lA lB lR HA HB HR hb1
  have lA := hA.lt
  have lB := hB.lt
  have lR := hR.lt
  have HA := Lib.hid hA
  have HB := Lib.hid hB
  have HR := Lib.hid hR
  obtain ⟨a0, a1, a2, a3⟩ := hA.cells
  obtain ⟨b0, b1, b2, b3⟩ := hB.cells
  obtain ⟨z0, z1, z2, z3⟩ := hR.cells
  have zf := hR.frozen
  clear hA hB hR
  go_wp2_with fail
  refine (empI_yes' a Hea.out _).mono ?_
  rintro e w' ⟨rfl, hb1⟩
  have hA := HA.out.below hb1 lA
  have hB := HB.out.below hb1 lB
  have hR := HR.out.below hb1 lR
  have hw := hw.trans (hb1.mono hw.size)
  clear a0 a1 a2 a3 b0 b1 b2 b3 z0 z1 z2 z3 zf lA lB lR HA HB HR hb1
  have lA := hA.lt
  have lB := hB.lt
  have lR := hR.lt
  have HA := Lib.hid hA
  have HB := Lib.hid hB
  have HR := Lib.hid hR
  obtain ⟨a0, a1, a2, a3⟩ := hA.cells
  obtain ⟨b0, b1, b2, b3⟩ := hB.cells
  obtain ⟨z0, z1, z2, z3⟩ := hR.cells
  have zf := hR.frozen
  clear hA hB hR
  go_wp2_with fail
  exact bodyPost_ret (v := .agg #[.int .i64 b.x, .int .i64 b.y, .int .i64 b.w, .int .i64 b.h]) (by simp [results, Try.results53, go_sem, z0, z1, z2, z3]) rfl ⟨ret_rcs Hn.out, ((((hw.setCell (by first | (simp; done) | (simp; omega)) _).setCell (by first | (simp; done) | (simp; omega)) _).setCell (by first | (simp; done) | (simp; omega)) _).setCell (by first | (simp; done) | (simp; omega)) _)⟩
set_option maxHeartbeats 400000 in
theorem bndI_b (a b : Rc) (ha : a.ok) (hb : b.ok) (hea : ¬ a.emp) (heb : b.emp) (w : World) :
    Calls Try.prog 53 #[.agg #[.int .i64 a.x, .int .i64 a.y, .int .i64 a.w, .int .i64 a.h], .agg #[.int .i64 b.x, .int .i64 b.y, .int .i64 b.w, .int .i64 b.h]] w
      fun e w' => e = .returned (.agg #[.int .i64 (boundsR a b).x, .int .i64 (boundsR a b).y, .int .i64 (boundsR a b).w, .int .i64 (boundsR a b).h]) ∧ Below w.heap.size w w' := by
  have Hn : Hid (boundsR a b = a) := bnd_b ha hb hea heb
  have Ha := Lib.hid ha
  have Hb := Lib.hid hb
  have Hea := Lib.hid hea
  have Heb := Lib.hid heb
  clear ha hb hea heb
  go_enter Try.func53, Try.ntmps53
  go_wp2_with fail
  refine (rectOkI_yes a Ha.out _).mono ?_
  rintro e w1 ⟨rfl, hb1⟩
  have hA : RcAt w1 w.heap.size a := (((RcAt.new w a).alloc _).alloc _).below hb1 (by simp; omega)
  have hB : RcAt w1 (w.heap.size + 1) b := ((RcAt.newAt (by simp) b).alloc _).below hb1 (by simp)
  have hR : RcAt w1 (w.heap.size + 1 + 1) ⟨0, 0, 0, 0⟩ := (RcAt.newAt (by simp) ⟨0, 0, 0, 0⟩).below hb1 (by simp)
  have hw : Below w.heap.size w w1 := ((((Below.refl _ _).alloc (Nat.le_refl _) _).alloc (by simp) _).alloc (by simp; omega) _).trans (hb1.mono (by simp; omega))
  clear hb1
  have lA := hA.lt
  have lB := hB.lt
  have lR := hR.lt
  have HA := Lib.hid hA
  have HB := Lib.hid hB
  have HR := Lib.hid hR
  obtain ⟨a0, a1, a2, a3⟩ := hA.cells
  obtain ⟨b0, b1, b2, b3⟩ := hB.cells
  obtain ⟨z0, z1, z2, z3⟩ := hR.cells
  have zf := hR.frozen
  clear hA hB hR
  go_wp2_with fail
  refine (rectOkI_yes b Hb.out _).mono ?_
  rintro e w' ⟨rfl, hb1⟩
  have hA := HA.out.below hb1 lA
  have hB := HB.out.below hb1 lB
  have hR := HR.out.below hb1 lR
  have hw := hw.trans (hb1.mono hw.size)
  clear a0 a1 a2 a3 b0 b1 b2 b3 z0 z1 z2 z3 zf lA lB lR HA HB HR hb1
  have lA := hA.lt
  have lB := hB.lt
  have lR := hR.lt
  have HA := Lib.hid hA
  have HB := Lib.hid hB
  have HR := Lib.hid hR
  obtain ⟨a0, a1, a2, a3⟩ := hA.cells
  obtain ⟨b0, b1, b2, b3⟩ := hB.cells
  obtain ⟨z0, z1, z2, z3⟩ := hR.cells
  have zf := hR.frozen
  clear hA hB hR
  go_wp2_with fail
  refine (empI_no' a Hea.out _).mono ?_
  rintro e w' ⟨rfl, hb1⟩
  have hA := HA.out.below hb1 lA
  have hB := HB.out.below hb1 lB
  have hR := HR.out.below hb1 lR
  have hw := hw.trans (hb1.mono hw.size)
  clear a0 a1 a2 a3 b0 b1 b2 b3 z0 z1 z2 z3 zf lA lB lR HA HB HR hb1
  have lA := hA.lt
  have lB := hB.lt
  have lR := hR.lt
  have HA := Lib.hid hA
  have HB := Lib.hid hB
  have HR := Lib.hid hR
  obtain ⟨a0, a1, a2, a3⟩ := hA.cells
  obtain ⟨b0, b1, b2, b3⟩ := hB.cells
  obtain ⟨z0, z1, z2, z3⟩ := hR.cells
  have zf := hR.frozen
  clear hA hB hR
  go_wp2_with fail
  refine (empI_no' a Hea.out _).mono ?_
  rintro e w' ⟨rfl, hb1⟩
  have hA := HA.out.below hb1 lA
  have hB := HB.out.below hb1 lB
  have hR := HR.out.below hb1 lR
  have hw := hw.trans (hb1.mono hw.size)
  clear a0 a1 a2 a3 b0 b1 b2 b3 z0 z1 z2 z3 zf lA lB lR HA HB HR hb1
  have lA := hA.lt
  have lB := hB.lt
  have lR := hR.lt
  have HA := Lib.hid hA
  have HB := Lib.hid hB
  have HR := Lib.hid hR
  obtain ⟨a0, a1, a2, a3⟩ := hA.cells
  obtain ⟨b0, b1, b2, b3⟩ := hB.cells
  obtain ⟨z0, z1, z2, z3⟩ := hR.cells
  have zf := hR.frozen
  clear hA hB hR
  go_wp2_with fail
  refine (empI_yes' b Heb.out _).mono ?_
  rintro e w' ⟨rfl, hb1⟩
  have hA := HA.out.below hb1 lA
  have hB := HB.out.below hb1 lB
  have hR := HR.out.below hb1 lR
  have hw := hw.trans (hb1.mono hw.size)
  clear a0 a1 a2 a3 b0 b1 b2 b3 z0 z1 z2 z3 zf lA lB lR HA HB HR hb1
  have lA := hA.lt
  have lB := hB.lt
  have lR := hR.lt
  have HA := Lib.hid hA
  have HB := Lib.hid hB
  have HR := Lib.hid hR
  obtain ⟨a0, a1, a2, a3⟩ := hA.cells
  obtain ⟨b0, b1, b2, b3⟩ := hB.cells
  obtain ⟨z0, z1, z2, z3⟩ := hR.cells
  have zf := hR.frozen
  clear hA hB hR
  go_wp2_with fail
  exact bodyPost_ret (v := .agg #[.int .i64 a.x, .int .i64 a.y, .int .i64 a.w, .int .i64 a.h]) (by simp [results, Try.results53, go_sem, z0, z1, z2, z3]) rfl ⟨ret_rcs Hn.out, ((((hw.setCell (by first | (simp; done) | (simp; omega)) _).setCell (by first | (simp; done) | (simp; omega)) _).setCell (by first | (simp; done) | (simp; omega)) _).setCell (by first | (simp; done) | (simp; omega)) _)⟩
end Go.Proofs.Ytcffeakajfbhhaa
