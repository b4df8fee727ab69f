/- The contract of spec.Bounds. No statement is proved here. -/
import Derived.Test.YtcffeakajfbhhaaBndS
import Derived.Deep.RegionHeld3
import Derived.Deep.DeepCutAuto
namespace Go.Proofs.Ytcffeakajfbhhaa
open Go.RowKit
set_option maxHeartbeats 2000000 in
theorem bndS_main (a b : Rc) (ha : a.ok) (hb : b.ok) (hea : ¬ a.emp) (heb : ¬ b.emp) (w : World) :
    Calls Try.prog 65 #[.agg #[.int .i64 a.x, .int .i64 a.y, .int .i64 a.w, .int .i64 a.h], .agg #[.int .i64 b.x, .int .i64 b.y, .int .i64 b.w, .int .i64 b.h]] w
      fun e w' => e = .returned (.agg #[.int .i64 (boundsR a b).x, .int .i64 (boundsR a b).y, .int .i64 (boundsR a b).w, .int .i64 (boundsR a b).h]) ∧ Below w.heap.size w w' := by
  have Ha := Lib.hid ha
  have Hb := Lib.hid hb
  have Hea := Lib.hid hea
  have Heb := Lib.hid heb
  clear ha hb hea heb
  go_enter Try.func65, Try.ntmps65
  go_wp2_with fail
  refine (rectOkS_yes a Ha.out _).mono ?_
  rintro e w1 ⟨rfl, hb1⟩
  have hA : RcAt w1 w.heap.size a := (((RcAt.new w a).alloc _).alloc _).below hb1 (by simp; omega)
  have hB : RcAt w1 (w.heap.size + 1) b := ((RcAt.newAt (by simp) b).alloc _).below hb1 (by simp)
  have hR : RcAt w1 (w.heap.size + 1 + 1) ⟨0, 0, 0, 0⟩ := (RcAt.newAt (by simp) ⟨0, 0, 0, 0⟩).below hb1 (by simp)
  have hw : Below w.heap.size w w1 := ((((Below.refl _ _).alloc (Nat.le_refl _) _).alloc (by simp) _).alloc (by simp; omega) _).trans (hb1.mono (by simp; omega))
  clear hb1
  have lA := hA.lt
  have lB := hB.lt
  have lR := hR.lt
  have HA := Lib.hid hA
  have HB := Lib.hid hB
  have HR := Lib.hid hR
  obtain ⟨a0, a1, a2, a3⟩ := hA.cells
  obtain ⟨b0, b1, b2, b3⟩ := hB.cells
  obtain ⟨z0, z1, z2, z3⟩ := hR.cells
  have zf := hR.frozen
  clear hA hB hR
  go_wp2_with fail
  refine (rectOkS_yes b Hb.out _).mono ?_
  rintro e w' ⟨rfl, hb1⟩
  have hA := HA.out.below hb1 lA
  have hB := HB.out.below hb1 lB
  have hR := HR.out.below hb1 lR
  have hw := hw.trans (hb1.mono hw.size)
  clear a0 a1 a2 a3 b0 b1 b2 b3 z0 z1 z2 z3 zf lA lB lR HA HB HR hb1
  have lA := hA.lt
  have lB := hB.lt
  have lR := hR.lt
  have HA := Lib.hid hA
  have HB := Lib.hid hB
  have HR := Lib.hid hR
  obtain ⟨a0, a1, a2, a3⟩ := hA.cells
  obtain ⟨b0, b1, b2, b3⟩ := hB.cells
  obtain ⟨z0, z1, z2, z3⟩ := hR.cells
  have zf := hR.frozen
  clear hA hB hR
  go_wp2_with fail
  refine (empS_no' a Hea.out _).mono ?_
  rintro e w' ⟨rfl, hb1⟩
  have hA := HA.out.below hb1 lA
  have hB := HB.out.below hb1 lB
  have hR := HR.out.below hb1 lR
  have hw := hw.trans (hb1.mono hw.size)
  clear a0 a1 a2 a3 b0 b1 b2 b3 z0 z1 z2 z3 zf lA lB lR HA HB HR hb1
  have lA := hA.lt
  have lB := hB.lt
  have lR := hR.lt
  have HA := Lib.hid hA
  have HB := Lib.hid hB
  have HR := Lib.hid hR
  obtain ⟨a0, a1, a2, a3⟩ := hA.cells
  obtain ⟨b0, b1, b2, b3⟩ := hB.cells
  obtain ⟨z0, z1, z2, z3⟩ := hR.cells
  have zf := hR.frozen
  clear hA hB hR
  go_wp2_with fail
  refine (empS_no' a Hea.out _).mono ?_
  rintro e w' ⟨rfl, hb1⟩
  have hA := HA.out.below hb1 lA
  have hB := HB.out.below hb1 lB
  have hR := HR.out.below hb1 lR
  have hw := hw.trans (hb1.mono hw.size)
  clear a0 a1 a2 a3 b0 b1 b2 b3 z0 z1 z2 z3 zf lA lB lR HA HB HR hb1
  have lA := hA.lt
  have lB := hB.lt
  have lR := hR.lt
  have HA := Lib.hid hA
  have HB := Lib.hid hB
  have HR := Lib.hid hR
  obtain ⟨a0, a1, a2, a3⟩ := hA.cells
  obtain ⟨b0, b1, b2, b3⟩ := hB.cells
  obtain ⟨z0, z1, z2, z3⟩ := hR.cells
  have zf := hR.frozen
  clear hA hB hR
  go_wp2_with fail
  refine (empS_no' b Heb.out _).mono ?_
  rintro e w' ⟨rfl, hb1⟩
  have hA := HA.out.below hb1 lA
  have hB := HB.out.below hb1 lB
  have hR := HR.out.below hb1 lR
  have hw := hw.trans (hb1.mono hw.size)
  clear a0 a1 a2 a3 b0 b1 b2 b3 z0 z1 z2 z3 zf lA lB lR HA HB HR hb1
  have lA := hA.lt
  have lB := hB.lt
  have lR := hR.lt
  have HA := Lib.hid hA
  have HB := Lib.hid hB
  have HR := Lib.hid hR
  obtain ⟨a0, a1, a2, a3⟩ := hA.cells
  obtain ⟨b0, b1, b2, b3⟩ := hB.cells
  obtain ⟨z0, z1, z2, z3⟩ := hR.cells
  have zf := hR.frozen
  clear hA hB hR
  obtain ⟨X, hX⟩ : ∃ X, X = min a.x b.x := ⟨_, rfl⟩
  obtain ⟨X', hX'⟩ : ∃ N, N = max (a.x + a.w) (b.x + b.w) := ⟨_, rfl⟩
  have rX : (if b.x < a.x then b.x else a.x) = X := by rw [hX]; split <;> omega
  have rX' : (if a.x + a.w < b.x + b.w then b.x + b.w else a.x + a.w) = X' := by rw [hX']; split <;> omega
  have HX := Lib.hid hX
  have HX' := Lib.hid hX'
  clear hX hX'
  obtain ⟨Y, hY⟩ : ∃ Y, Y = min a.y b.y := ⟨_, rfl⟩
  obtain ⟨Y', hY'⟩ : ∃ N, N = max (a.y + a.h) (b.y + b.h) := ⟨_, rfl⟩
  have rY : (if b.y < a.y then b.y else a.y) = Y := by rw [hY]; split <;> omega
  have rY' : (if a.y + a.h < b.y + b.h then b.y + b.h else a.y + a.h) = Y' := by rw [hY']; split <;> omega
  have HY := Lib.hid hY
  have HY' := Lib.hid hY'
  clear hY hY'
  have bb : (-2000 ≤ a.x + a.w ∧ a.x + a.w ≤ 2000 ∧ -2000 ≤ a.y + a.h ∧ a.y + a.h ≤ 2000) ∧ (-2000 ≤ b.x + b.w ∧ b.x + b.w ≤ 2000 ∧ -2000 ≤ b.y + b.h ∧ b.y + b.h ≤ 2000) := by
    have h1 := Ha.out; have h2 := Hb.out; unfold Rc.ok at h1 h2; omega
  obtain ⟨⟨d1, d2, d3, d4⟩, d5, d6, d7, d8⟩ := bb
  have cc : -1000 ≤ X ∧ X ≤ 1000 ∧ -1000 ≤ Y ∧ Y ≤ 1000 ∧ -1000 ≤ X' ∧ X' ≤ 2000 ∧ -1000 ≤ Y' ∧ Y' ≤ 2000 := by
    have h1 := Ha.out; have h2 := Hb.out; have := HX.out; have := HX'.out; have := HY.out; have := HY'.out; unfold Rc.ok at h1 h2; omega
  obtain ⟨c1, c2, c3, c4, c5, c6, c7, c8⟩ := cc
  have hU : unionRaw a b = ⟨X, Y, X' - X, Y' - Y⟩ := by unfold unionRaw; rw [← HX.out, ← HY.out, ← HX'.out, ← HY'.out]
  have HU := Lib.hid hU
  clear hU
  by_cases hu : (⟨X, Y, X' - X, Y' - Y⟩ : Rc).ok
  · have Hn : Hid (boundsR a b = ⟨X, Y, X' - X, Y' - Y⟩) := (bnd_yes Ha.out Hb.out Hea.out Heb.out (HU.out ▸ hu)).trans HU.out
    have Hu := Lib.hid hu
    clear hu
    go_wp2_with fail
    refine (rectOkS_yes ⟨X, Y, X' - X, Y' - Y⟩ Hu.out _).mono ?_
    rintro e wz ⟨rfl, hb1⟩
    have hM := (RcAt.new _ ⟨X, Y, X' - X, Y' - Y⟩).below hb1 (by simp)
    have hR := (HR.out.alloc _).below hb1 (by simp; omega)
    have hw := (hw.alloc hw.size _).trans (hb1.mono (by have := hw.size; simp; omega))
    clear a0 a1 a2 a3 b0 b1 b2 b3 z0 z1 z2 z3 zf lA lB HA HB HR hb1
    obtain ⟨m0, m1, m2, m3⟩ := hM.cells
    obtain ⟨z0, z1, z2, z3⟩ := hR.cells
    have zf := hR.frozen
    clear hM hR
    go_wp2_with fail
    exact bodyPost_ret (v := .agg #[.int .i64 X, .int .i64 Y, .int .i64 (X' - X), .int .i64 (Y' - Y)]) (by simp [results, Try.results65, go_sem, z0, z1, z2, z3]) rfl ⟨ret_rc Hn.out, ((((hw.setCell (by first | (simp; done) | (simp; omega)) _).setCell (by first | (simp; done) | (simp; omega)) _).setCell (by first | (simp; done) | (simp; omega)) _).setCell (by first | (simp; done) | (simp; omega)) _)⟩
  · have Hn : Hid (boundsR a b = ⟨0, 0, 0, 0⟩) := bnd_no Ha.out Hb.out Hea.out Heb.out (fun h => hu (HU.out ▸ h))
    have Hu := Lib.hid hu
    clear hu
    go_wp2_with fail
    refine (rectOkS_no ⟨X, Y, X' - X, Y' - Y⟩ Hu.out _).mono ?_
    rintro e wz ⟨rfl, hb1⟩
    have hM := (RcAt.new _ ⟨X, Y, X' - X, Y' - Y⟩).below hb1 (by simp)
    have hR := (HR.out.alloc _).below hb1 (by simp; omega)
    have hw := (hw.alloc hw.size _).trans (hb1.mono (by have := hw.size; simp; omega))
    clear a0 a1 a2 a3 b0 b1 b2 b3 z0 z1 z2 z3 zf lA lB HA HB HR hb1
    obtain ⟨m0, m1, m2, m3⟩ := hM.cells
    obtain ⟨z0, z1, z2, z3⟩ := hR.cells
    have zf := hR.frozen
    clear hM hR
    go_wp2_with fail
    exact bodyPost_ret (v := .agg #[.int .i64 0, .int .i64 0, .int .i64 0, .int .i64 0]) (by simp [results, Try.results65, go_sem, z0, z1, z2, z3]) rfl ⟨ret_rc Hn.out, ((((hw.setCell (by first | (simp; done) | (simp; omega)) _).setCell (by first | (simp; done) | (simp; omega)) _).setCell (by first | (simp; done) | (simp; omega)) _).setCell (by first | (simp; done) | (simp; omega)) _)⟩
theorem bndS_any (a b : Rc) (w : World) :
    Calls Try.prog 65 #[.agg #[.int .i64 a.x, .int .i64 a.y, .int .i64 a.w, .int .i64 a.h], .agg #[.int .i64 b.x, .int .i64 b.y, .int .i64 b.w, .int .i64 b.h]] w
      fun e w' => e = .returned (.agg #[.int .i64 (boundsR a b).x, .int .i64 (boundsR a b).y, .int .i64 (boundsR a b).w, .int .i64 (boundsR a b).h]) ∧ Below w.heap.size w w' := by
  by_cases ha : a.ok
  · by_cases hb : b.ok
    · by_cases hea : a.emp
      · by_cases heb : b.emp
        · exact bndS_both a b ha hb hea heb w
        · exact bndS_a a b ha hb hea heb w
      · by_cases heb : b.emp
        · exact bndS_b a b ha hb hea heb w
        · exact bndS_main a b ha hb hea heb w
    · exact bndS_bad2 a b ha hb w
  · exact bndS_bad1 a b ha w
end Go.Proofs.Ytcffeakajfbhhaa
