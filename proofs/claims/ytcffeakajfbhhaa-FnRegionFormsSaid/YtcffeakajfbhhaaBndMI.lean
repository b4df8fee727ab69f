/- The contract of impl.Bounds. No statement is proved here. -/
import Derived.Test.YtcffeakajfbhhaaBndI
import Derived.Deep.RegionHeld3
import Derived.Deep.DeepCutAuto
namespace Go.Proofs.Ytcffeakajfbhhaa
open Go.RowKit
set_option maxHeartbeats 2000000 in
theorem bndI_main (a b : Rc) (ha : a.ok) (hb : b.ok) (hea : ¬ a.emp) (heb : ¬ b.emp) (w : World) :
    Calls Try.prog 53 #[.agg #[.int .i64 a.x, .int .i64 a.y, .int .i64 a.w, .int .i64 a.h], .agg #[.int .i64 b.x, .int .i64 b.y, .int .i64 b.w, .int .i64 b.h]] w
      fun e w' => e = .returned (.agg #[.int .i64 (boundsR a b).x, .int .i64 (boundsR a b).y, .int .i64 (boundsR a b).w, .int .i64 (boundsR a b).h]) ∧ Below w.heap.size w w' := by
  have Ha := Lib.hid ha
  have Hb := Lib.hid hb
  have Hea := Lib.hid hea
  have Heb := Lib.hid heb
  clear ha hb hea heb
  go_enter Try.func53, Try.ntmps53
  go_wp2_with fail
  refine (rectOkI_yes a Ha.out _).mono ?_
  rintro e w1 ⟨rfl, hb1⟩
  have hA : RcAt w1 w.heap.size a := (((RcAt.new w a).alloc _).alloc _).below hb1 (by simp; omega)
  have hB : RcAt w1 (w.heap.size + 1) b := ((RcAt.newAt (by simp) b).alloc _).below hb1 (by simp)
  have hR : RcAt w1 (w.heap.size + 1 + 1) ⟨0, 0, 0, 0⟩ := (RcAt.newAt (by simp) ⟨0, 0, 0, 0⟩).below hb1 (by simp)
  have hw : Below w.heap.size w w1 := ((((Below.refl _ _).alloc (Nat.le_refl _) _).alloc (by simp) _).alloc (by simp; omega) _).trans (hb1.mono (by simp; omega))
  clear hb1
  have lA := hA.lt
  have lB := hB.lt
  have lR := hR.lt
  have HA := Lib.hid hA
  have HB := Lib.hid hB
  have HR := Lib.hid hR
  obtain ⟨a0, a1, a2, a3⟩ := hA.cells
  obtain ⟨b0, b1, b2, b3⟩ := hB.cells
  obtain ⟨z0, z1, z2, z3⟩ := hR.cells
  have zf := hR.frozen
  clear hA hB hR
  go_wp2_with fail
  refine (rectOkI_yes b Hb.out _).mono ?_
  rintro e w' ⟨rfl, hb1⟩
  have hA := HA.out.below hb1 lA
  have hB := HB.out.below hb1 lB
  have hR := HR.out.below hb1 lR
  have hw := hw.trans (hb1.mono hw.size)
  clear a0 a1 a2 a3 b0 b1 b2 b3 z0 z1 z2 z3 zf lA lB lR HA HB HR hb1
  have lA := hA.lt
  have lB := hB.lt
  have lR := hR.lt
  have HA := Lib.hid hA
  have HB := Lib.hid hB
  have HR := Lib.hid hR
  obtain ⟨a0, a1, a2, a3⟩ := hA.cells
  obtain ⟨b0, b1, b2, b3⟩ := hB.cells
  obtain ⟨z0, z1, z2, z3⟩ := hR.cells
  have zf := hR.frozen
  clear hA hB hR
  go_wp2_with fail
  refine (empI_no' a Hea.out _).mono ?_
  rintro e w' ⟨rfl, hb1⟩
  have hA := HA.out.below hb1 lA
  have hB := HB.out.below hb1 lB
  have hR := HR.out.below hb1 lR
  have hw := hw.trans (hb1.mono hw.size)
  clear a0 a1 a2 a3 b0 b1 b2 b3 z0 z1 z2 z3 zf lA lB lR HA HB HR hb1
  have lA := hA.lt
  have lB := hB.lt
  have lR := hR.lt
  have HA := Lib.hid hA
  have HB := Lib.hid hB
  have HR := Lib.hid hR
  obtain ⟨a0, a1, a2, a3⟩ := hA.cells
  obtain ⟨b0, b1, b2, b3⟩ := hB.cells
  obtain ⟨z0, z1, z2, z3⟩ := hR.cells
  have zf := hR.frozen
  clear hA hB hR
  go_wp2_with fail
  refine (empI_no' a Hea.out _).mono ?_
  rintro e w' ⟨rfl, hb1⟩
  have hA := HA.out.below hb1 lA
  have hB := HB.out.below hb1 lB
  have hR := HR.out.below hb1 lR
  have hw := hw.trans (hb1.mono hw.size)
  clear a0 a1 a2 a3 b0 b1 b2 b3 z0 z1 z2 z3 zf lA lB lR HA HB HR hb1
  have lA := hA.lt
  have lB := hB.lt
  have lR := hR.lt
  have HA := Lib.hid hA
  have HB := Lib.hid hB
  have HR := Lib.hid hR
  obtain ⟨a0, a1, a2, a3⟩ := hA.cells
  obtain ⟨b0, b1, b2, b3⟩ := hB.cells
  obtain ⟨z0, z1, z2, z3⟩ := hR.cells
  have zf := hR.frozen
  clear hA hB hR
  go_wp2_with fail
  refine (empI_no' b Heb.out _).mono ?_
  rintro e w' ⟨rfl, hb1⟩
  have hA := HA.out.below hb1 lA
  have hB := HB.out.below hb1 lB
  have hR := HR.out.below hb1 lR
  have hw := hw.trans (hb1.mono hw.size)
  clear a0 a1 a2 a3 b0 b1 b2 b3 z0 z1 z2 z3 zf lA lB lR HA HB HR hb1
  have lA := hA.lt
  have lB := hB.lt
  have lR := hR.lt
  have HA := Lib.hid hA
  have HB := Lib.hid hB
  have HR := Lib.hid hR
  obtain ⟨a0, a1, a2, a3⟩ := hA.cells
  obtain ⟨b0, b1, b2, b3⟩ := hB.cells
  obtain ⟨z0, z1, z2, z3⟩ := hR.cells
  have zf := hR.frozen
  clear hA hB hR
  go_upto_region 8 with fail
  go_cut [5, 6] (fun s5 s6 wx => ∃ X X' : Int, s5 = .int .i64 X ∧ s6 = .int .i64 X' ∧ Hid (X = min a.x b.x) ∧ Hid (X' = max (a.x + a.w) (b.x + b.w)) ∧ RcAt wx w.heap.size a ∧ RcAt wx (w.heap.size + 1) b ∧ RcAt wx (w.heap.size + 1 + 1) ⟨0, 0, 0, 0⟩ ∧ Below w.heap.size w wx)
  case first =>
    obtain ⟨X, hX⟩ : ∃ X, X = min a.x b.x := ⟨_, rfl⟩
    obtain ⟨X', hX'⟩ : ∃ N, N = max (a.x + a.w) (b.x + b.w) := ⟨_, rfl⟩
    have rX : (if b.x < a.x then b.x else a.x) = X := by rw [hX]; split <;> omega
    have rX' : (if a.x + a.w < b.x + b.w then b.x + b.w else a.x + a.w) = X' := by rw [hX']; split <;> omega
    have HX := Lib.hid hX
    have HX' := Lib.hid hX'
    clear hX hX'
    clear z0 z1 z2 z3 zf
    go_region_held3 (fun w' => (w'.cell? ⟨w.heap.size, 0, none⟩ = some (.int .i64 a.x) ∧ w'.cell? ⟨w.heap.size, 1, none⟩ = some (.int .i64 a.y) ∧ w'.cell? ⟨w.heap.size, 2, none⟩ = some (.int .i64 a.w) ∧ w'.cell? ⟨w.heap.size, 3, none⟩ = some (.int .i64 a.h)) ∧
            (w'.cell? ⟨w.heap.size + 1, 0, none⟩ = some (.int .i64 b.x) ∧ w'.cell? ⟨w.heap.size + 1, 1, none⟩ = some (.int .i64 b.y) ∧ w'.cell? ⟨w.heap.size + 1, 2, none⟩ = some (.int .i64 b.w) ∧ w'.cell? ⟨w.heap.size + 1, 3, none⟩ = some (.int .i64 b.h)))
            (go_keep) (first | (go_at_call 67; (with_reducible refine (rightOf_any a Ha.out _).mono ?_); rintro e w' ⟨rfl, rfl⟩) | (go_at_call 67; (with_reducible refine (rightOf_any b Hb.out _).mono ?_); rintro e w' ⟨rfl, rfl⟩))
    all_goals
      go_wp2_with fail
      go_meet
      case rel => exact ⟨X, X', rfl, rfl, HX, HX', ((HA.out.alloc _).alloc _).drew, ((HB.out.alloc _).alloc _).drew, ((HR.out.alloc _).alloc _).drew, ((hw.alloc hw.size _).alloc (by have := hw.size; simp; omega) _).drew⟩
  case rest =>
    obtain ⟨X, X', rfl, rfl, HX, HX', hA, hB, hR, hw⟩ := hcut
    clear a0 a1 a2 a3 b0 b1 b2 b3 z0 z1 z2 z3 zf lA lB lR HA HB HR
    have lA := hA.lt
    have lB := hB.lt
    have lR := hR.lt
    have HA := Lib.hid hA
    have HB := Lib.hid hB
    have HR := Lib.hid hR
    obtain ⟨a0, a1, a2, a3⟩ := hA.cells
    obtain ⟨b0, b1, b2, b3⟩ := hB.cells
    obtain ⟨z0, z1, z2, z3⟩ := hR.cells
    have zf := hR.frozen
    clear hA hB hR
    go_upto_region 9 with fail
    go_cut [7, 8] (fun s5 s6 wx => ∃ Y Y' : Int, s5 = .int .i64 Y ∧ s6 = .int .i64 Y' ∧ Hid (Y = min a.y b.y) ∧ Hid (Y' = max (a.y + a.h) (b.y + b.h)) ∧ RcAt wx w.heap.size a ∧ RcAt wx (w.heap.size + 1) b ∧ RcAt wx (w.heap.size + 1 + 1) ⟨0, 0, 0, 0⟩ ∧ Below w.heap.size w wx)
    case first =>
      obtain ⟨Y, hY⟩ : ∃ Y, Y = min a.y b.y := ⟨_, rfl⟩
      obtain ⟨Y', hY'⟩ : ∃ N, N = max (a.y + a.h) (b.y + b.h) := ⟨_, rfl⟩
      have rY : (if b.y < a.y then b.y else a.y) = Y := by rw [hY]; split <;> omega
      have rY' : (if a.y + a.h < b.y + b.h then b.y + b.h else a.y + a.h) = Y' := by rw [hY']; split <;> omega
      have HY := Lib.hid hY
      have HY' := Lib.hid hY'
      clear hY hY'
      clear z0 z1 z2 z3 zf
      go_region_held3 (fun w' => (w'.cell? ⟨w.heap.size, 0, none⟩ = some (.int .i64 a.x) ∧ w'.cell? ⟨w.heap.size, 1, none⟩ = some (.int .i64 a.y) ∧ w'.cell? ⟨w.heap.size, 2, none⟩ = some (.int .i64 a.w) ∧ w'.cell? ⟨w.heap.size, 3, none⟩ = some (.int .i64 a.h)) ∧
              (w'.cell? ⟨w.heap.size + 1, 0, none⟩ = some (.int .i64 b.x) ∧ w'.cell? ⟨w.heap.size + 1, 1, none⟩ = some (.int .i64 b.y) ∧ w'.cell? ⟨w.heap.size + 1, 2, none⟩ = some (.int .i64 b.w) ∧ w'.cell? ⟨w.heap.size + 1, 3, none⟩ = some (.int .i64 b.h)))
              (go_keep) (first | (go_at_call 68; (with_reducible refine (bottomOf_any a Ha.out _).mono ?_); rintro e w' ⟨rfl, rfl⟩) | (go_at_call 68; (with_reducible refine (bottomOf_any b Hb.out _).mono ?_); rintro e w' ⟨rfl, rfl⟩))
      all_goals
        go_wp2_with fail
        go_meet
        case rel => exact ⟨Y, Y', rfl, rfl, HY, HY', ((HA.out.alloc _).alloc _).drew, ((HB.out.alloc _).alloc _).drew, ((HR.out.alloc _).alloc _).drew, ((hw.alloc hw.size _).alloc (by have := hw.size; simp; omega) _).drew⟩
    case rest =>
      obtain ⟨Y, Y', rfl, rfl, HY, HY', hA, hB, hR, hw⟩ := hcut
      clear a0 a1 a2 a3 b0 b1 b2 b3 z0 z1 z2 z3 zf lA lB lR HA HB HR
      have lA := hA.lt
      have lB := hB.lt
      have lR := hR.lt
      have HA := Lib.hid hA
      have HB := Lib.hid hB
      have HR := Lib.hid hR
      obtain ⟨a0, a1, a2, a3⟩ := hA.cells
      obtain ⟨b0, b1, b2, b3⟩ := hB.cells
      obtain ⟨z0, z1, z2, z3⟩ := hR.cells
      have zf := hR.frozen
      clear hA hB hR
      have cc : -1000 ≤ X ∧ X ≤ 1000 ∧ -1000 ≤ Y ∧ Y ≤ 1000 ∧ -1000 ≤ X' ∧ X' ≤ 2000 ∧ -1000 ≤ Y' ∧ Y' ≤ 2000 := by
        have h1 := Ha.out; have h2 := Hb.out; have := HX.out; have := HX'.out; have := HY.out; have := HY'.out; unfold Rc.ok at h1 h2; omega
      obtain ⟨c1, c2, c3, c4, c5, c6, c7, c8⟩ := cc
      have hU : unionRaw a b = ⟨X, Y, X' - X, Y' - Y⟩ := by unfold unionRaw; rw [← HX.out, ← HY.out, ← HX'.out, ← HY'.out]
      have HU := Lib.hid hU
      clear hU
      by_cases hu : (⟨X, Y, X' - X, Y' - Y⟩ : Rc).ok
      · have Hn : Hid (boundsR a b = ⟨X, Y, X' - X, Y' - Y⟩) := (bnd_yes Ha.out Hb.out Hea.out Heb.out (HU.out ▸ hu)).trans HU.out
        have Hu := Lib.hid hu
        clear hu
        go_wp2_with fail
        refine (rectOkI_yes ⟨X, Y, X' - X, Y' - Y⟩ Hu.out _).mono ?_
        rintro e wz ⟨rfl, hb1⟩
        have hM := (RcAt.new _ ⟨X, Y, X' - X, Y' - Y⟩).below hb1 (by simp)
        have hR := (HR.out.alloc _).below hb1 (by simp; omega)
        have hw := (hw.alloc hw.size _).trans (hb1.mono (by have := hw.size; simp; omega))
        clear a0 a1 a2 a3 b0 b1 b2 b3 z0 z1 z2 z3 zf lA lB HA HB HR hb1
        obtain ⟨m0, m1, m2, m3⟩ := hM.cells
        obtain ⟨z0, z1, z2, z3⟩ := hR.cells
        have zf := hR.frozen
        clear hM hR
        go_wp2_with fail
        exact bodyPost_ret (v := .agg #[.int .i64 X, .int .i64 Y, .int .i64 (X' - X), .int .i64 (Y' - Y)]) (by simp [results, Try.results53, go_sem, z0, z1, z2, z3]) rfl ⟨ret_rc Hn.out, ((((hw.setCell (by first | (simp; done) | (simp; omega)) _).setCell (by first | (simp; done) | (simp; omega)) _).setCell (by first | (simp; done) | (simp; omega)) _).setCell (by first | (simp; done) | (simp; omega)) _)⟩
      · have Hn : Hid (boundsR a b = ⟨0, 0, 0, 0⟩) := bnd_no Ha.out Hb.out Hea.out Heb.out (fun h => hu (HU.out ▸ h))
        have Hu := Lib.hid hu
        clear hu
        go_wp2_with fail
        refine (rectOkI_no ⟨X, Y, X' - X, Y' - Y⟩ Hu.out _).mono ?_
        rintro e wz ⟨rfl, hb1⟩
        have hM := (RcAt.new _ ⟨X, Y, X' - X, Y' - Y⟩).below hb1 (by simp)
        have hR := (HR.out.alloc _).below hb1 (by simp; omega)
        have hw := (hw.alloc hw.size _).trans (hb1.mono (by have := hw.size; simp; omega))
        clear a0 a1 a2 a3 b0 b1 b2 b3 z0 z1 z2 z3 zf lA lB HA HB HR hb1
        obtain ⟨m0, m1, m2, m3⟩ := hM.cells
        obtain ⟨z0, z1, z2, z3⟩ := hR.cells
        have zf := hR.frozen
        clear hM hR
        go_wp2_with fail
        exact bodyPost_ret (v := .agg #[.int .i64 0, .int .i64 0, .int .i64 0, .int .i64 0]) (by simp [results, Try.results53, go_sem, z0, z1, z2, z3]) rfl ⟨ret_rc Hn.out, ((((hw.setCell (by first | (simp; done) | (simp; omega)) _).setCell (by first | (simp; done) | (simp; omega)) _).setCell (by first | (simp; done) | (simp; omega)) _).setCell (by first | (simp; done) | (simp; omega)) _)⟩
theorem bndI_any (a b : Rc) (w : World) :
    Calls Try.prog 53 #[.agg #[.int .i64 a.x, .int .i64 a.y, .int .i64 a.w, .int .i64 a.h], .agg #[.int .i64 b.x, .int .i64 b.y, .int .i64 b.w, .int .i64 b.h]] w
      fun e w' => e = .returned (.agg #[.int .i64 (boundsR a b).x, .int .i64 (boundsR a b).y, .int .i64 (boundsR a b).w, .int .i64 (boundsR a b).h]) ∧ Below w.heap.size w w' := by
  by_cases ha : a.ok
  · by_cases hb : b.ok
    · by_cases hea : a.emp
      · by_cases heb : b.emp
        · exact bndI_both a b ha hb hea heb w
        · exact bndI_a a b ha hb hea heb w
      · by_cases heb : b.emp
        · exact bndI_b a b ha hb hea heb w
        · exact bndI_main a b ha hb hea heb w
    · exact bndI_bad2 a b ha hb w
  · exact bndI_bad1 a b ha w
end Go.Proofs.Ytcffeakajfbhhaa
