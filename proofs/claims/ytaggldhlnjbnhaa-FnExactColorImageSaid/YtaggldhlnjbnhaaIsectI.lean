/- The contracts of impl.rightOf, impl.bottomOf, impl.Intersect. No statement is proved here. -/
import Derived.Test.YtaggldhlnjbnhaaRectC
import Derived.Test.YtaggldhlnjbnhaaBlk4
import Derived.Test.YtaggldhlnjbnhaaIsectP
import Derived.Test.YtaggldhlnjbnhaaProg
import Derived.WalkKit
import Derived.ProofKit
import Derived.OpenShut
import Derived.WalkLawsBesides
import Derived.WalkSpells
import Derived.ShutString
import Derived.ChangeOld
import Derived.Below
import Derived.Lib.Hide
import Derived.Deep.RegionHeld3
import Derived.Deep.DeepCutAuto
namespace Go.Proofs.Ytaggldhlnjbnhaa
open Go.RowKit
theorem bcell {W w1 : World} (hb : Below W.heap.size W w1) : (∀ b o, b < W.heap.size → w1.cell? ⟨b, o, none⟩ = W.cell? ⟨b, o, none⟩) ∧ (∀ b o, b < W.heap.size → w1.frozen? ⟨b, o, none⟩ = W.frozen? ⟨b, o, none⟩) :=
  ⟨fun b o h => hb.cell (p := ⟨b, o, none⟩) h, fun b o h => hb.frozen (p := ⟨b, o, none⟩) h⟩
theorem rightOf_any (r : Rc) (hr : r.ok) (w : World) :
    Calls Try.prog 94 #[.agg #[.int .i64 r.x, .int .i64 r.y, .int .i64 r.w, .int .i64 r.h]] w fun e w' => e = .returned (.int .i64 (r.x + r.w)) ∧ w.alloc (.cells #[.int .i64 r.x, .int .i64 r.y, .int .i64 r.w, .int .i64 r.h] 60) = w' := by
  obtain ⟨h1, h2, h3, h4, h5, h6, h7, h8⟩ := hr
  go_enter Try.func94, Try.ntmps94
  go_wp2
  go_ret
  exact ⟨rfl, rfl⟩
theorem bottomOf_any (r : Rc) (hr : r.ok) (w : World) :
    Calls Try.prog 78 #[.agg #[.int .i64 r.x, .int .i64 r.y, .int .i64 r.w, .int .i64 r.h]] w fun e w' => e = .returned (.int .i64 (r.y + r.h)) ∧ w.alloc (.cells #[.int .i64 r.x, .int .i64 r.y, .int .i64 r.w, .int .i64 r.h] 60) = w' := by
  obtain ⟨h1, h2, h3, h4, h5, h6, h7, h8⟩ := hr
  go_enter Try.func78, Try.ntmps78
  go_wp2
  go_ret
  exact ⟨rfl, rfl⟩
set_option maxHeartbeats 400000 in
theorem isectI_bad (a b : Rc) (h : ¬ a.ok ∨ a.ok ∧ ¬ b.ok) (w : World) :
    Calls Try.prog 96 #[.agg #[.int .i64 a.x, .int .i64 a.y, .int .i64 a.w, .int .i64 a.h], .agg #[.int .i64 b.x, .int .i64 b.y, .int .i64 b.w, .int .i64 b.h]] w
      fun e w' => e = .returned (.agg #[.int .i64 (isect a b).x, .int .i64 (isect a b).y, .int .i64 (isect a b).w, .int .i64 (isect a b).h]) ∧ Below w.heap.size w w' := by
  have H0 : Hid (isect a b = ⟨0, 0, 0, 0⟩) := isect_no (by rintro ⟨h1, h2, h3⟩; rcases h with h | ⟨h, h'⟩ <;> contradiction)
  rcases h with h | ⟨h, h'⟩
  · have Ha := Lib.hid h
    clear h
    go_enter Try.func96, Try.ntmps96
    go_wp2_with fail
    refine (rectOkI_no a Ha.out _).mono ?_
    rintro e w1 ⟨rfl, hb⟩
    obtain ⟨hc, hf⟩ := bcell hb
    have hz : w.heap.size + 1 + 1 < w1.heap.size := by have := hb.size; simp at this; omega
    go_wp2_with fail
    exact bodyPost_ret (v := .agg #[.int .i64 0, .int .i64 0, .int .i64 0, .int .i64 0]) (by simp [results, Try.results96, go_sem, hc]) rfl ⟨ret_rc H0.out, (((((((((Below.refl _ _).alloc (Nat.le_refl _) _).alloc (by simp) _).alloc (by simp; omega) _).trans (hb.mono (by simp; omega))).setCell (by simp; omega) _).setCell (by simp; omega) _).setCell (by simp; omega) _).setCell (by simp; omega) _)⟩
  · have Ha := Lib.hid h
    have Hb := Lib.hid h'
    clear h h'
    go_enter Try.func96, Try.ntmps96
    go_wp2_with fail
    refine (rectOkI_yes a Ha.out _).mono ?_
    rintro e w1 ⟨rfl, hb⟩
    obtain ⟨hc, hf⟩ := bcell hb
    have hz : w.heap.size + 1 + 1 < w1.heap.size := by have := hb.size; simp at this; omega
    go_wp2_with fail
    refine (rectOkI_no b Hb.out _).mono ?_
    rintro e w2 ⟨rfl, hb2⟩
    obtain ⟨hc2, hf2⟩ := bcell hb2
    have hz2 : w.heap.size + 1 + 1 < w2.heap.size := by have := hb2.size; omega
    go_wp2_with fail
    exact bodyPost_ret (v := .agg #[.int .i64 0, .int .i64 0, .int .i64 0, .int .i64 0]) (by simp [results, Try.results96, go_sem, hc, hz, hc2]) rfl ⟨ret_rc H0.out, ((((((((((Below.refl _ _).alloc (Nat.le_refl _) _).alloc (by simp) _).alloc (by simp; omega) _).trans (hb.mono (by simp; omega))).trans (hb2.mono (by omega))).setCell (by simp; omega) _).setCell (by simp; omega) _).setCell (by simp; omega) _).setCell (by simp; omega) _)⟩
set_option maxHeartbeats 2000000 in
theorem isectI_ok (a b : Rc) (ha : a.ok) (hb : b.ok) (w : World) :
    Calls Try.prog 96 #[.agg #[.int .i64 a.x, .int .i64 a.y, .int .i64 a.w, .int .i64 a.h], .agg #[.int .i64 b.x, .int .i64 b.y, .int .i64 b.w, .int .i64 b.h]] w
      fun e w' => e = .returned (.agg #[.int .i64 (isect a b).x, .int .i64 (isect a b).y, .int .i64 (isect a b).w, .int .i64 (isect a b).h]) ∧ Below w.heap.size w w' := by
  have Ha := Lib.hid ha
  have Hb := Lib.hid hb
  have hbd := isect_bd a b ha hb
  have Hbd := Lib.hid hbd
  clear ha hb hbd
  go_enter Try.func96, Try.ntmps96
  go_wp2_with fail
  refine (rectOkI_yes a Ha.out _).mono ?_
  rintro e w1 ⟨rfl, hb⟩
  obtain ⟨hc, hf⟩ := bcell hb
  have hz : w.heap.size + 1 + 1 < w1.heap.size := by have := hb.size; simp at this; omega
  go_wp2_with fail
  refine (rectOkI_yes b Hb.out _).mono ?_
  rintro e w2 ⟨rfl, hb2⟩
  obtain ⟨hc2, hf2⟩ := bcell hb2
  have hz2 : w.heap.size + 1 + 1 < w2.heap.size := by have := hb2.size; omega
  have hA : RcAt w2 w.heap.size a := (((((RcAt.new w a).alloc _).alloc _).below hb (by simp; omega))).below hb2 (by omega)
  have hB : RcAt w2 (w.heap.size + 1) b := (((RcAt.newAt (by simp) b).alloc _).below hb (by simp)).below hb2 (by omega)
  have hR : RcAt w2 (w.heap.size + 1 + 1) ⟨0, 0, 0, 0⟩ := ((RcAt.newAt (by simp) ⟨0, 0, 0, 0⟩).below hb (by simp)).below hb2 (by omega)
  have hw : Below w.heap.size w w2 := ((((((Below.refl _ _).alloc (Nat.le_refl _) _).alloc (by simp) _).alloc (by simp; omega) _).trans (hb.mono (by simp; omega))).trans (hb2.mono (by omega)))
  clear hc hc2 hf hf2 hb hb2 hz
  have HA := Lib.hid hA
  have HB := Lib.hid hB
  have HR := Lib.hid hR
  obtain ⟨a0, a1, a2, a3⟩ := hA.cells
  obtain ⟨b0, b1, b2, b3⟩ := hB.cells
  clear hA hB hR
  go_upto_region 4 with fail
  go_cut [5, 6] (fun s5 s6 wx => ∃ X X' : Int, s5 = .int .i64 X ∧ s6 = .int .i64 X' ∧ Hid (X = max a.x b.x) ∧ Hid (X' = min (a.x + a.w) (b.x + b.w)) ∧ RcAt wx w.heap.size a ∧ RcAt wx (w.heap.size + 1) b ∧ RcAt wx (w.heap.size + 1 + 1) ⟨0, 0, 0, 0⟩ ∧ Below w.heap.size w wx)
  case first =>
    obtain ⟨M, hM⟩ : ∃ M, M = max a.x b.x := ⟨_, rfl⟩
    obtain ⟨N, hN⟩ : ∃ N, N = min (a.x + a.w) (b.x + b.w) := ⟨_, rfl⟩
    have hm : (if a.x < b.x then b.x else a.x) = M := by rw [hM]; split <;> omega
    have hn : (if b.x + b.w < a.x + a.w then b.x + b.w else a.x + a.w) = N := by rw [hN]; split <;> omega
    have HM := Lib.hid hM
    have HN := Lib.hid hN
    clear hM hN
    go_region_held3 (fun w' => (w'.cell? ⟨w.heap.size, 0, none⟩ = some (.int .i64 a.x) ∧ w'.cell? ⟨w.heap.size, 1, none⟩ = some (.int .i64 a.y) ∧ w'.cell? ⟨w.heap.size, 2, none⟩ = some (.int .i64 a.w) ∧ w'.cell? ⟨w.heap.size, 3, none⟩ = some (.int .i64 a.h)) ∧
      (w'.cell? ⟨w.heap.size + 1, 0, none⟩ = some (.int .i64 b.x) ∧ w'.cell? ⟨w.heap.size + 1, 1, none⟩ = some (.int .i64 b.y) ∧ w'.cell? ⟨w.heap.size + 1, 2, none⟩ = some (.int .i64 b.w) ∧ w'.cell? ⟨w.heap.size + 1, 3, none⟩ = some (.int .i64 b.h)))
      (go_keep) (first | (go_at_call 94; (with_reducible refine (rightOf_any a Ha.out _).mono ?_); rintro e w' ⟨rfl, rfl⟩) | (go_at_call 94; (with_reducible refine (rightOf_any b Hb.out _).mono ?_); rintro e w' ⟨rfl, rfl⟩))
    all_goals
      go_wp2_with fail
      go_meet
      case rel => exact ⟨M, N, rfl, rfl, HM, HN, ((HA.out.alloc _).alloc _).drew, ((HB.out.alloc _).alloc _).drew, ((HR.out.alloc _).alloc _).drew, ((hw.alloc hw.size _).alloc (by have := hw.size; simp; omega) _).drew⟩
  case rest =>
    obtain ⟨X, X', rfl, rfl, HX, HX', hA, hB, hR, hw⟩ := hcut
    obtain ⟨a0, a1, a2, a3⟩ := hA.cells
    obtain ⟨b0, b1, b2, b3⟩ := hB.cells
    have HA := Lib.hid hA
    have HB := Lib.hid hB
    have HR := Lib.hid hR
    have hz2 := hR.lt
    clear hA hB hR
    go_upto_region 5 with fail
    go_cut [7, 8] (fun s7 s8 wx => ∃ Y Y' : Int, s7 = .int .i64 Y ∧ s8 = .int .i64 Y' ∧ Hid (Y = max a.y b.y) ∧ Hid (Y' = min (a.y + a.h) (b.y + b.h)) ∧ RcAt wx w.heap.size a ∧ RcAt wx (w.heap.size + 1) b ∧ RcAt wx (w.heap.size + 1 + 1) ⟨0, 0, 0, 0⟩ ∧ Below w.heap.size w wx)
    case first =>
      obtain ⟨M, hM⟩ : ∃ M, M = max a.y b.y := ⟨_, rfl⟩
      obtain ⟨N, hN⟩ : ∃ N, N = min (a.y + a.h) (b.y + b.h) := ⟨_, rfl⟩
      have hm : (if a.y < b.y then b.y else a.y) = M := by rw [hM]; split <;> omega
      have hn : (if b.y + b.h < a.y + a.h then b.y + b.h else a.y + a.h) = N := by rw [hN]; split <;> omega
      have HM := Lib.hid hM
      have HN := Lib.hid hN
      clear hM hN
      go_region_held3 (fun w' => (w'.cell? ⟨w.heap.size, 0, none⟩ = some (.int .i64 a.x) ∧ w'.cell? ⟨w.heap.size, 1, none⟩ = some (.int .i64 a.y) ∧ w'.cell? ⟨w.heap.size, 2, none⟩ = some (.int .i64 a.w) ∧ w'.cell? ⟨w.heap.size, 3, none⟩ = some (.int .i64 a.h)) ∧
        (w'.cell? ⟨w.heap.size + 1, 0, none⟩ = some (.int .i64 b.x) ∧ w'.cell? ⟨w.heap.size + 1, 1, none⟩ = some (.int .i64 b.y) ∧ w'.cell? ⟨w.heap.size + 1, 2, none⟩ = some (.int .i64 b.w) ∧ w'.cell? ⟨w.heap.size + 1, 3, none⟩ = some (.int .i64 b.h)))
        (go_keep) (first | (go_at_call 78; (with_reducible refine (bottomOf_any a Ha.out _).mono ?_); rintro e w' ⟨rfl, rfl⟩) | (go_at_call 78; (with_reducible refine (bottomOf_any b Hb.out _).mono ?_); rintro e w' ⟨rfl, rfl⟩))
      all_goals
        go_wp2_with fail
        go_meet
        case rel => exact ⟨M, N, rfl, rfl, HM, HN, ((HA.out.alloc _).alloc _).drew, ((HB.out.alloc _).alloc _).drew, ((HR.out.alloc _).alloc _).drew, ((hw.alloc hw.size _).alloc (by have := hw.size; simp; omega) _).drew⟩
    case rest =>
      obtain ⟨Y, Y', rfl, rfl, HY, HY', hA, hB, hR, hw⟩ := hcut
      have hz2 := hR.lt
      obtain ⟨r0, r1, r2, r3⟩ := hR.cells
      have rf := hR.frozen
      have HR := Lib.hid hR
      clear hA hB hR a0 a1 a2 a3 b0 b1 b2 b3
      have cc : -1000 ≤ X ∧ X ≤ 1000 ∧ -1000 ≤ Y ∧ Y ≤ 1000 ∧ -1000 ≤ X' ∧ X' ≤ 2000 ∧ -1000 ≤ Y' ∧ Y' ≤ 2000 := by
        have := HX.out; have := HX'.out; have := HY.out; have := HY'.out; have := Hbd.out; omega
      obtain ⟨c1, c2, c3, c4, c5, c6, c7, c8⟩ := cc
      by_cases h1 : X < X'
      · by_cases h2 : Y < Y'
        · go_wp2_with fail
          exact bodyPost_ret (v := .agg #[.int .i64 X, .int .i64 Y, .int .i64 (X' - X), .int .i64 (Y' - Y)]) (by simp [results, Try.results96, go_sem, r0, r1, r2, r3]) rfl ⟨ret_rc ((isect_yes Ha.out Hb.out (by unfold isectIn; have := HX.out; have := HX'.out; have := HY.out; have := HY'.out; omega)).trans (by unfold isectRaw; rw [← HX.out, ← HY.out, ← HX'.out, ← HY'.out])), ((((hw.setCell (by simp; omega) _).setCell (by simp; omega) _).setCell (by simp; omega) _).setCell (by simp; omega) _)⟩
        · go_wp2_with fail
          exact bodyPost_ret (v := .agg #[.int .i64 0, .int .i64 0, .int .i64 0, .int .i64 0]) (by simp [results, Try.results96, go_sem, r0, r1, r2, r3]) rfl ⟨ret_rc (isect_no (by rintro ⟨_, _, h⟩; unfold isectIn at h; have := HX.out; have := HX'.out; have := HY.out; have := HY'.out; omega)), ((((hw.setCell (by simp; omega) _).setCell (by simp; omega) _).setCell (by simp; omega) _).setCell (by simp; omega) _)⟩
      · go_wp2_with fail
        exact bodyPost_ret (v := .agg #[.int .i64 0, .int .i64 0, .int .i64 0, .int .i64 0]) (by simp [results, Try.results96, go_sem, r0, r1, r2, r3]) rfl ⟨ret_rc (isect_no (by rintro ⟨_, _, h⟩; unfold isectIn at h; have := HX.out; have := HX'.out; have := HY.out; have := HY'.out; omega)), ((((hw.setCell (by simp; omega) _).setCell (by simp; omega) _).setCell (by simp; omega) _).setCell (by simp; omega) _)⟩
theorem isectI_any (a b : Rc) (w : World) :
    Calls Try.prog 96 #[.agg #[.int .i64 a.x, .int .i64 a.y, .int .i64 a.w, .int .i64 a.h], .agg #[.int .i64 b.x, .int .i64 b.y, .int .i64 b.w, .int .i64 b.h]] w
      fun e w' => e = .returned (.agg #[.int .i64 (isect a b).x, .int .i64 (isect a b).y, .int .i64 (isect a b).w, .int .i64 (isect a b).h]) ∧ Below w.heap.size w w' := by
  by_cases ha : a.ok
  · by_cases hb : b.ok
    · exact isectI_ok a b ha hb w
    · exact isectI_bad a b (.inr ⟨ha, hb⟩) w
  · exact isectI_bad a b (.inl ha) w
end Go.Proofs.Ytaggldhlnjbnhaa
