/- The contract of spec.Intersect. No statement is proved here. -/
import Derived.Test.YtaggldhlnjbnhaaRectC
import Derived.Test.YtaggldhlnjbnhaaBlk4
import Derived.Test.YtaggldhlnjbnhaaIsectP
import Derived.Test.YtaggldhlnjbnhaaIsectI
import Derived.Test.YtaggldhlnjbnhaaProg
import Derived.WalkKit
import Derived.ProofKit
import Derived.OpenShut
import Derived.WalkLawsBesides
import Derived.WalkSpells
import Derived.ShutString
import Derived.ChangeOld
import Derived.Below
import Derived.Lib.Hide
import Derived.Deep.RegionHeld3
import Derived.Deep.DeepCutAuto
namespace Go.Proofs.Ytaggldhlnjbnhaa
open Go.RowKit
set_option maxHeartbeats 400000 in
theorem isectS_bad (a b : Rc) (h : ¬ a.ok ∨ a.ok ∧ ¬ b.ok) (w : World) :
    Calls Try.prog 95 #[.agg #[.int .i64 a.x, .int .i64 a.y, .int .i64 a.w, .int .i64 a.h], .agg #[.int .i64 b.x, .int .i64 b.y, .int .i64 b.w, .int .i64 b.h]] w
      fun e w' => e = .returned (.agg #[.int .i64 (isect a b).x, .int .i64 (isect a b).y, .int .i64 (isect a b).w, .int .i64 (isect a b).h]) ∧ Below w.heap.size w w' := by
  have H0 : Hid (isect a b = ⟨0, 0, 0, 0⟩) := isect_no (by rintro ⟨h1, h2, h3⟩; rcases h with h | ⟨h, h'⟩ <;> contradiction)
  rcases h with h | ⟨h, h'⟩
  · have Ha := Lib.hid h
    clear h
    go_enter Try.func95, Try.ntmps95
    go_wp2_with fail
    refine (rectOkS_no a Ha.out _).mono ?_
    rintro e w1 ⟨rfl, hb⟩
    obtain ⟨hc, hf⟩ := bcell hb
    have hz : w.heap.size + 1 + 1 < w1.heap.size := by have := hb.size; simp at this; omega
    go_wp2_with fail
    exact bodyPost_ret (v := .agg #[.int .i64 0, .int .i64 0, .int .i64 0, .int .i64 0]) (by simp [results, Try.results95, go_sem, hc]) rfl ⟨ret_rc H0.out, (((((((((Below.refl _ _).alloc (Nat.le_refl _) _).alloc (by simp) _).alloc (by simp; omega) _).trans (hb.mono (by simp; omega))).setCell (by simp; omega) _).setCell (by simp; omega) _).setCell (by simp; omega) _).setCell (by simp; omega) _)⟩
  · have Ha := Lib.hid h
    have Hb := Lib.hid h'
    clear h h'
    go_enter Try.func95, Try.ntmps95
    go_wp2_with fail
    refine (rectOkS_yes a Ha.out _).mono ?_
    rintro e w1 ⟨rfl, hb⟩
    obtain ⟨hc, hf⟩ := bcell hb
    have hz : w.heap.size + 1 + 1 < w1.heap.size := by have := hb.size; simp at this; omega
    go_wp2_with fail
    refine (rectOkS_no b Hb.out _).mono ?_
    rintro e w2 ⟨rfl, hb2⟩
    obtain ⟨hc2, hf2⟩ := bcell hb2
    have hz2 : w.heap.size + 1 + 1 < w2.heap.size := by have := hb2.size; omega
    go_wp2_with fail
    exact bodyPost_ret (v := .agg #[.int .i64 0, .int .i64 0, .int .i64 0, .int .i64 0]) (by simp [results, Try.results95, go_sem, hc, hz, hc2]) rfl ⟨ret_rc H0.out, ((((((((((Below.refl _ _).alloc (Nat.le_refl _) _).alloc (by simp) _).alloc (by simp; omega) _).trans (hb.mono (by simp; omega))).trans (hb2.mono (by omega))).setCell (by simp; omega) _).setCell (by simp; omega) _).setCell (by simp; omega) _).setCell (by simp; omega) _)⟩
set_option maxHeartbeats 2000000 in
theorem isectS_ok (a b : Rc) (ha : a.ok) (hb : b.ok) (w : World) :
    Calls Try.prog 95 #[.agg #[.int .i64 a.x, .int .i64 a.y, .int .i64 a.w, .int .i64 a.h], .agg #[.int .i64 b.x, .int .i64 b.y, .int .i64 b.w, .int .i64 b.h]] w
      fun e w' => e = .returned (.agg #[.int .i64 (isect a b).x, .int .i64 (isect a b).y, .int .i64 (isect a b).w, .int .i64 (isect a b).h]) ∧ Below w.heap.size w w' := by
  have Ha := Lib.hid ha
  have Hb := Lib.hid hb
  have hbd := isect_bd a b ha hb
  have Hbd := Lib.hid hbd
  clear ha hb hbd
  go_enter Try.func95, Try.ntmps95
  go_wp2_with fail
  refine (rectOkS_yes a Ha.out _).mono ?_
  rintro e w1 ⟨rfl, hb⟩
  obtain ⟨hc, hf⟩ := bcell hb
  have hz : w.heap.size + 1 + 1 < w1.heap.size := by have := hb.size; simp at this; omega
  go_wp2_with fail
  refine (rectOkS_yes b Hb.out _).mono ?_
  rintro e w2 ⟨rfl, hb2⟩
  obtain ⟨hc2, hf2⟩ := bcell hb2
  have hz2 : w.heap.size + 1 + 1 < w2.heap.size := by have := hb2.size; omega
  have hA : RcAt w2 w.heap.size a := (((((RcAt.new w a).alloc _).alloc _).below hb (by simp; omega))).below hb2 (by omega)
  have hB : RcAt w2 (w.heap.size + 1) b := (((RcAt.newAt (by simp) b).alloc _).below hb (by simp)).below hb2 (by omega)
  have hR : RcAt w2 (w.heap.size + 1 + 1) ⟨0, 0, 0, 0⟩ := ((RcAt.newAt (by simp) ⟨0, 0, 0, 0⟩).below hb (by simp)).below hb2 (by omega)
  have hw : Below w.heap.size w w2 := ((((((Below.refl _ _).alloc (Nat.le_refl _) _).alloc (by simp) _).alloc (by simp; omega) _).trans (hb.mono (by simp; omega))).trans (hb2.mono (by omega)))
  clear hc hc2 hf hf2 hb hb2 hz
  have HA := Lib.hid hA
  have HB := Lib.hid hB
  have HR := Lib.hid hR
  obtain ⟨a0, a1, a2, a3⟩ := hA.cells
  obtain ⟨b0, b1, b2, b3⟩ := hB.cells
  clear hA hB hR
  obtain ⟨r0, r1, r2, r3⟩ := HR.out.cells
  have rf := HR.out.frozen
  obtain ⟨X, hX⟩ : ∃ X, X = max a.x b.x := ⟨_, rfl⟩
  obtain ⟨X', hX'⟩ : ∃ N, N = min (a.x + a.w) (b.x + b.w) := ⟨_, rfl⟩
  have rX : (if a.x < b.x then b.x else a.x) = X := by rw [hX]; split <;> omega
  have rX' : (if b.x + b.w < a.x + a.w then b.x + b.w else a.x + a.w) = X' := by rw [hX']; split <;> omega
  have HX := Lib.hid hX
  have HX' := Lib.hid hX'
  clear hX hX'
  obtain ⟨Y, hY⟩ : ∃ Y, Y = max a.y b.y := ⟨_, rfl⟩
  obtain ⟨Y', hY'⟩ : ∃ N, N = min (a.y + a.h) (b.y + b.h) := ⟨_, rfl⟩
  have rY : (if a.y < b.y then b.y else a.y) = Y := by rw [hY]; split <;> omega
  have rY' : (if b.y + b.h < a.y + a.h then b.y + b.h else a.y + a.h) = Y' := by rw [hY']; split <;> omega
  have HY := Lib.hid hY
  have HY' := Lib.hid hY'
  clear hY hY'
  have cc : -1000 ≤ X ∧ X ≤ 1000 ∧ -1000 ≤ Y ∧ Y ≤ 1000 ∧ -1000 ≤ X' ∧ X' ≤ 2000 ∧ -1000 ≤ Y' ∧ Y' ≤ 2000 := by
    have := HX.out; have := HX'.out; have := HY.out; have := HY'.out; have := Hbd.out; omega
  obtain ⟨c1, c2, c3, c4, c5, c6, c7, c8⟩ := cc
  have bb : (-2000 ≤ a.x + a.w ∧ a.x + a.w ≤ 2000 ∧ -2000 ≤ a.y + a.h ∧ a.y + a.h ≤ 2000) ∧ (-2000 ≤ b.x + b.w ∧ b.x + b.w ≤ 2000 ∧ -2000 ≤ b.y + b.h ∧ b.y + b.h ≤ 2000) := by
    have h1 := Ha.out; have h2 := Hb.out; unfold Rc.ok at h1 h2; omega
  obtain ⟨⟨d1, d2, d3, d4⟩, d5, d6, d7, d8⟩ := bb
  by_cases h1 : X' - X ≤ 0
  · go_wp2_with fail
    exact bodyPost_ret (v := .agg #[.int .i64 0, .int .i64 0, .int .i64 0, .int .i64 0]) (by simp [results, Try.results95, go_sem, r0, r1, r2, r3]) rfl ⟨ret_rc (isect_no (by rintro ⟨_, _, h⟩; unfold isectIn at h; have := HX.out; have := HX'.out; have := HY.out; have := HY'.out; omega)), ((((hw.setCell (by simp; omega) _).setCell (by simp; omega) _).setCell (by simp; omega) _).setCell (by simp; omega) _)⟩
  · by_cases h2 : Y' - Y ≤ 0
    · go_wp2_with fail
      exact bodyPost_ret (v := .agg #[.int .i64 0, .int .i64 0, .int .i64 0, .int .i64 0]) (by simp [results, Try.results95, go_sem, r0, r1, r2, r3]) rfl ⟨ret_rc (isect_no (by rintro ⟨_, _, h⟩; unfold isectIn at h; have := HX.out; have := HX'.out; have := HY.out; have := HY'.out; omega)), ((((hw.setCell (by simp; omega) _).setCell (by simp; omega) _).setCell (by simp; omega) _).setCell (by simp; omega) _)⟩
    · go_wp2_with fail
      exact bodyPost_ret (v := .agg #[.int .i64 X, .int .i64 Y, .int .i64 (X' - X), .int .i64 (Y' - Y)]) (by simp [results, Try.results95, go_sem, r0, r1, r2, r3]) rfl ⟨ret_rc ((isect_yes Ha.out Hb.out (by unfold isectIn; have := HX.out; have := HX'.out; have := HY.out; have := HY'.out; omega)).trans (by unfold isectRaw; rw [← HX.out, ← HY.out, ← HX'.out, ← HY'.out])), ((((hw.setCell (by simp; omega) _).setCell (by simp; omega) _).setCell (by simp; omega) _).setCell (by simp; omega) _)⟩
theorem isectS_any (a b : Rc) (w : World) :
    Calls Try.prog 95 #[.agg #[.int .i64 a.x, .int .i64 a.y, .int .i64 a.w, .int .i64 a.h], .agg #[.int .i64 b.x, .int .i64 b.y, .int .i64 b.w, .int .i64 b.h]] w
      fun e w' => e = .returned (.agg #[.int .i64 (isect a b).x, .int .i64 (isect a b).y, .int .i64 (isect a b).w, .int .i64 (isect a b).h]) ∧ Below w.heap.size w w' := by
  by_cases ha : a.ok
  · by_cases hb : b.ok
    · exact isectS_ok a b ha hb w
    · exact isectS_bad a b (.inr ⟨ha, hb⟩) w
  · exact isectS_bad a b (.inl ha) w
end Go.Proofs.Ytaggldhlnjbnhaa
