/- The contracts of spec.l02Rect, spec.DrawRects. No statement is proved here. -/
import Derived.Test.YtfjdknghphmceaaCurC
import Derived.Test.YtfjdknghphmceaaRectEq
import Derived.Deep.RegionHeld3
import Derived.Deep.RegionWith
namespace Go.Proofs.Ytfjdknghphmceaa
open Go.RowKit
/-- A rectangle as l02Rect draws it. -/
def SmallRc (r : Rc) : Prop := -4 ≤ r.x ∧ r.x ≤ 15 ∧ -4 ≤ r.y ∧ r.y ≤ 11 ∧ 0 ≤ r.w ∧ r.w ≤ 11 ∧ 0 ≤ r.h ∧ r.h ≤ 9
/-- What l02Rect answers. -/
def DrawnRc (w : World) (g : Nat) (e : Ending) (w' : World) : Prop :=
  ∃ r : Rc, e = .returned (.agg #[.int .i64 r.x, .int .i64 r.y, .int .i64 r.w, .int .i64 r.h]) ∧ SmallRc r ∧ Cur w' g ∧ w.grownBy w' (some g)
theorem RcAt.grown {w w' : World} {g : Nat} {row : Option Nat} {r : Rc} (h : RcAt w g r) (hb : w.grownBy w' row) (hg : some g ≠ row) : RcAt w' g r := (hb.block g h.lt hg).trans h
theorem Cur.far {w : World} {g : Nat} (h : Cur w g) {p : Addr} (hp : g < p.block) (v : Value) : Cur (w.setCell p v) g :=
  h.kept fun k hk => Below.heap_setCell w p v k (by omega)
theorem grown_far {w0 w : World} {row : Option Nat} (h : w0.grownBy w row) {p : Addr} (hp : w0.heap.size ≤ p.block) (v : Value) : w0.grownBy (w.setCell p v) row :=
  ⟨h.os, h.tape, h.output, by simpa [World.setCell] using h.size, fun k hk hne => (Below.heap_setCell w p v k (by omega)).trans (h.block k hk hne)⟩
theorem grown_alloc (w : World) (o : Obj) (row : Option Nat) : w.grownBy (w.alloc o) row :=
  ⟨rfl, rfl, rfl, by simp, fun k hk _ => Below.heap_alloc w o k hk⟩
set_option maxHeartbeats 400000 in
theorem l02Rect_any (w : World) (g : Nat) (hc : Cur w g) : Calls Try.prog 34 #[.pointer (some ⟨g, 0, none⟩)] w (DrawnRc w g) := by
  have hl := hc.lt
  have hR : RcAt (w.alloc (.cells #[.int .i64 0, .int .i64 0, .int .i64 0, .int .i64 0] 25)) w.heap.size ⟨0, 0, 0, 0⟩ := RcAt.new w ⟨0, 0, 0, 0⟩
  have hg := grown_alloc w (.cells #[.int .i64 0, .int .i64 0, .int .i64 0, .int .i64 0] 25) (some g)
  have hc := hc.alloc (.cells #[.int .i64 0, .int .i64 0, .int .i64 0, .int .i64 0] 25)
  have hne : some w.heap.size ≠ some g := by simp; omega
  have HN := Lib.hid hne
  clear hne
  go_enter Try.func34, Try.ntmps34
  go_wp2_with fail
  refine (below_any _ g _ (by omega) hc).mono ?_
  rintro e w1 ⟨x, rfl, h0, h1, h2, hc', hg'⟩
  have p_x : 0 ≤ x := h0
  have q_x := h1 (by omega)
  have hR := hR.grown hg' HN.out
  have hg := hg.trans hg'
  have hc := hc'
  clear h0 h1 h2 hc' hg'
  go_wp2_with fail
  refine (below_any _ g _ (by omega) hc).mono ?_
  rintro e w1 ⟨y, rfl, h0, h1, h2, hc', hg'⟩
  have p_y : 0 ≤ y := h0
  have q_y := h1 (by omega)
  have hR := hR.grown hg' HN.out
  have hg := hg.trans hg'
  have hc := hc'
  clear h0 h1 h2 hc' hg'
  go_wp2_with fail
  refine (below_any _ g _ (by omega) hc).mono ?_
  rintro e w1 ⟨u, rfl, h0, h1, h2, hc', hg'⟩
  have p_u : 0 ≤ u := h0
  have q_u := h1 (by omega)
  have hR := hR.grown hg' HN.out
  have hg := hg.trans hg'
  have hc := hc'
  clear h0 h1 h2 hc' hg'
  go_wp2_with fail
  refine (below_any _ g _ (by omega) hc).mono ?_
  rintro e w1 ⟨v, rfl, h0, h1, h2, hc', hg'⟩
  have p_v : 0 ≤ v := h0
  have q_v := h1 (by omega)
  have hR := hR.grown hg' HN.out
  have hg := hg.trans hg'
  have hc := hc'
  clear h0 h1 h2 hc' hg'
  obtain ⟨z0, z1, z2, z3⟩ := hR.cells
  have zf := hR.frozen
  clear hR
  go_wp2_with fail
  exact bodyPost_ret (v := .agg #[.int .i64 (x - 4), .int .i64 (y - 4), .int .i64 u, .int .i64 v]) (by simp [results, Try.results34, go_sem, z0, z1, z2, z3]) rfl
    ⟨⟨x - 4, y - 4, u, v⟩, rfl, by unfold SmallRc; dsimp only; omega, ((((hc.far (by simpa using hl) _).far (by simpa using hl) _).far (by simpa using hl) _).far (by simpa using hl) _), grown_far (grown_far (grown_far (grown_far hg (by simp) _) (by simp) _) (by simp) _) (by simp) _⟩
/-- What DrawRects answers. -/
def Draw2Rc (w : World) (e : Ending) (w' : World) : Prop :=
  ∃ a b : Rc, e = .returned (.tuple #[.agg #[.int .i64 a.x, .int .i64 a.y, .int .i64 a.w, .int .i64 a.h], .agg #[.int .i64 b.x, .int .i64 b.y, .int .i64 b.w, .int .i64 b.h]]) ∧ SmallRc a ∧ SmallRc b ∧ Below w.heap.size w w'
set_option maxHeartbeats 600000 in
theorem drawRects_any (w : World) (A : Option Addr) (len cap : Nat) (zs : List Int) (hrow : IsRow .u8 w A len cap zs) :
    Calls Try.prog 25 #[.slice A len cap] w (Draw2Rc w) := by
  have hrow2 : IsRow .u8 ((w.alloc (.cells #[.int .i64 0, .int .i64 0, .int .i64 0, .int .i64 0] 25)).alloc (.cells #[.int .i64 0, .int .i64 0, .int .i64 0, .int .i64 0] 25)) A len cap zs := hrow.of_same (fun x hx hp => (Below.heap_alloc _ _ _ (by have := hrow.lt x hx hp; simp; omega)).trans (Below.heap_alloc _ _ _ (hrow.lt x hx hp)))
  have hR0 : RcAt ((w.alloc (.cells #[.int .i64 0, .int .i64 0, .int .i64 0, .int .i64 0] 25)).alloc (.cells #[.int .i64 0, .int .i64 0, .int .i64 0, .int .i64 0] 25)) w.heap.size ⟨0, 0, 0, 0⟩ := (RcAt.newAt rfl ⟨0, 0, 0, 0⟩).alloc _
  have hR1 : RcAt ((w.alloc (.cells #[.int .i64 0, .int .i64 0, .int .i64 0, .int .i64 0] 25)).alloc (.cells #[.int .i64 0, .int .i64 0, .int .i64 0, .int .i64 0] 25)) (w.heap.size + 1) ⟨0, 0, 0, 0⟩ := RcAt.newAt (by simp) ⟨0, 0, 0, 0⟩
  have hw : Below w.heap.size w ((w.alloc (.cells #[.int .i64 0, .int .i64 0, .int .i64 0, .int .i64 0] 25)).alloc (.cells #[.int .i64 0, .int .i64 0, .int .i64 0, .int .i64 0] 25)) := ((Below.refl _ _).alloc (Nat.le_refl _) _).alloc (by simp) _
  clear hrow
  go_enter Try.func25, Try.ntmps25
  go_wp2_with fail
  refine (new_any _ _ _ _ zs hrow2).mono ?_
  rintro e w1 ⟨g, rfl, hgs, hc, hb1⟩
  have hR0 := hR0.below hb1 hR0.lt
  have hR1 := hR1.below hb1 hR1.lt
  have hw := hw.trans (hb1.mono hw.size)
  have hlt : w.heap.size + 1 < g := by simp at hgs; omega
  clear hrow2 hgs hb1
  go_wp2_with fail
  refine (l02Rect_any _ g hc).mono ?_
  rintro e w2 ⟨a, rfl, ha, hc, hg2⟩
  have hR0 := hR0.grown hg2 (by simp; omega)
  have hR1 := hR1.grown hg2 (by simp; omega)
  have hw := hw.grown hg2 hw.size (fun k hk => by simp at hk; omega)
  have hcl := hc.lt
  clear hg2
  have hT := (RcAt.new w2 a).drew
  have hR0 := (hR0.alloc (.cells #[.int .i64 a.x, .int .i64 a.y, .int .i64 a.w, .int .i64 a.h] 25)).drew
  have hR1 := (hR1.alloc (.cells #[.int .i64 a.x, .int .i64 a.y, .int .i64 a.w, .int .i64 a.h] 25)).drew
  have hw := (hw.alloc hw.size (.cells #[.int .i64 a.x, .int .i64 a.y, .int .i64 a.w, .int .i64 a.h] 25)).drew
  have hc := (hc.alloc (.cells #[.int .i64 a.x, .int .i64 a.y, .int .i64 a.w, .int .i64 a.h] 25)).drew
  go_wp2_with fail
  go_region_with (first | (go_at_call 34; (with_reducible refine (l02Rect_any _ g hc).mono ?_); rintro e w3 ⟨b, rfl, hbs, hc3, hg3⟩; have hT := hT.grown hg3 (by simp; omega); have hR0 := hR0.grown hg3 (by simp; omega); have hR1 := hR1.grown hg3 (by simp; omega); have hw := hw.grown hg3 hw.size (fun k hk => by simp at hk; omega); obtain ⟨t0, t1, t2, t3⟩ := hT.cells; obtain ⟨r0, r1, r2, r3⟩ := hR0.cells; obtain ⟨s0, s1, s2, s3⟩ := hR1.cells; have rf := hR0.frozen; have sf := hR1.frozen))
  all_goals
    go_wp2_with fail
    obtain ⟨f0, f1, f2, f3⟩ := ((hR0.setr a).far4 (Nat.lt_succ_self _) (.int .i64 b.x) (.int .i64 b.y) (.int .i64 b.w) (.int .i64 b.h)).cells
    obtain ⟨k0, k1, k2, k3⟩ := (RcAt.setr ((hR1.far4' (Nat.lt_succ_self _) (.int .i64 a.x) (.int .i64 a.y) (.int .i64 a.w) (.int .i64 a.h))) b).cells
    exact bodyPost_ret (v := .tuple #[.agg #[.int .i64 a.x, .int .i64 a.y, .int .i64 a.w, .int .i64 a.h], .agg #[.int .i64 b.x, .int .i64 b.y, .int .i64 b.w, .int .i64 b.h]]) (by simp [results, Try.results25, go_sem, f0, f1, f2, f3, k0, k1, k2, k3]) rfl
      ⟨a, b, rfl, ha, hbs, below_set4 (below_set4 hw (Nat.le_refl _) _ _ _ _) (Nat.le_succ _) _ _ _ _⟩
end Go.Proofs.Ytfjdknghphmceaa
