/- The contracts of spec.l02Rect, spec.DrawRects. No statement is proved here. -/
import Derived.Test.YtcffeakajfbhhaaCurC
import Derived.Test.YtcffeakajfbhhaaRectEq
import Derived.Deep.RegionHeld3
import Derived.Deep.RegionWith
namespace Go.Proofs.Ytcffeakajfbhhaa
open Go.RowKit
/-- A rectangle as l02Rect draws it. -/
def SmallRc (r : Rc) : Prop := -4 ≤ r.x ∧ r.x ≤ 15 ∧ -4 ≤ r.y ∧ r.y ≤ 11 ∧ 0 ≤ r.w ∧ r.w ≤ 11 ∧ 0 ≤ r.h ∧ r.h ≤ 9
/-- What l02Rect answers. -/
def DrawnRc (w : World) (g : Nat) (e : Ending) (w' : World) : Prop :=
  ∃ r : Rc, e = .returned (.agg #[.int .i64 r.x, .int .i64 r.y, .int .i64 r.w, .int .i64 r.h]) ∧ SmallRc r ∧ Cur w' g ∧ w.grownBy w' (some g)
theorem RcAt.grown {w w' : World} {g : Nat} {row : Option Nat} {r : Rc} (h : RcAt w g r) (hb : w.grownBy w' row) (hg : some g ≠ row) : RcAt w' g r := (hb.block g h.lt hg).trans h
theorem Cur.far {w : World} {g : Nat} (h : Cur w g) {p : Addr} (hp : g < p.block) (v : Value) : Cur (w.setCell p v) g :=
  h.kept fun k hk => Below.heap_setCell w p v k (by omega)
theorem grown_far {w0 w : World} {row : Option Nat} (h : w0.grownBy w row) {p : Addr} (hp : w0.heap.size ≤ p.block) (v : Value) : w0.grownBy (w.setCell p v) row :=
  ⟨h.os, h.tape, h.output, by simpa [World.setCell] using h.size, fun k hk hne => (Below.heap_setCell w p v k (by omega)).trans (h.block k hk hne)⟩
theorem grown_alloc (w : World) (o : Obj) (row : Option Nat) : w.grownBy (w.alloc o) row :=
  ⟨rfl, rfl, rfl, by simp, fun k hk _ => Below.heap_alloc w o k hk⟩
set_option maxHeartbeats 400000 in
theorem l02Rect_any (w : World) (g : Nat) (hc : Cur w g) : Calls Try.prog 79 #[.pointer (some ⟨g, 0, none⟩)] w (DrawnRc w g) := by
  have hl := hc.lt
  have hR : RcAt (w.alloc (.cells #[.int .i64 0, .int .i64 0, .int .i64 0, .int .i64 0] 31)) w.heap.size ⟨0, 0, 0, 0⟩ := RcAt.new w ⟨0, 0, 0, 0⟩
  have hg := grown_alloc w (.cells #[.int .i64 0, .int .i64 0, .int .i64 0, .int .i64 0] 31) (some g)
  have hc := hc.alloc (.cells #[.int .i64 0, .int .i64 0, .int .i64 0, .int .i64 0] 31)
  have hne : some w.heap.size ≠ some g := by simp; omega
  have HN := Lib.hid hne
  clear hne
  go_enter Try.func79, Try.ntmps79
  go_wp2_with fail
  refine (below_any _ g _ (by omega) hc).mono ?_
  rintro e w1 ⟨x, rfl, h0, h1, h2, hc', hg'⟩
  have p_x : 0 ≤ x := h0
  have q_x := h1 (by omega)
  have hR := hR.grown hg' HN.out
  have hg := hg.trans hg'
  have hc := hc'
  clear h0 h1 h2 hc' hg'
  go_wp2_with fail
  refine (below_any _ g _ (by omega) hc).mono ?_
  rintro e w1 ⟨y, rfl, h0, h1, h2, hc', hg'⟩
  have p_y : 0 ≤ y := h0
  have q_y := h1 (by omega)
  have hR := hR.grown hg' HN.out
  have hg := hg.trans hg'
  have hc := hc'
  clear h0 h1 h2 hc' hg'
  go_wp2_with fail
  refine (below_any _ g _ (by omega) hc).mono ?_
  rintro e w1 ⟨u, rfl, h0, h1, h2, hc', hg'⟩
  have p_u : 0 ≤ u := h0
  have q_u := h1 (by omega)
  have hR := hR.grown hg' HN.out
  have hg := hg.trans hg'
  have hc := hc'
  clear h0 h1 h2 hc' hg'
  go_wp2_with fail
  refine (below_any _ g _ (by omega) hc).mono ?_
  rintro e w1 ⟨v, rfl, h0, h1, h2, hc', hg'⟩
  have p_v : 0 ≤ v := h0
  have q_v := h1 (by omega)
  have hR := hR.grown hg' HN.out
  have hg := hg.trans hg'
  have hc := hc'
  clear h0 h1 h2 hc' hg'
  obtain ⟨z0, z1, z2, z3⟩ := hR.cells
  have zf := hR.frozen
  clear hR
  go_wp2_with fail
  exact bodyPost_ret (v := .agg #[.int .i64 (x - 4), .int .i64 (y - 4), .int .i64 u, .int .i64 v]) (by simp [results, Try.results79, go_sem, z0, z1, z2, z3]) rfl
    ⟨⟨x - 4, y - 4, u, v⟩, rfl, by unfold SmallRc; dsimp only; omega, ((((hc.far (by simpa using hl) _).far (by simpa using hl) _).far (by simpa using hl) _).far (by simpa using hl) _), grown_far (grown_far (grown_far (grown_far hg (by simp) _) (by simp) _) (by simp) _) (by simp) _⟩
end Go.Proofs.Ytcffeakajfbhhaa
