/- The contracts of spec.l01PickInt, l02Any, l03Rects, l03Region, DrawRegions. No statement is proved here. -/
import Derived.Test.YtcffeakajfbhhaaRectD
import Derived.Test.YtcffeakajfbhhaaRgnC
import Derived.Test.YtcffeakajfbhhaaInR
import Derived.Test.YtcffeakajfbhhaaComP
import Derived.Deep.RegionHeld3
import Derived.Deep.LoopGhost
namespace Go.Proofs.Ytcffeakajfbhhaa
open Go.RowKit
/-- What l01PickInt answers. -/
def PickInt (w : World) (g : Nat) (e : Ending) (w' : World) : Prop := ∃ x : Int, e = .returned (.int .i64 x) ∧ Cur w' g ∧ w.grownBy w' (some g)
set_option maxHeartbeats 1000000 in
set_option maxRecDepth 10000 in
theorem pick_any (w : World) (g b n : Nat) (zs : List Int) (hz : zs.length = n) (h0 : 0 < n) (h1 : n ≤ 100) (hc : Cur w g) (hne : b ≠ g) (hb : w.heap[b]? = some (.cells (zs.map (Value.int .i64)).toArray 3 (0, 0))) :
    Calls Try.prog 80 #[.pointer (some ⟨g, 0, none⟩), .slice (some ⟨b, 0, none⟩) n n] w (PickInt w g) := by
  have hbl : b < w.heap.size := (Array.getElem?_eq_some_iff.1 hb).1
  have Hb := Lib.hid hb
  have Hz := Lib.hid hz
  clear hb hz
  go_enter Try.func80, Try.ntmps80
  go_wp2_with fail
  refine (below_any _ g n (by omega) hc).mono ?_
  rintro e w1 ⟨x, rfl, hx0, hx1, hx2, hc1, hg1⟩
  obtain ⟨k, rfl⟩ : ∃ k : Nat, x = (k : Int) := ⟨x.toNat, by omega⟩
  have hk : k < n := by have := hx1 (by omega); omega
  have hki : (k : Int) < (n : Int) := by omega
  have hk0 : (0 : Int) ≤ (k : Int) := by omega
  have hcell : w1.cell? ⟨b, k, none⟩ = some (.int .i64 (zs[k]'(by rw [Hz.out]; exact hk))) := by
    rw [cell_of_row _ _ _ _ _ _ ((hg1.block b hbl (by simpa using hne)).trans Hb.out)]
    have hkz : k < zs.length := by rw [Hz.out]; exact hk
    simp [hkz]
  obtain ⟨z, hzz⟩ : ∃ z, z = zs[k]'(by rw [Hz.out]; exact hk) := ⟨_, rfl⟩
  rw [← hzz] at hcell
  clear hzz hx1 hx2 hx0
  go_wp2_with fail
  go_ret
  exact ⟨z, rfl, hc1, hg1⟩
/-- What l02Any answers. -/
def AnyRc (w : World) (g : Nat) (e : Ending) (w' : World) : Prop :=
  ∃ r : Rc, e = .returned (.agg #[.int .i64 r.x, .int .i64 r.y, .int .i64 r.w, .int .i64 r.h]) ∧ Cur w' g ∧ w.grownBy w' (some g)
/-- The memory of l02Any: the result's variable, the rectangle. -/
structure AnySt (w : World) (g b : Nat) (r : Rc) (W : World) : Prop where
  rs : RcAt W w.heap.size ⟨0, 0, 0, 0⟩
  r : RcAt W b r
  hb : w.heap.size < b
  c : Cur W g
  gw : w.grownBy W (some g)
theorem AnySt.grown {w W W' : World} {g b : Nat} {r : Rc} (h : AnySt w g b r W) (hg : W.grownBy W' (some g)) (hc : Cur W' g) (hl : g < w.heap.size) : AnySt w g b r W' :=
  ⟨h.rs.grown hg (by simp; omega), h.r.grown hg (by have := h.hb; simp; omega), h.hb, hc, h.gw.trans hg⟩
theorem AnySt.alloc {w W : World} {g b : Nat} {r : Rc} (h : AnySt w g b r W) (o : Obj) : AnySt w g b r (W.alloc o) :=
  ⟨h.rs.alloc o, h.r.alloc o, h.hb, h.c.alloc o, h.gw.trans (World.grownBy_alloc W o _)⟩
theorem AnySt.set0 {w W : World} {g b : Nat} {r : Rc} (h : AnySt w g b r W) (hl : g < w.heap.size) (z : Int) : AnySt w g b ⟨z, r.y, r.w, r.h⟩ (W.setCell ⟨b, 0, none⟩ (.int .i64 z)) := by
  refine ⟨h.rs.far (by have := h.hb; simp; omega) _, ?_, h.hb, h.c.far (by have := h.hb; simp; omega) _, grown_far h.gw (by have := h.hb; simp; omega) _⟩
  have := h.r
  unfold RcAt at this ⊢
  rw [heap_setCell_same W b 0 _ _ _ this]; rfl
theorem AnySt.set2 {w W : World} {g b : Nat} {r : Rc} (h : AnySt w g b r W) (hl : g < w.heap.size) (z : Int) : AnySt w g b ⟨r.x, r.y, z, r.h⟩ (W.setCell ⟨b, 2, none⟩ (.int .i64 z)) := by
  refine ⟨h.rs.far (by have := h.hb; simp; omega) _, ?_, h.hb, h.c.far (by have := h.hb; simp; omega) _, grown_far h.gw (by have := h.hb; simp; omega) _⟩
  have := h.r
  unfold RcAt at this ⊢
  rw [heap_setCell_same W b 2 _ _ _ this]; rfl
theorem any_end {w W : World} {g b : Nat} {r : Rc} (h : AnySt w g b r W) (hl : g < w.heap.size) (v0 v1 v2 v3 : Value) :
    Cur ((((W.setCell ⟨w.heap.size, 0, none⟩ v0).setCell ⟨w.heap.size, 1, none⟩ v1).setCell ⟨w.heap.size, 2, none⟩ v2).setCell ⟨w.heap.size, 3, none⟩ v3) g ∧
    w.grownBy ((((W.setCell ⟨w.heap.size, 0, none⟩ v0).setCell ⟨w.heap.size, 1, none⟩ v1).setCell ⟨w.heap.size, 2, none⟩ v2).setCell ⟨w.heap.size, 3, none⟩ v3) (some g) :=
  ⟨((((h.c.far (p := ⟨w.heap.size, 0, none⟩) hl _).far (p := ⟨w.heap.size, 1, none⟩) hl _).far (p := ⟨w.heap.size, 2, none⟩) hl _).far (p := ⟨w.heap.size, 3, none⟩) hl _),
    grown_far (grown_far (grown_far (grown_far h.gw (p := ⟨w.heap.size, 0, none⟩) (Nat.le_refl _) _) (p := ⟨w.heap.size, 1, none⟩) (Nat.le_refl _) _) (p := ⟨w.heap.size, 2, none⟩) (Nat.le_refl _) _) (p := ⟨w.heap.size, 3, none⟩) (Nat.le_refl _) _⟩
set_option maxHeartbeats 2000000 in
set_option maxRecDepth 10000 in
theorem any02 (w : World) (g : Nat) (hc : Cur w g) : Calls Try.prog 77 #[.pointer (some ⟨g, 0, none⟩)] w (AnyRc w g) := by
  have hl := hc.lt
  have hR : RcAt (w.alloc (.cells #[.int .i64 0, .int .i64 0, .int .i64 0, .int .i64 0] 31)) w.heap.size ⟨0, 0, 0, 0⟩ := RcAt.new w ⟨0, 0, 0, 0⟩
  have hg := grown_alloc w (.cells #[.int .i64 0, .int .i64 0, .int .i64 0, .int .i64 0] 31) (some g)
  have hc := hc.alloc (.cells #[.int .i64 0, .int .i64 0, .int .i64 0, .int .i64 0] 31)
  go_enter Try.func77, Try.ntmps77
  go_wp2_with fail
  refine (l02Rect_any _ g hc).mono ?_
  rintro e w1 ⟨r, rfl, _, hc1, hg1⟩
  have hS : AnySt w g w1.heap.size r (w1.alloc (.cells #[.int .i64 r.x, .int .i64 r.y, .int .i64 r.w, .int .i64 r.h] 31)) :=
    ⟨(hR.grown hg1 (by simp; omega)).alloc _, RcAt.new w1 r, by have := hg1.size; simp at this; omega, hc1.alloc _, (hg.trans hg1).trans (World.grownBy_alloc _ _ _)⟩
  clear hR hg hc hc1 hg1
  go_wp2_with fail
  refine (below_any _ g 12 (by omega) hS.c).mono ?_
  rintro e w2 ⟨x, rfl, hx0, hx1, hx2, hc2, hg2⟩
  replace hS := hS.grown hg2 hc2 hl
  clear hx1 hx2 hc2 hg2
  by_cases e0 : x = 0
  · subst e0
    have hN := heap_alloc_new w2 (.cells #[.int .i64 (-1001), .int .i64 (-1000), .int .i64 1000, .int .i64 1001, .int .i64 9223372036854775807, .int .i64 (-9223372036854775808)] 3)
    go_wp2_with fail
    refine (pick_any _ g w2.heap.size 6 [-1001, -1000, 1000, 1001, 9223372036854775807, -9223372036854775808] rfl (by omega) (by omega) (hS.alloc _).c (by have := hS.rs.lt; omega) hN).mono ?_
    rintro e w3 ⟨z, rfl, hc3, hg3⟩
    replace hS := (hS.alloc _).grown hg3 hc3 hl
    have hlt := hS.hb
    have hlr := hS.r.lt
    obtain ⟨r0, r1, r2, r3⟩ := hS.r.cells
    obtain ⟨z0, z1, z2, z3⟩ := hS.rs.cells4
    have zf := hS.rs.frozen
    have rf := hS.r.frozen
    clear hN hc3 hg3
    go_wp2_with fail
    exact bodyPost_ret (v := .agg #[.int .i64 z, .int .i64 r.y, .int .i64 r.w, .int .i64 r.h]) (by simp [results, Try.results77, go_sem, z0, z1, z2, z3]) rfl ⟨⟨z, r.y, r.w, r.h⟩, rfl, any_end (hS.set0 hl z) hl _ _ _ _⟩
  · by_cases e1 : x = 1
    · subst e1
      have hN := heap_alloc_new w2 (.cells #[.int .i64 (-1), .int .i64 1000, .int .i64 1001] 3)
      go_wp2_with fail
      refine (pick_any _ g w2.heap.size 3 [-1, 1000, 1001] rfl (by omega) (by omega) (hS.alloc _).c (by have := hS.rs.lt; omega) hN).mono ?_
      rintro e w3 ⟨z, rfl, hc3, hg3⟩
      replace hS := (hS.alloc _).grown hg3 hc3 hl
      have hlt := hS.hb
      have hlr := hS.r.lt
      obtain ⟨r0, r1, r2, r3⟩ := hS.r.cells
      obtain ⟨z0, z1, z2, z3⟩ := hS.rs.cells4
      have zf := hS.rs.frozen
      have rf := hS.r.frozen
      clear hN hc3 hg3
      go_wp2_with fail
      exact bodyPost_ret (v := .agg #[.int .i64 r.x, .int .i64 r.y, .int .i64 z, .int .i64 r.h]) (by simp [results, Try.results77, go_sem, z0, z1, z2, z3]) rfl ⟨⟨r.x, r.y, z, r.h⟩, rfl, any_end (hS.set2 hl z) hl _ _ _ _⟩
    · have e0b : (x == 0) = false := by rw [beq_eq_false_iff_ne]; exact e0
      have e1b : (x == 1) = false := by rw [beq_eq_false_iff_ne]; exact e1
      have hlt := hS.hb
      have hlr := hS.r.lt
      obtain ⟨r0, r1, r2, r3⟩ := hS.r.cells
      obtain ⟨z0, z1, z2, z3⟩ := hS.rs.cells4
      have zf := hS.rs.frozen
      have rf := hS.r.frozen
      go_wp2_with fail
      exact bodyPost_ret (v := .agg #[.int .i64 r.x, .int .i64 r.y, .int .i64 r.w, .int .i64 r.h]) (by simp [results, Try.results77, go_sem, z0, z1, z2, z3]) rfl ⟨r, rfl, any_end hS hl _ _ _ _⟩

/-- What l03Rects answers. -/
def DrawnRs (w : World) (g : Nat) (e : Ending) (w' : World) : Prop :=
  ∃ v L, e = .returned v ∧ w'.ownsRow w.heap.size 31 4 v L.length (rcsCells L) ∧ Cur w' g ∧ w.grownBy w' (some g)
theorem own_empty (w : World) : (w.alloc (.cells #[] 31)).ownsRow w.heap.size 31 4 (.slice (some ⟨w.heap.size, 0, none⟩) 0 0) 0 (rcsCells []) :=
  ⟨rfl, .inr ⟨w.heap.size, 0, #[], rfl, Nat.le_refl _, heap_alloc_new w _, Nat.le_refl _, by unfold maxLen; omega, rfl, rfl⟩⟩
theorem own_cur {w w' : World} {B g n : Nat} {e : TypeId} {v : Value} {xs : List Value} (h : w.ownsRow B e 4 v n xs) (hg : w.grownBy w' (some g)) (hl : g < B) : w'.ownsRow B e 4 v n xs :=
  h.kept hg (by
    by_cases hv : v.ownBlock = none
    · exact .inl hv
    · refine .inr fun e => ?_
      have := (h.lt _ e).1
      omega)
set_option maxHeartbeats 2000000 in
set_option maxRecDepth 10000 in
theorem rects03 (w : World) (g : Nat) (hc : Cur w g) : Calls Try.prog 66 #[.pointer (some ⟨g, 0, none⟩)] w (DrawnRs w g) := by
  have hl := hc.lt
  obtain ⟨i0, hi, hz0, hz1, hz2⟩ := info_parts infoRect
  have hO := own_empty w
  have hg := World.grownBy_alloc w (.cells #[] 31) (some g)
  have hc := hc.alloc (.cells #[] 31)
  go_enter Try.func66, Try.ntmps66
  go_wp2_with fail
  refine (below_any _ g 5 (by omega) hc).mono ?_
  rintro e w1 ⟨x, rfl, hx0, hx1, hx2, hc1, hg1⟩
  replace hO := own_cur hO hg1 hl
  replace hg := hg.trans hg1
  obtain ⟨m, rfl⟩ : ∃ m : Nat, x = (m : Int) := ⟨x.toNat, by omega⟩
  have hm : m ≤ 4 := by have := hx1 (by omega); omega
  clear hx0 hx1 hx2 hg1 hc
  go_wp2_with fail
  go_loopg [3, 4] m (fun gk s i wr => ∃ (k : Nat) (L : List Rc), k ≤ 4 ∧ Hid (gk = k) ∧ L.length + k ≤ 4 ∧ i = .int .i64 k ∧ wr.ownsRow w.heap.size 31 4 s L.length (rcsCells L) ∧ Cur wr g ∧ w.grownBy wr (some g))
  case atStart => exact ⟨m, [], hm, Lib.hid rfl, by simpa using hm, rfl, hO, hc1, hg⟩
  case round =>
    clear hO hc1 hg
    obtain ⟨k, L, hk, Hk, hLk, rfl, hO, hc, hg⟩ := hrel
    have hk0' := hg.size
    by_cases hk0 : 0 < k
    · have hki : (0 : Int) < (k : Int) := by omega
      go_wp2_with fail
      refine (any02 _ g hc).mono ?_
      rintro e w2 ⟨r, rfl, hc2, hg2⟩
      replace hO := own_cur hO hg2 hl
      replace hg := hg.trans hg2
      have hsz := hg.size
      clear hc hg2 hk0'
      go_wp2_with (at_builtin; refine wpList_append_own _ rfl _ _ 24 rfl w.heap.size 31 i0 (.agg #[.int .i64 0, .int .i64 0, .int .i64 0, .int .i64 0]) 4 32 Try.underlying24 hi hz0 hz1 hz2 rfl (by decide) _ _ _ rfl (hO.alloc _) ⟨_, 0, none⟩ 1 1 _ rfl rfl (World.news_of_block (cs := #[.int .i64 r.x, .int .i64 r.y, .int .i64 r.w, .int .i64 r.h]) (fr := (0, 0)) (heap_alloc_new _ _)) (by intro u' hu'; simp at hu'; rcases hu' with rfl | rfl | rfl | rfl <;> rfl) (by unfold maxLen; omega) (by omega) (by simp; omega) ?_)
      intro v2 w3 hown3 hgrow _
      have hc3 := (hc2.alloc _).grown hgrow (fun k hk => by have := (hO.lt k hk).1; omega)
      have hg3 : w.grownBy w3 (some g) := by
        have h1 := hg.trans (World.grownBy_alloc w2 (.cells #[.int .i64 r.x, .int .i64 r.y, .int .i64 r.w, .int .i64 r.h] 31) (some g))
        exact ⟨hgrow.os.trans h1.os, hgrow.tape.trans h1.tape, hgrow.output.trans h1.output, Nat.le_trans h1.size hgrow.size, fun k hk hne => (hgrow.block k (by have := h1.size; omega) (fun e => by have := (hO.lt k e.symm).1; omega)).trans (h1.block k hk hne)⟩
      have hO3 : w3.ownsRow w.heap.size 31 4 v2 (L ++ [r]).length (rcsCells (L ++ [r])) := by
        rw [rcsCells_append, rcsCells_one, List.length_append]; exact hown3
      have hlen : (L ++ [r]).length + (k - 1) ≤ 4 := by rw [List.length_append, List.length_singleton]; omega
      clear hown3 hgrow hO hc2 hg
      go_wp2_with fail
      go_roundg (k - 1)
      case measure => have := Hk.out; omega
      case rel => exact ⟨k - 1, L ++ [r], by omega, Lib.hid rfl, hlen, by congr 1; omega, hO3, hc3, hg3⟩
    · have hki : ¬ (0 : Int) < (k : Int) := by omega
      go_wp2_with fail
      go_ret
      exact ⟨_, L, rfl, hO, hc, hg⟩
/-- What l03Region answers: a valid region. -/
def DrawnRg (w : World) (g : Nat) (e : Ending) (w' : World) : Prop :=
  ∃ v G, e = .returned (.agg #[v]) ∧ okL G = true ∧ w'.ownsRow w.heap.size 31 4 v G.length (rcsCells G) ∧ Cur w' g ∧ w.grownBy w' (some g)
theorem ok_canon (g : Nat → Bool) : okL (canon g) = true := (okL_iff _).2 (canon_idem g)
theorem grown_call {w w1 w2 : World} {row : Option Nat} (h : w.grownBy w1 row) (hb : Below w1.heap.size w1 w2) : w.grownBy w2 row := grown_below h hb
set_option maxHeartbeats 2000000 in
set_option maxRecDepth 10000 in
theorem region03 (w : World) (g : Nat) (hc : Cur w g) : Calls Try.prog 45 #[.pointer (some ⟨g, 0, none⟩)] w (DrawnRg w g) := by
  have hl := hc.lt
  have hg := World.grownBy_alloc w (.cells #[.slice none 0 0] 26) (some g)
  have hX : BxR (w.alloc (.cells #[.slice none 0 0] 26)) w.heap.size := heap_alloc_new w _
  have hc := hc.alloc (.cells #[.slice none 0 0] 26)
  go_enter Try.func45, Try.ntmps45
  go_wp2_with fail
  refine (rects03 _ g hc).mono ?_
  rintro e w1 ⟨v1, L, rfl, hO, hc1, hg1⟩
  replace hX : BxR w1 w.heap.size := (hg1.block _ (by simp) (by simp; omega)).trans hX
  replace hg := hg.trans hg1
  have hl1 := hX.lt
  clear hc hg1
  go_wp2_with fail
  refine (rofS v1 L _ (RdR.of_own hO)).mono ?_
  rintro e w2 ⟨v2, rfl, hO2, hb⟩
  obtain ⟨A2, c2, hv⟩ := own_shape hO2
  subst hv
  have hs := hg.size
  replace hX := hX.call hb
  replace hg := grown_call hg hb
  replace hc1 := hc1.below hb (by omega)
  have rc := hX.cell
  have rf := hX.frozen
  have hlX := hX.lt
  clear hO hb
  go_wp2_with fail
  exact bodyPost_ret (v := .agg #[.slice A2 (canon (gridOf L)).length c2]) (by simp [results, Try.results45, go_sem, rc]) rfl
    ⟨_, canon (gridOf L), rfl, ok_canon _, own_set hO2 (by omega) hl1 _, hc1.far hl _, grown_far hg (Nat.le_refl _) _⟩
end Go.Proofs.Ytcffeakajfbhhaa
