/- The contract of spec.DrawRegions. No statement is proved here. -/
import Derived.Test.YtcffeakajfbhhaaRegD
namespace Go.Proofs.Ytcffeakajfbhhaa
open Go.RowKit
theorem cell_far1 {w : World} {g o b : Nat} {v : Value} (h : w.cell? ⟨g, o, none⟩ = some v) (hb : g ≠ b) (u : Value) : (w.setCell ⟨b, 0, none⟩ u).cell? ⟨g, o, none⟩ = some v :=
  (World.cell?_of_block (a := ⟨g, o, none⟩) (Below.heap_setCell _ ⟨b, 0, none⟩ u g hb)).trans h
theorem BxR.call' {w : World} {b : Nat} (h : BxR w b) (o : Obj) : BxR (w.alloc o) b := (Below.heap_alloc w o b h.lt).trans h
theorem grown_undrew {w w' : World} {row : Option Nat} (h : w.drew.grownBy w' row) : w.grownBy w' row := ⟨h.os, h.tape, h.output, h.size, h.block⟩
/-- What DrawRegions answers: two valid regions. -/
def DrawnTwo (w : World) (e : Ending) (w' : World) : Prop :=
  ∃ va vb A B, e = .returned (.tuple #[.agg #[va], .agg #[vb]]) ∧ okL A = true ∧ okL B = true ∧ w'.ownsRow w.heap.size 31 4 va A.length (rcsCells A) ∧ w'.ownsRow w.heap.size 31 4 vb B.length (rcsCells B) ∧ Below w.heap.size w w'
/-- The memory of DrawRegions. -/
structure DrSt (w : World) (g b : Nat) (va : Value) (A : List Rc) (W : World) : Prop where
  r0 : BxR W w.heap.size
  r1 : BxR W (w.heap.size + 1)
  x : W.cell? ⟨b, 0, none⟩ = some va
  hb : b ≠ g
  lo : w.heap.size + 2 ≤ g
  hlb : w.heap.size + 2 ≤ b
  o : W.ownsRow (w.heap.size + 2) 31 4 va A.length (rcsCells A)
  og : va.ownBlock ≠ some g
  c : Cur W g
  bw : Below w.heap.size w W
theorem DrSt.grown {w W W' : World} {g b : Nat} {va : Value} {A : List Rc} (h : DrSt w g b va A W) (hg : W.grownBy W' (some g)) (hc : Cur W' g) : DrSt w g b va A W' := by
  have hlo := h.lo
  refine ⟨(hg.block _ h.r0.lt (by simp; omega)).trans h.r0, (hg.block _ h.r1.lt (by simp; omega)).trans h.r1, ?_, h.hb, h.lo, h.hlb, h.o.kept hg (.inr h.og), h.og, hc, h.bw.grown hg h.bw.size (fun k hk => by injection hk with hk; omega)⟩
  exact hg.cell h.x (by have := h.hb; simpa using this)
theorem DrSt.drew {w W : World} {g b : Nat} {va : Value} {A : List Rc} (h : DrSt w g b va A W) : DrSt w g b va A W.drew :=
  ⟨h.r0, h.r1, h.x, h.hb, h.lo, h.hlb, h.o, h.og, h.c.drew, h.bw.drew⟩
set_option maxHeartbeats 2000000 in
set_option maxRecDepth 10000 in
theorem drawTwo (w : World) (a : Option Addr) (len cap : Nat) (zs : List Int) (hrow : IsRow .u8 w a len cap zs) :
    Calls Try.prog 14 #[.slice a len cap] w (DrawnTwo w) := by
  obtain ⟨W2, hW2⟩ : ∃ W2, W2 = (w.alloc (.cells #[.slice none 0 0] 26)).alloc (.cells #[.slice none 0 0] 26) := ⟨_, rfl⟩
  have hb0 : Below w.heap.size w W2 := by rw [hW2]; exact ((Below.refl _ _).alloc (Nat.le_refl _) _).alloc (by simp) _
  have hr2 : IsRow .u8 W2 a len cap zs := hrow.of_same (fun x hx hp => hb0.block _ (hrow.lt x hx hp))
  have x0 : BxR W2 w.heap.size := by rw [hW2]; exact (Below.heap_alloc _ _ _ (by simp)).trans (heap_alloc_new w _)
  have x1 : BxR W2 (w.heap.size + 1) := by
    rw [hW2]
    have := heap_alloc_new (w.alloc (.cells #[.slice none 0 0] 26)) (.cells #[.slice none 0 0] 26)
    rw [show (w.alloc (.cells #[.slice none 0 0] 26)).heap.size = w.heap.size + 1 by simp] at this
    exact this
  have HW := Lib.hid hW2
  clear hrow hW2
  go_enter Try.func14, Try.ntmps14
  go_wp2_with fail
  rw [← HW.out]
  refine (new_any _ _ _ _ zs hr2).mono ?_
  rintro e w1 ⟨g, rfl, hg0, hc, hb1⟩
  have x0' := x0.call hb1
  have x1' := x1.call hb1
  have hbw := below_call hb0 hb1
  have hlo : w.heap.size + 2 ≤ g := by have := x1.lt; omega
  clear x0 x1 hb1 hb0 hr2
  go_wp2_with fail
  refine (region03 _ g hc).mono ?_
  rintro e w2 ⟨va, A, rfl, hA, hO, hc2, hg2⟩
  have hgl := hc.lt
  obtain ⟨A2, c2, hv⟩ := own_shape hO
  subst hv
  have hs1 := hbw.size
  have hx1l := x1'.lt
  have hS : DrSt w g w2.heap.size (.slice A2 A.length c2) A (w2.alloc (.cells #[.slice A2 A.length c2] 26)) := by
    have hs2 := hg2.size
    refine ⟨BxR.call' ((hg2.block _ x0'.lt (by simp; omega)).trans x0') _, BxR.call' ((hg2.block _ x1'.lt (by simp; omega)).trans x1') _, new_cell w2 _ _, by omega, hlo, by omega, (hO.mono (by omega)).alloc _, fun e => ?_, hc2.alloc _, (hbw.grown hg2 hbw.size (fun k hk => by injection hk with hk; omega)).alloc (by omega) _⟩
    have := (hO.lt g e).1
    omega
  have Hl := hS.x
  have HA := Lib.hid hA
  clear hA x0' x1' hbw hc hc2 hg2 hO
  go_wp2_with fail
  go_region_held3 (fun W => W.cell? ⟨w2.heap.size, 0, none⟩ = some (.slice A2 A.length c2))
    (with_reducible first | exact hS.x | exact hS.drew.x | exact cell_far1 hS.x (by have := hS.hlb; omega) _ | exact cell_far1 (cell_far1 hS.x (by have := hS.hlb; omega) _) (by have := hS.hlb; omega) _ | fail)
    ((go_at_call 45; (with_reducible first | refine (region03 _ g hS.c).mono ?_ | refine (region03 _ g hS.drew.c).mono ?_); rintro e wk ⟨vb, B, rfl, hB, hOb, hcb, hgb⟩; (with_reducible first | have hgb := grown_undrew hgb | skip); replace hS := hS.grown hgb hcb; obtain ⟨B2, d2, hv⟩ := own_shape hOb; subst hv; have rc0 := hS.r0.cell; have rf0 := hS.r0.frozen; have rc1 := hS.r1.cell; have rf1 := hS.r1.frozen))
  have HB := Lib.hid hB
  clear hB
  go_wp2_with fail
  exact bodyPost_ret (v := .tuple #[.agg #[.slice A2 A.length c2], .agg #[.slice B2 B.length d2]]) (by simp [results, Try.results14, go_sem, rc0, rc1]) rfl
    ⟨_, _, A, B, rfl, HA.out, HB.out, own_set (own_set hS.o (Nat.le_refl _) (by omega) _) (by omega) (by omega) _,
      own_set (own_set (hOb.mono (show w.heap.size + 2 ≤ _ by have := hS.hlb; simp; omega)) (Nat.le_refl _) (by omega) _) (by omega) (by omega) _, (hS.bw.setCell (Nat.le_refl _) _).setCell (by simp) _⟩
end Go.Proofs.Ytcffeakajfbhhaa
