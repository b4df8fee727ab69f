/- What the exact laws of UnionOf, CommonOf, WithoutOf keep in memory. No statement is proved here. -/
import Derived.Test.YtcffeakajfbhhaaExR
import Derived.Test.YtcffeakajfbhhaaComP
namespace Go.Proofs.Ytcffeakajfbhhaa
open Go.RowKit
/-- The two arguments' variables. -/
structure ArgJ (w : World) (va vb : Value) (W : World) : Prop where
  a : LxAt W w.heap.size va
  b : LxAt W (w.heap.size + 1) vb
  bw : Below w.heap.size w W
theorem ArgJ.call {w W W' : World} {va vb : Value} (h : ArgJ w va vb W) (hb : Below W.heap.size W W') : ArgJ w va vb W' := ⟨h.a.call hb, h.b.call hb, below_call h.bw hb⟩
theorem ArgJ.size {w W : World} {va vb : Value} (h : ArgJ w va vb W) : w.heap.size + 2 ≤ W.heap.size := by have := h.b.lt; omega
theorem ArgJ.cells {w W : World} {va vb : Value} (h : ArgJ w va vb W) : W.cell? ⟨w.heap.size, 0, none⟩ = some va ∧ W.cell? ⟨w.heap.size + 1, 0, none⟩ = some vb := ⟨h.a.cell, h.b.cell⟩
theorem ArgJ.born (w : World) (va vb : Value) : ArgJ w va vb ((w.alloc (.cells #[va] 48)).alloc (.cells #[vb] 48)) := by
  refine ⟨(LxAt.new w va).call (below_lx _ _), ?_, below_call (below_lx w va) (below_lx _ vb)⟩
  have := LxAt.new (w.alloc (.cells #[va] 48)) vb
  rw [show (w.alloc (.cells #[va] 48)).heap.size = w.heap.size + 1 by simp] at this
  exact this
theorem ArgJ.grown {w W W' : World} {va vb vx : Value} (h : ArgJ w va vb W) (hg : W.grownBy W' vx.ownBlock) (hx : ∀ k, vx.ownBlock = some k → w.heap.size + 2 ≤ k) : ArgJ w va vb W' := by
  refine ⟨(hg.block _ h.a.lt (fun e => by have := hx _ e.symm; omega)).trans h.a, (hg.block _ h.b.lt (fun e => by have := hx _ e.symm; omega)).trans h.b, h.bw.grown hg h.bw.size (fun k hk => by have := hx k hk; omega)⟩
/-- The model's answer in a variable. -/
structure AnsR (w : World) (R : List Rc) (vr : Value) (br : Nat) (W : World) : Prop where
  r : W.ownsRow w.heap.size 31 4 vr R.length (rcsCells R)
  x : BxAt W br vr
theorem AnsR.call {w W W' : World} {R : List Rc} {vr : Value} {br : Nat} (h : AnsR w R vr br W) (hb : Below W.heap.size W W') : AnsR w R vr br W' := ⟨own_call h.r hb, h.x.call hb⟩
theorem TwoR.mk2 {w W2 Wm W5 : World} {G R : List Rc} {vg vr : Value} {br : Nat} (hK : Below w.heap.size w W2) (hr : AnsR w R vr br W2) (hm : Below W2.heap.size W2 Wm) (h5 : Below Wm.heap.size Wm W5)
    (hg : W5.ownsRow Wm.heap.size 31 4 vg G.length (rcsCells G)) : TwoR w G R vg vr W5.heap.size br (W5.alloc (.cells #[vg] 26)) := by
  have k1 := below_call (below_call hm h5) (below_box W5 vg)
  have s1 := hK.size
  have s2 := hm.size
  have s5 := h5.size
  have hr' := hr.call k1
  refine ⟨below_call hK k1, (hg.mono (by omega)).alloc _, hr'.r, BxAt.new _ _, hr'.x, fun k hk => ?_⟩
  have h1 := hg.lt k hk
  have h2 := hr.x.lt
  refine ⟨by omega, by omega, fun e => ?_⟩
  have := hr.r.lt k e
  omega
theorem apart2 {w W2 Wm W5 : World} {R : List Rc} {vx vg vr : Value} {br : Nat} (hK : Below w.heap.size w W2) (hr : AnsR w R vr br W2) (hm : Wm.heap.size ≤ W5.heap.size) (hg : ∀ k, vg.ownBlock = some k → Wm.heap.size ≤ k)
    (hx : ∀ k, vx.ownBlock = some k → W2.heap.size ≤ k ∧ k < Wm.heap.size) :
    ∀ k, vx.ownBlock = some k → w.heap.size ≤ k ∧ k ≠ W5.heap.size ∧ k ≠ br ∧ vg.ownBlock ≠ some k ∧ vr.ownBlock ≠ some k := fun k hk => by
  have h1 := hx k hk
  have h2 := hr.x.lt
  have h3 := hK.size
  refine ⟨by omega, by omega, by omega, fun e => ?_, fun e => ?_⟩
  · have := hg k e; omega
  · have := hr.r.lt k e; omega
theorem BxR.new (w : World) : BxR (w.alloc (.cells #[.slice none 0 0] 26)) w.heap.size := heap_alloc_new w _
theorem zeroRg (w : World) : (zeroValue 26).run Try.prog w = .ok (.agg #[.slice none 0 0]) w := by kernel_rfl
theorem wp_alloc_rg {op : Oper} {a : Act} {w : World} {K : Act → World → Prop} {Q : Exit → Act → World → Prop} (d : Nat) (ho : op.op = .alloc 26) (hd : op.dst = some d)
    (h : ∀ b W', Below w.heap.size w W' → BxR W' b → w.heap.size ≤ b → K (a.put (some d) (.pointer (some ⟨b, 0, none⟩))) W') : op.wp Try.prog a w K Q := by
  have h1 := h w.heap.size (w.alloc (.cells #[.slice none 0 0] 26)) ((Below.refl _ _).alloc (Nat.le_refl _) _) (BxR.new w) (Nat.le_refl _)
  have hz := zeroRg w
  unfold Oper.wp execOp
  simp only [ho, Instr.alloc, Sem.run_bind, hz, Result.andThen_ok, Sem.run_pure]
  rw [← hd] at h1
  exact h1
theorem own_setsep {w : World} {B n g : Nat} {e : TypeId} {v : Value} {xs : List Value} (h : w.ownsRow B e 4 v n xs) (hs : ∀ k, v.ownBlock = some k → k ≠ g) (u : Value) : (w.setCell ⟨g, 0, none⟩ u).ownsRow B e 4 v n xs :=
  h.kept (row := some g) (grown_setc w _ 0 u) (by
    by_cases hv : v.ownBlock = none
    · exact .inl hv
    · refine .inr fun e => ?_
      exact hs g e rfl)
end Go.Proofs.Ytcffeakajfbhhaa
