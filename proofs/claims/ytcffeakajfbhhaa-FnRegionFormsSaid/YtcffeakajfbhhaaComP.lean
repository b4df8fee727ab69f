/- What impl.combined keeps in memory; the laws for the statement that makes two grids. No statement is proved here. -/
import Derived.Test.YtcffeakajfbhhaaInR
import Derived.Deep.DeepCutAuto
import Derived.Deep.RegionHeld3
import Derived.Deep.RegionWith
namespace Go.Proofs.Ytcffeakajfbhhaa
open Go.RowKit
theorem wp_alloc_grid {op : Oper} {a : Act} {w : World} {K : Act → World → Prop} {Q : Exit → Act → World → Prop} (d : Nat) (ho : op.op = .alloc 63) (hd : op.dst = some d)
    (h : ∀ b W', Below w.heap.size w W' → GrAt W' b 63 (fun _ => false) → w.heap.size ≤ b → K (a.put (some d) (.pointer (some ⟨b, 0, none⟩))) W') : op.wp Try.prog a w K Q := by
  have h1 := h w.heap.size (w.alloc (.cells (gCells fun _ => false) 63)) ((Below.refl _ _).alloc (Nat.le_refl _) _) (GrAt.new w _ _) (Nat.le_refl _)
  have hz := zeroGrid w
  unfold Oper.wp execOp
  simp only [ho, Instr.alloc, Sem.run_bind, hz, Result.andThen_ok, Sem.run_pure]
  rw [← hd] at h1
  exact h1
theorem GrAt.call {w w' : World} {b : Nat} {t : TypeId} {g : Nat → Bool} (h : GrAt w b t g) (hb : Below w.heap.size w w') : GrAt w' b t g := h.below hb h.lt
theorem cell_row {w : World} {g o b : Nat} {v : Value} (h : w.cell? ⟨g, o, none⟩ = some v) (hb : g ≠ b) (cs : Array Value) : (w.setRow b cs).cell? ⟨g, o, none⟩ = some v := by
  rw [cell_setRow_other w b cs _ hb]; exact h
/-- Block b is a region's variable that still holds nothing. -/
def BxR (w : World) (b : Nat) : Prop := w.heap[b]? = some (.cells #[.slice none 0 0] 26 (0, 0))
theorem BxR.lt {w : World} {b : Nat} (h : BxR w b) : b < w.heap.size := (Array.getElem?_eq_some_iff.1 h).1
theorem BxR.cell {w : World} {b : Nat} (h : BxR w b) : w.cell? ⟨b, 0, none⟩ = some (.slice none 0 0) := by rw [cell_of_row _ _ _ _ _ _ h]; rfl
theorem BxR.frozen {w : World} {b : Nat} (h : BxR w b) : w.frozen? ⟨b, 0, none⟩ = false := by unfold BxR at h; simp [World.frozen?, h]
theorem BxR.call {w w' : World} {b : Nat} (h : BxR w b) (hb : Below w.heap.size w w') : BxR w' b := (hb.block b h.lt).trans h
theorem BxR.rowFar {w : World} {b c : Nat} (h : BxR w b) (hc : b ≠ c) (cs : Array Value) : BxR (w.setRow c cs) b := (setRow_other w c b cs hc).trans h
/-- Points combined, place by place. -/
def joinG (f : Bool → Bool → Bool) (g h : Nat → Bool) (k : Nat) : Bool := f (g k) (h k)
/-- .. as far as place n. -/
def joinTo (f : Bool → Bool → Bool) (g h : Nat → Bool) (n k : Nat) : Bool := if k < n then f (g k) (h k) else g k
theorem joinTo_zero (f : Bool → Bool → Bool) (g h : Nat → Bool) (k : Nat) : joinTo f g h 0 k = g k := if_neg (by omega)
theorem joinTo_next (f : Bool → Bool → Bool) (g h : Nat → Bool) (n k : Nat) : gSet (joinTo f g h n) n (f (g n) (h n)) k = joinTo f g h (n + 1) k := by
  unfold gSet joinTo
  by_cases e : k = n
  · subst e; rw [if_pos rfl, if_pos (by omega)]
  · rw [if_neg e]
    by_cases h1 : k < n
    · rw [if_pos h1, if_pos (by omega)]
    · rw [if_neg h1, if_neg (by omega)]
theorem joinTo_at (f : Bool → Bool → Bool) (g h : Nat → Bool) (n : Nat) : joinTo f g h n n = g n := if_neg (by omega)
theorem joinTo_end (f : Bool → Bool → Bool) (g h : Nat → Bool) (k : Nat) (hk : k < 256) : joinTo f g h 256 k = joinG f g h k := if_pos hk
open Classical in
/-- The answer of a function that combines two regions. -/
noncomputable def joinL (f : Bool → Bool → Bool) (A B : List Rc) : List Rc := if okL A = true ∧ okL B = true then canon (joinG f (gridOf A) (gridOf B)) else []
theorem joinL_no {f : Bool → Bool → Bool} {A B : List Rc} (h : ¬ (okL A = true ∧ okL B = true)) : joinL f A B = [] := if_neg h
theorem joinL_yes {f : Bool → Bool → Bool} {A B : List Rc} (h : okL A = true ∧ okL B = true) : joinL f A B = canon (joinG f (gridOf A) (gridOf B)) := if_pos h
theorem joinL_len (f : Bool → Bool → Bool) (A B : List Rc) : (joinL f A B).length ≤ 256 := by
  by_cases h : okL A = true ∧ okL B = true
  · rw [joinL_yes h]; exact canon_len _
  · rw [joinL_no h]; simp
/-- What such a function answers. -/
def JoinAns (f : Bool → Bool → Bool) (A B : List Rc) (w : World) (e : Ending) (w' : World) : Prop :=
  ∃ v, e = .returned (.agg #[v]) ∧ w'.ownsRow w.heap.size 31 4 v (joinL f A B).length (rcsCells (joinL f A B)) ∧ Below w.heap.size w w'
/-- What is there behind the statement that makes the two grids. -/
structure CgSt (w : World) (g h : Nat → Bool) (b c : Nat) (W : World) : Prop where
  g1 : GrAt W b 63 g
  g2 : GrAt W c 63 h
  ne : b ≠ c
  l1 : w.heap.size + 3 ≤ b
  l2 : w.heap.size + 3 ≤ c
  rs : BxR W (w.heap.size + 2)
  bw : Below w.heap.size w W
theorem CgSt.call {w W W' : World} {g h : Nat → Bool} {b c : Nat} (k : CgSt w g h b c W) (hb : Below W.heap.size W W') : CgSt w g h b c W' :=
  ⟨k.g1.call hb, k.g2.call hb, k.ne, k.l1, k.l2, k.rs.call hb, k.bw.trans (hb.mono k.bw.size)⟩
theorem CgSt.congr {w W : World} {g g' h : Nat → Bool} {b c : Nat} (k : CgSt w g h b c W) (e : ∀ i, i < 256 → g i = g' i) : CgSt w g' h b c W :=
  ⟨k.g1.congr e, k.g2, k.ne, k.l1, k.l2, k.rs, k.bw⟩
theorem CgSt.set {w W : World} {g h : Nat → Bool} {b c : Nat} (k : CgSt w g h b c W) (n : Nat) (v : Bool) : CgSt w (gSet g n v) h b c (W.setCell ⟨b, n, none⟩ (.bool v)) :=
  ⟨k.g1.set n v, k.g2.far (Ne.symm k.ne) _, k.ne, k.l1, k.l2, (Below.heap_setCell W _ _ _ (by have := k.l1; simp; omega)).trans k.rs, k.bw.setCell (by have := k.l1; simp; omega) _⟩
theorem CgSt.drewN {w W : World} {g h : Nat → Bool} {b c : Nat} (k : CgSt w g h b c W) (q : Nat) : CgSt w g h b c (W.drewN q) :=
  k.call (below_drewN (Below.refl _ _) q)
theorem CgSt.drewSet {w W : World} {g h : Nat → Bool} {b c n : Nat} {v : Value} (k : CgSt w g h b c (W.setCell ⟨b, n, none⟩ v)) : CgSt w g h b c (W.drew.setCell ⟨b, n, none⟩ v) :=
  ⟨k.g1, k.g2, k.ne, k.l1, k.l2, k.rs, ⟨k.bw.os, k.bw.tape, k.bw.output, k.bw.size, k.bw.block⟩⟩
end Go.Proofs.Ytcffeakajfbhhaa
