/- Plain mathematics of combined regions: their points and their areas; the memory of the laws over regions. No statement is proved here. -/
import Derived.Test.YtcffeakajfbhhaaRegE
import Derived.Test.YtcffeakajfbhhaaJnI
import Derived.Test.YtcffeakajfbhhaaAreaR
namespace Go.Proofs.Ytcffeakajfbhhaa
open Go.RowKit
theorem inR_grid {L : List Rc} (h : okL L = true) (x y : Nat) (hx : x < 16) (hy : y < 16) : inR L x y = gridOf L (y * 16 + x) := by
  have hg := in_grid h x y hx hy
  rcases e : gridOf L (y * 16 + x) with _ | _
  · exact inR_out (fun k => by rw [hg.1 k] at e; cases e)
  · exact inR_yes h (hg.2 e)
theorem join_ok {f : Bool → Bool → Bool} {A B : List Rc} (hA : okL A = true) (hB : okL B = true) : okL (joinL f A B) = true := by
  rw [joinL_yes ⟨hA, hB⟩]; exact ok_canon _
theorem join_in {f : Bool → Bool → Bool} {A B : List Rc} (hA : okL A = true) (hB : okL B = true) (x y : Nat) (hx : x < 16) (hy : y < 16) : inR (joinL f A B) x y = f (inR A x y) (inR B x y) := by
  rw [inR_grid (join_ok hA hB) x y hx hy, inR_grid hA x y hx hy, inR_grid hB x y hx hy, joinL_yes ⟨hA, hB⟩, gridOf_canon _ _ (by omega)]
  rfl
theorem join_area {f : Bool → Bool → Bool} {A B : List Rc} (hA : okL A = true) (hB : okL B = true) : areaR (joinL f A B) = cntRows (joinG f (gridOf A) (gridOf B)) 0 := by
  unfold areaR
  rw [if_pos (join_ok hA hB), joinL_yes ⟨hA, hB⟩, canon_area]
theorem ok_cnt {A : List Rc} (hA : okL A = true) : areaR A = cntRows (gridOf A) 0 := by
  unfold areaR
  rw [if_pos hA, ← canon_area, (okL_iff A).1 hA]
theorem sets_area {A B : List Rc} (hA : okL A = true) (hB : okL B = true) :
    areaR (joinL (fun p q => p || q) A B) + areaR (joinL (fun p q => p && q) A B) = areaR A + areaR B ∧
    areaR (joinL (fun p q => p && !q) A B) + areaR (joinL (fun p q => p && q) A B) = areaR A := by
  rw [join_area hA hB, join_area hA hB, join_area hA hB, ok_cnt hA, ok_cnt hB]
  exact ⟨cnt_two (gridOf A) (gridOf B) 0, cnt_less (gridOf A) (gridOf B) 0⟩
theorem area_bd (L : List Rc) : 0 ≤ areaR L ∧ areaR L ≤ 256 := by
  unfold areaR
  split
  · rename_i h; exact ok_area h
  · omega
theorem first_in {A : List Rc} (hA : okL A = true) {r : Rc} (hr : r ∈ A) : inR A r.x r.y = true := by
  refine inR_yes hA ⟨r, hr, ?_⟩
  have := ok_on hA r hr
  unfold OnScreen at this
  omega
/-- Block b is the variable of a region whose rectangles are L. -/
structure BR (W : World) (b : Nat) (v : Value) (L : List Rc) : Prop where
  x : W.heap[b]? = some (.cells #[v] 26 (0, 0))
  r : RdR W v L
theorem BR.lt {W : World} {b : Nat} {v : Value} {L : List Rc} (h : BR W b v L) : b < W.heap.size := (Array.getElem?_eq_some_iff.1 h.x).1
theorem BR.cell {W : World} {b : Nat} {v : Value} {L : List Rc} (h : BR W b v L) : W.cell? ⟨b, 0, none⟩ = some v := by rw [cell_of_row _ _ _ _ _ _ h.x]; rfl
theorem BR.call {W W' : World} {b : Nat} {v : Value} {L : List Rc} (h : BR W b v L) (hb : Below W.heap.size W W') : BR W' b v L := ⟨(hb.block b h.lt).trans h.x, h.r.call hb⟩
theorem BR.new (W : World) {v : Value} {L : List Rc} (h : RdR W v L) : BR (W.alloc (.cells #[v] 26)) W.heap.size v L := ⟨heap_alloc_new W _, h.alloc _⟩
theorem BR.drew {W : World} {b : Nat} {v : Value} {L : List Rc} (h : BR W b v L) : BR W.drew b v L := ⟨h.x, h.r.drew⟩
theorem below_undrew2 {w w' : World} (h : Below w.drew.heap.size w.drew w') : Below w.heap.size w w' := ((Below.refl w.heap.size w).drew).trans h
theorem below_bx (w : World) (u : Value) : Below w.heap.size w (w.alloc (.cells #[u] 26)) := (Below.refl _ _).alloc (Nat.le_refl _) _
/-- The variables of FnRegionSets and FnRegionForms: the two regions. -/
structure TwoB (w : World) (va vb : Value) (A B : List Rc) (b3 b4 : Nat) (W : World) : Prop where
  a : BR W b3 va A
  b : BR W b4 vb B
  bw : Below w.heap.size w W
theorem TwoB.call {w W W' : World} {va vb : Value} {A B : List Rc} {b3 b4 : Nat} (h : TwoB w va vb A B b3 b4 W) (hb : Below W.heap.size W W') : TwoB w va vb A B b3 b4 W' := ⟨h.a.call hb, h.b.call hb, below_call h.bw hb⟩
theorem TwoB.born {w w1 : World} {va vb : Value} {A B : List Rc} (ha : RdR w1 va A) (hb : RdR w1 vb B) (K : Below w.heap.size w w1) :
    TwoB w va vb A B w1.heap.size (w1.heap.size + 1) ((w1.alloc (.cells #[va] 26)).alloc (.cells #[vb] 26)) := by
  refine ⟨(BR.new w1 ha).call (below_bx _ _), ?_, below_call (below_call K (below_bx _ _)) (below_bx _ _)⟩
  have := BR.new (w1.alloc (.cells #[va] 26)) (hb.alloc _)
  rw [show (w1.alloc (.cells #[va] 26)).heap.size = w1.heap.size + 1 by simp] at this
  exact this
end Go.Proofs.Ytcffeakajfbhhaa
