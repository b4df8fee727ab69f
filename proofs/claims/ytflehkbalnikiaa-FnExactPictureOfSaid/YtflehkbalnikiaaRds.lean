/- Slices of rectangles: their cells, what a slice reads. No statement is proved here. -/
import Derived.Test.YtflehkbalnikiaaRd
import Derived.Test.YtflehkbalnikiaaMA
import Derived.Test.YtflehkbalnikiaaProg
import Derived.WalkKit
import Derived.ProofKit
import Derived.OpenShut
import Derived.WalkLawsBesides
import Derived.WalkSpells
import Derived.ShutString
import Derived.ChangeOld
import Derived.Below
import Derived.Lib.Hide
import Derived.BigQuiet
import Derived.Deep.QuietTactic
import Derived.Maps.AppendAt
import Derived.Deep.Draws
namespace Go.Proofs.Ytflehkbalnikiaa
open Go.RowKit
theorem new_cell (w : World) (v : Value) (t : TypeId) : (w.alloc (.cells #[v] t)).cell? ⟨w.heap.size, 0, none⟩ = some v := by
  rw [cell_of_row _ _ _ _ _ _ (heap_alloc_new w _)]; rfl
def rcCells (r : Rc) : List Value := [.int .i64 r.x, .int .i64 r.y, .int .i64 r.w, .int .i64 r.h]
def rcsCells (L : List Rc) : List Value := L.flatMap rcCells
theorem rcsCells_length (L : List Rc) : (rcsCells L).length = L.length * 4 := by
  induction L with
  | nil => rfl
  | cons r L ih => rw [rcsCells, List.flatMap_cons, List.length_append, List.length_cons]; rw [rcsCells] at ih; rw [ih]; simp [rcCells]; omega
theorem rcsCells_append (L M : List Rc) : rcsCells (L ++ M) = rcsCells L ++ rcsCells M := by simp [rcsCells]
theorem rcsCells_nil : rcsCells [] = [] := rfl
theorem rcsCells_one (r : Rc) : rcsCells [r] = rcCells r := by simp [rcsCells]
theorem rcs_get (L : List Rc) (k j : Nat) (r : Rc) (h : L[k]? = some r) (hj : j < 4) : (rcsCells L)[k * 4 + j]? = (rcCells r)[j]? := by
  induction L generalizing k with
  | nil => simp at h
  | cons s L ih =>
    have e : rcsCells (s :: L) = rcCells s ++ rcsCells L := by simp [rcsCells]
    rw [e]
    cases k with
    | zero =>
      simp at h
      subst h
      rw [Nat.zero_mul, Nat.zero_add, List.getElem?_append_left (by simp [rcCells]; omega)]
    | succ k =>
      rw [List.getElem?_append_right (by simp [rcCells]; omega)]
      simp only [List.getElem?_cons_succ] at h
      rw [← ih k h]
      congr 1
      simp [rcCells]; omega
theorem rcs_one (L : List Rc) : ∀ v ∈ rcsCells L, v.oneCell' = true := by
  intro v hv
  simp only [rcsCells, List.mem_flatMap, rcCells] at hv
  obtain ⟨r, _, hv⟩ := hv
  simp at hv
  rcases hv with rfl | rfl | rfl | rfl <;> rfl
/-- The four cells from offset o of block g on hold r. -/
structure C4 (w : World) (g o : Nat) (r : Rc) : Prop where
  c0 : w.cell? ⟨g, o, none⟩ = some (.int .i64 r.x)
  c1 : w.cell? ⟨g, o + 1, none⟩ = some (.int .i64 r.y)
  c2 : w.cell? ⟨g, o + 2, none⟩ = some (.int .i64 r.w)
  c3 : w.cell? ⟨g, o + 3, none⟩ = some (.int .i64 r.h)
theorem C4.cells {w : World} {g o : Nat} {r : Rc} (h : C4 w g o r) :
    w.cell? ⟨g, o, none⟩ = some (.int .i64 r.x) ∧ w.cell? ⟨g, o + 1, none⟩ = some (.int .i64 r.y) ∧ w.cell? ⟨g, o + 2, none⟩ = some (.int .i64 r.w) ∧ w.cell? ⟨g, o + 3, none⟩ = some (.int .i64 r.h) := ⟨h.c0, h.c1, h.c2, h.c3⟩
theorem C4.lt {w : World} {g o : Nat} {r : Rc} (h : C4 w g o r) : g < w.heap.size := World.block_lt_of_cell? w _ h.c0
theorem C4.kept {w w' : World} {g o : Nat} {r : Rc} (h : C4 w g o r) (e : w'.heap[g]? = w.heap[g]?) : C4 w' g o r :=
  ⟨(World.cell?_of_block e).trans h.c0, (World.cell?_of_block e).trans h.c1, (World.cell?_of_block e).trans h.c2, (World.cell?_of_block e).trans h.c3⟩
theorem C4.below {w w' : World} {g o B : Nat} {r : Rc} (h : C4 w g o r) (hb : Below B w w') (hg : g < B) : C4 w' g o r := h.kept (hb.block g hg)
theorem C4.alloc {w : World} {g o : Nat} {r : Rc} (h : C4 w g o r) (x : Obj) : C4 (w.alloc x) g o r := h.kept (Below.heap_alloc w x g h.lt)
theorem C4.call {w w' : World} {g o : Nat} {r : Rc} (h : C4 w g o r) (hb : Below w.heap.size w w') : C4 w' g o r := h.below hb h.lt
theorem C4.drew {w : World} {g o : Nat} {r : Rc} (h : C4 w g o r) : C4 w.drew g o r := ⟨h.c0, h.c1, h.c2, h.c3⟩
theorem C4.far4 {w : World} {g o b : Nat} {r : Rc} (h : C4 w g o r) (hb : g ≠ b) (v0 v1 v2 v3 : Value) :
    C4 ((((w.setCell ⟨b, 0, none⟩ v0).setCell ⟨b, 1, none⟩ v1).setCell ⟨b, 2, none⟩ v2).setCell ⟨b, 3, none⟩ v3) g o r :=
  h.kept ((((Below.heap_setCell _ ⟨b, 3, none⟩ v3 g hb).trans (Below.heap_setCell _ ⟨b, 2, none⟩ v2 g hb)).trans (Below.heap_setCell _ ⟨b, 1, none⟩ v1 g hb)).trans (Below.heap_setCell _ ⟨b, 0, none⟩ v0 g hb))
end Go.Proofs.Ytflehkbalnikiaa
