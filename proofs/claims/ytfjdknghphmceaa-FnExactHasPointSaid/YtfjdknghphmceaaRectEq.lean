/- The contracts of laws.toRect, laws.eqRect. No statement is proved here. -/
import Derived.Test.YtfjdknghphmceaaBlk4
import Derived.Test.YtfjdknghphmceaaIsectP
namespace Go.Proofs.Ytfjdknghphmceaa
open Go.RowKit
/-- Block g holds the four numbers of r, a rectangle of the laws' own type. -/
def LcAt (w : World) (g : Nat) (r : Rc) : Prop := w.heap[g]? = some (.cells #[.int .i64 r.x, .int .i64 r.y, .int .i64 r.w, .int .i64 r.h] 23 (0, 0))
theorem LcAt.lt {w : World} {g : Nat} {r : Rc} (h : LcAt w g r) : g < w.heap.size := (Array.getElem?_eq_some_iff.1 h).1
theorem LcAt.cells {w : World} {g : Nat} {r : Rc} (h : LcAt w g r) :
    w.cell? ⟨g, 0, none⟩ = some (.int .i64 r.x) ∧ w.cell? ⟨g, 1, none⟩ = some (.int .i64 r.y) ∧ w.cell? ⟨g, 2, none⟩ = some (.int .i64 r.w) ∧ w.cell? ⟨g, 3, none⟩ = some (.int .i64 r.h) := by
  unfold LcAt at h
  refine ⟨?_, ?_, ?_, ?_⟩ <;> simp [World.cell?, h]
theorem LcAt.below {w w' : World} {g B : Nat} {r : Rc} (h : LcAt w g r) (hb : Below B w w') (hg : g < B) : LcAt w' g r := (hb.block g hg).trans h
theorem LcAt.alloc {w : World} {g : Nat} {r : Rc} (h : LcAt w g r) (o : Obj) : LcAt (w.alloc o) g r := (Below.heap_alloc w o g h.lt).trans h
theorem LcAt.newAt {w : World} {g : Nat} (h : w.heap.size = g) (r : Rc) : LcAt (w.alloc (.cells #[.int .i64 r.x, .int .i64 r.y, .int .i64 r.w, .int .i64 r.h] 23)) g r := h ▸ heap_alloc_new w _
theorem LcAt.drew {w : World} {g : Nat} {r : Rc} (h : LcAt w g r) : LcAt w.drew g r := h
/-- The four cells from block g on hold the numbers of r. -/
structure Cs (w : World) (g : Nat) (r : Rc) : Prop where
  c0 : w.cell? ⟨g, 0, none⟩ = some (.int .i64 r.x)
  c1 : w.cell? ⟨g, 1, none⟩ = some (.int .i64 r.y)
  c2 : w.cell? ⟨g, 2, none⟩ = some (.int .i64 r.w)
  c3 : w.cell? ⟨g, 3, none⟩ = some (.int .i64 r.h)
theorem Cs.lt {w : World} {g : Nat} {r : Rc} (h : Cs w g r) : g < w.heap.size := World.block_lt_of_cell? w _ h.c0
theorem Cs.below {w w' : World} {g B : Nat} {r : Rc} (h : Cs w g r) (hb : Below B w w') (hg : g < B) : Cs w' g r :=
  ⟨(hb.cell (p := ⟨g, 0, none⟩) hg).trans h.c0, (hb.cell (p := ⟨g, 1, none⟩) hg).trans h.c1, (hb.cell (p := ⟨g, 2, none⟩) hg).trans h.c2, (hb.cell (p := ⟨g, 3, none⟩) hg).trans h.c3⟩
theorem Cs.alloc {w : World} {g : Nat} {r : Rc} (h : Cs w g r) (o : Obj) : Cs (w.alloc o) g r :=
  ⟨(World.cell?_alloc_lt w o _ h.lt).trans h.c0, (World.cell?_alloc_lt w o _ h.lt).trans h.c1, (World.cell?_alloc_lt w o _ h.lt).trans h.c2, (World.cell?_alloc_lt w o _ h.lt).trans h.c3⟩
theorem toRect_any (r : Rc) (w : World) :
    Calls Try.prog 11 #[.agg #[.int .i64 r.x, .int .i64 r.y, .int .i64 r.w, .int .i64 r.h]] w fun e w' => e = .returned (.agg #[.int .i64 r.x, .int .i64 r.y, .int .i64 r.w, .int .i64 r.h]) ∧ Below w.heap.size w w' := by
  go_enter Try.func11, Try.ntmps11
  go_wp2
  exact bodyPost_ret (v := .agg #[.int .i64 r.x, .int .i64 r.y, .int .i64 r.w, .int .i64 r.h]) (by simp [results, Try.results11, go_sem]) rfl ⟨rfl, by
    repeat first | exact Below.refl _ _ | refine Below.setCell ?_ (by first | (simp; done) | (simp; omega)) _ | refine Below.alloc ?_ (by first | (simp; done) | (simp; omega)) _⟩
theorem eqRect_same (r : Rc) (w : World) :
    Calls Try.prog 17 #[.agg #[.int .i64 r.x, .int .i64 r.y, .int .i64 r.w, .int .i64 r.h], .agg #[.int .i64 r.x, .int .i64 r.y, .int .i64 r.w, .int .i64 r.h]] w fun e w' => e = .returned (.bool true) ∧ Below w.heap.size w w' := by
  go_enter Try.func17, Try.ntmps17
  go_wp2
  go_ret
  exact ⟨rfl, ((Below.refl _ _).alloc (Nat.le_refl _) _).alloc (by simp) _⟩
end Go.Proofs.Ytfjdknghphmceaa
