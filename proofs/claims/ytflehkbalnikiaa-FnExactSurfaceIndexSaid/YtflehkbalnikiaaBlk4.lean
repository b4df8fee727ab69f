/- Blocks of four numbers (rectangles) in memory: what a block that is known whole says of its cells, and that it stands while nothing writes it. No statement is proved here. -/
import Derived.Test.YtflehkbalnikiaaRectC
import Derived.Test.YtflehkbalnikiaaProg
import Derived.WalkKit
import Derived.ProofKit
import Derived.OpenShut
import Derived.WalkLawsBesides
import Derived.WalkSpells
import Derived.ShutString
import Derived.ChangeOld
import Derived.Below
import Derived.Lib.Hide
namespace Go.Proofs.Ytflehkbalnikiaa
open Go.RowKit
/-- Block g holds the four numbers of r. -/
def RcAt (w : World) (g : Nat) (r : Rc) : Prop := w.heap[g]? = some (.cells #[.int .i64 r.x, .int .i64 r.y, .int .i64 r.w, .int .i64 r.h] 64 (0, 0))
theorem RcAt.lt {w : World} {g : Nat} {r : Rc} (h : RcAt w g r) : g < w.heap.size := (Array.getElem?_eq_some_iff.1 h).1
theorem RcAt.cells {w : World} {g : Nat} {r : Rc} (h : RcAt w g r) :
    w.cell? ⟨g, 0, none⟩ = some (.int .i64 r.x) ∧ w.cell? ⟨g, 1, none⟩ = some (.int .i64 r.y) ∧ w.cell? ⟨g, 2, none⟩ = some (.int .i64 r.w) ∧ w.cell? ⟨g, 3, none⟩ = some (.int .i64 r.h) := by
  unfold RcAt at h
  refine ⟨?_, ?_, ?_, ?_⟩ <;> simp [World.cell?, h]
theorem RcAt.frozen {w : World} {g : Nat} {r : Rc} (h : RcAt w g r) (o : Nat) : w.frozen? ⟨g, o, none⟩ = false := by
  unfold RcAt at h; simp [World.frozen?, h]
theorem RcAt.below {w w' : World} {g B : Nat} {r : Rc} (h : RcAt w g r) (hb : Below B w w') (hg : g < B) : RcAt w' g r := (hb.block g hg).trans h
theorem RcAt.alloc {w : World} {g : Nat} {r : Rc} (h : RcAt w g r) (o : Obj) : RcAt (w.alloc o) g r := (Below.heap_alloc w o g h.lt).trans h
theorem RcAt.new (w : World) (r : Rc) : RcAt (w.alloc (.cells #[.int .i64 r.x, .int .i64 r.y, .int .i64 r.w, .int .i64 r.h] 64)) w.heap.size r := heap_alloc_new w _
theorem RcAt.newAt {w : World} {g : Nat} (h : w.heap.size = g) (r : Rc) : RcAt (w.alloc (.cells #[.int .i64 r.x, .int .i64 r.y, .int .i64 r.w, .int .i64 r.h] 64)) g r := h ▸ RcAt.new w r
theorem RcAt.drew {w : World} {g : Nat} {r : Rc} (h : RcAt w g r) : RcAt w.drew g r := h
theorem RcAt.drewN {w : World} {g : Nat} {r : Rc} (h : RcAt w g r) (n : Nat) : RcAt (w.drewN n) g r := h
theorem RcAt.set0 {w : World} {g : Nat} {r : Rc} (h : RcAt w g r) (a b c d : Int) :
    RcAt ((((w.setCell ⟨g, 0, none⟩ (.int .i64 a)).setCell ⟨g, 1, none⟩ (.int .i64 b)).setCell ⟨g, 2, none⟩ (.int .i64 c)).setCell ⟨g, 3, none⟩ (.int .i64 d)) g ⟨a, b, c, d⟩ := by
  unfold RcAt at *
  simp [World.setCell, Array.getElem?_modify, h]
theorem RcAt.far {w : World} {g : Nat} {r : Rc} (h : RcAt w g r) {p : Addr} (hp : g ≠ p.block) (v : Value) : RcAt (w.setCell p v) g r := (Below.heap_setCell w p v g hp).trans h
theorem RcAt.set2 {w : World} {g : Nat} {r : Rc} (h : RcAt w g r) (c d : Int) : RcAt ((w.setCell ⟨g, 2, none⟩ (.int .i64 c)).setCell ⟨g, 3, none⟩ (.int .i64 d)) g ⟨r.x, r.y, c, d⟩ := by
  unfold RcAt at *
  simp [World.setCell, Array.getElem?_modify, h]
end Go.Proofs.Ytflehkbalnikiaa
