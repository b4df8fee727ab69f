/- The contracts of laws.toRect, laws.eqRect. No statement is proved here. -/
import Derived.Test.YtaggldhlnjbnhaaRectC
import Derived.Test.YtaggldhlnjbnhaaBlk4
import Derived.Test.YtaggldhlnjbnhaaProg
import Derived.WalkKit
import Derived.ProofKit
import Derived.OpenShut
import Derived.WalkLawsBesides
import Derived.WalkSpells
import Derived.ShutString
import Derived.ChangeOld
import Derived.Below
import Derived.Lib.Hide
namespace Go.Proofs.Ytaggldhlnjbnhaa
open Go.RowKit
/-- Block g holds the four numbers of r, a rectangle of the laws' own type. -/
def LcAt (w : World) (g : Nat) (r : Rc) : Prop := w.heap[g]? = some (.cells #[.int .i64 r.x, .int .i64 r.y, .int .i64 r.w, .int .i64 r.h] 57 (0, 0))
theorem LcAt.lt {w : World} {g : Nat} {r : Rc} (h : LcAt w g r) : g < w.heap.size := (Array.getElem?_eq_some_iff.1 h).1
theorem LcAt.cells {w : World} {g : Nat} {r : Rc} (h : LcAt w g r) :
    w.cell? ⟨g, 0, none⟩ = some (.int .i64 r.x) ∧ w.cell? ⟨g, 1, none⟩ = some (.int .i64 r.y) ∧ w.cell? ⟨g, 2, none⟩ = some (.int .i64 r.w) ∧ w.cell? ⟨g, 3, none⟩ = some (.int .i64 r.h) := by
  unfold LcAt at h
  refine ⟨?_, ?_, ?_, ?_⟩ <;> simp [World.cell?, h]
theorem LcAt.below {w w' : World} {g B : Nat} {r : Rc} (h : LcAt w g r) (hb : Below B w w') (hg : g < B) : LcAt w' g r := (hb.block g hg).trans h
theorem LcAt.alloc {w : World} {g : Nat} {r : Rc} (h : LcAt w g r) (o : Obj) : LcAt (w.alloc o) g r := (Below.heap_alloc w o g h.lt).trans h
theorem LcAt.newAt {w : World} {g : Nat} (h : w.heap.size = g) (r : Rc) : LcAt (w.alloc (.cells #[.int .i64 r.x, .int .i64 r.y, .int .i64 r.w, .int .i64 r.h] 57)) g r := h ▸ heap_alloc_new w _
theorem LcAt.drew {w : World} {g : Nat} {r : Rc} (h : LcAt w g r) : LcAt w.drew g r := h
theorem LcAt.far {w : World} {g : Nat} {r : Rc} (h : LcAt w g r) {p : Addr} (hp : g ≠ p.block) (v : Value) : LcAt (w.setCell p v) g r := (Below.heap_setCell w p v g hp).trans h
theorem LcAt.ne {w : World} {g g' : Nat} {r r' : Rc} (h : LcAt w g r) (h' : RcAt w g' r') : g ≠ g' := by
  rintro rfl
  unfold LcAt at h
  unfold RcAt at h'
  rw [h] at h'
  injection h' with h'
  injection h' with _ ht
  exact absurd ht (by decide)
theorem toRect_any (r : Rc) (w : World) :
    Calls Try.prog 51 #[.agg #[.int .i64 r.x, .int .i64 r.y, .int .i64 r.w, .int .i64 r.h]] w fun e w' => e = .returned (.agg #[.int .i64 r.x, .int .i64 r.y, .int .i64 r.w, .int .i64 r.h]) ∧ Below w.heap.size w w' := by
  go_enter Try.func51, Try.ntmps51
  go_wp2
  exact bodyPost_ret (v := .agg #[.int .i64 r.x, .int .i64 r.y, .int .i64 r.w, .int .i64 r.h]) (by simp [results, Try.results51, go_sem]) rfl ⟨rfl, by
    repeat first | exact Below.refl _ _ | refine Below.setCell ?_ (by first | (simp; done) | (simp; omega)) _ | refine Below.alloc ?_ (by first | (simp; done) | (simp; omega)) _⟩
end Go.Proofs.Ytaggldhlnjbnhaa
