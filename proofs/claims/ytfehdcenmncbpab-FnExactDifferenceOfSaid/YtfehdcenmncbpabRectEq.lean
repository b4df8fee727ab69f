/- The contracts of laws.toRect, laws.eqRect. No statement is proved here. -/
import Derived.Test.YtfehdcenmncbpabRectC
import Derived.Test.YtfehdcenmncbpabBlk4
import Derived.Test.YtfehdcenmncbpabProg
import Derived.WalkKit
import Derived.ProofKit
import Derived.OpenShut
import Derived.WalkLawsBesides
import Derived.WalkSpells
import Derived.ShutString
import Derived.ChangeOld
import Derived.Below
import Derived.Lib.Hide
namespace Go.Proofs.Ytfehdcenmncbpab
open Go.RowKit
/-- Block g holds the four numbers of r, a rectangle of the laws' own type. -/
def LcAt (w : World) (g : Nat) (r : Rc) : Prop := w.heap[g]? = some (.cells #[.int .i64 r.x, .int .i64 r.y, .int .i64 r.w, .int .i64 r.h] 42 (0, 0))
theorem LcAt.lt {w : World} {g : Nat} {r : Rc} (h : LcAt w g r) : g < w.heap.size := (Array.getElem?_eq_some_iff.1 h).1
theorem LcAt.cells {w : World} {g : Nat} {r : Rc} (h : LcAt w g r) :
    w.cell? ⟨g, 0, none⟩ = some (.int .i64 r.x) ∧ w.cell? ⟨g, 1, none⟩ = some (.int .i64 r.y) ∧ w.cell? ⟨g, 2, none⟩ = some (.int .i64 r.w) ∧ w.cell? ⟨g, 3, none⟩ = some (.int .i64 r.h) := by
  unfold LcAt at h
  refine ⟨?_, ?_, ?_, ?_⟩ <;> simp [World.cell?, h]
theorem LcAt.below {w w' : World} {g B : Nat} {r : Rc} (h : LcAt w g r) (hb : Below B w w') (hg : g < B) : LcAt w' g r := (hb.block g hg).trans h
theorem LcAt.alloc {w : World} {g : Nat} {r : Rc} (h : LcAt w g r) (o : Obj) : LcAt (w.alloc o) g r := (Below.heap_alloc w o g h.lt).trans h
theorem LcAt.newAt {w : World} {g : Nat} (h : w.heap.size = g) (r : Rc) : LcAt (w.alloc (.cells #[.int .i64 r.x, .int .i64 r.y, .int .i64 r.w, .int .i64 r.h] 42)) g r := h ▸ heap_alloc_new w _
theorem LcAt.drew {w : World} {g : Nat} {r : Rc} (h : LcAt w g r) : LcAt w.drew g r := h
theorem LcAt.far {w : World} {g : Nat} {r : Rc} (h : LcAt w g r) {p : Addr} (hp : g ≠ p.block) (v : Value) : LcAt (w.setCell p v) g r := (Below.heap_setCell w p v g hp).trans h
theorem LcAt.ne {w : World} {g g' : Nat} {r r' : Rc} (h : LcAt w g r) (h' : RcAt w g' r') : g ≠ g' := by
  rintro rfl
  unfold LcAt at h
  unfold RcAt at h'
  rw [h] at h'
  injection h' with h'
  injection h' with _ ht
  exact absurd ht (by decide)
theorem LcAt.far4 {w : World} {g g' : Nat} {r r' : Rc} (h : LcAt w g r) (h' : RcAt w g' r') (v0 v1 v2 v3 : Value) :
    LcAt ((((w.setCell ⟨g', 0, none⟩ v0).setCell ⟨g', 1, none⟩ v1).setCell ⟨g', 2, none⟩ v2).setCell ⟨g', 3, none⟩ v3) g r :=
  (((h.far (p := ⟨g', 0, none⟩) (h.ne h') _).far (p := ⟨g', 1, none⟩) (h.ne h') _).far (p := ⟨g', 2, none⟩) (h.ne h') _).far (p := ⟨g', 3, none⟩) (h.ne h') _
theorem below_set4 {B : Nat} {w0 w : World} {g : Nat} (h : Below B w0 w) (hg : B ≤ g) (v0 v1 v2 v3 : Value) :
    Below B w0 ((((w.setCell ⟨g, 0, none⟩ v0).setCell ⟨g, 1, none⟩ v1).setCell ⟨g, 2, none⟩ v2).setCell ⟨g, 3, none⟩ v3) :=
  (((h.setCell (p := ⟨g, 0, none⟩) hg _).setCell (p := ⟨g, 1, none⟩) hg _).setCell (p := ⟨g, 2, none⟩) hg _).setCell (p := ⟨g, 3, none⟩) hg _
theorem rc_born {w w' : World} (hb : Below (w.alloc (.cells #[.int .i64 0, .int .i64 0, .int .i64 0, .int .i64 0] 31)).heap.size (w.alloc (.cells #[.int .i64 0, .int .i64 0, .int .i64 0, .int .i64 0] 31)) w') : RcAt w' w.heap.size ⟨0, 0, 0, 0⟩ :=
  (RcAt.new w ⟨0, 0, 0, 0⟩).below hb (RcAt.new w ⟨0, 0, 0, 0⟩).lt
theorem rc_born_drew {w w' : World} (hb : Below (w.alloc (.cells #[.int .i64 0, .int .i64 0, .int .i64 0, .int .i64 0] 31)).drew.heap.size (w.alloc (.cells #[.int .i64 0, .int .i64 0, .int .i64 0, .int .i64 0] 31)).drew w') : RcAt w' w.heap.size ⟨0, 0, 0, 0⟩ :=
  RcAt.below (w := (w.alloc (.cells #[.int .i64 0, .int .i64 0, .int .i64 0, .int .i64 0] 31)).drew) (RcAt.new w ⟨0, 0, 0, 0⟩) hb (RcAt.new w ⟨0, 0, 0, 0⟩).lt
theorem RcAt.setr {w : World} {g : Nat} {s : Rc} (h : RcAt w g s) (r : Rc) :
    RcAt ((((w.setCell ⟨g, 0, none⟩ (.int .i64 r.x)).setCell ⟨g, 1, none⟩ (.int .i64 r.y)).setCell ⟨g, 2, none⟩ (.int .i64 r.w)).setCell ⟨g, 3, none⟩ (.int .i64 r.h)) g r := h.set0 _ _ _ _
theorem RcAt.far4 {w : World} {g g' : Nat} {r : Rc} (h : RcAt w g r) (hg : g < g') (v0 v1 v2 v3 : Value) :
    RcAt ((((w.setCell ⟨g', 0, none⟩ v0).setCell ⟨g', 1, none⟩ v1).setCell ⟨g', 2, none⟩ v2).setCell ⟨g', 3, none⟩ v3) g r :=
  (((h.far (p := ⟨g', 0, none⟩) (Nat.ne_of_lt hg) _).far (p := ⟨g', 1, none⟩) (Nat.ne_of_lt hg) _).far (p := ⟨g', 2, none⟩) (Nat.ne_of_lt hg) _).far (p := ⟨g', 3, none⟩) (Nat.ne_of_lt hg) _
theorem toRect_any (r : Rc) (w : World) :
    Calls Try.prog 24 #[.agg #[.int .i64 r.x, .int .i64 r.y, .int .i64 r.w, .int .i64 r.h]] w fun e w' => e = .returned (.agg #[.int .i64 r.x, .int .i64 r.y, .int .i64 r.w, .int .i64 r.h]) ∧ Below w.heap.size w w' := by
  go_enter Try.func24, Try.ntmps24
  go_wp2
  exact bodyPost_ret (v := .agg #[.int .i64 r.x, .int .i64 r.y, .int .i64 r.w, .int .i64 r.h]) (by simp [results, Try.results24, go_sem]) rfl ⟨rfl, by
    repeat first | exact Below.refl _ _ | refine Below.setCell ?_ (by first | (simp; done) | (simp; omega)) _ | refine Below.alloc ?_ (by first | (simp; done) | (simp; omega)) _⟩
theorem eqRect_same (r : Rc) (w : World) :
    Calls Try.prog 113 #[.agg #[.int .i64 r.x, .int .i64 r.y, .int .i64 r.w, .int .i64 r.h], .agg #[.int .i64 r.x, .int .i64 r.y, .int .i64 r.w, .int .i64 r.h]] w fun e w' => e = .returned (.bool true) ∧ Below w.heap.size w w' := by
  go_enter Try.func113, Try.ntmps113
  go_wp2
  go_ret
  exact ⟨rfl, ((Below.refl _ _).alloc (Nat.le_refl _) _).alloc (by simp) _⟩
end Go.Proofs.Ytfehdcenmncbpab
