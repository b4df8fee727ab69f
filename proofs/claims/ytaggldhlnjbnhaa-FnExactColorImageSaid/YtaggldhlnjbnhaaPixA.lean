/- The contracts of impl.clamped, impl.MakePixel, impl.Fade: channels in a block of memory. No statement is proved here. -/
import Derived.Test.YtaggldhlnjbnhaaPixM
import Derived.Test.YtaggldhlnjbnhaaProg
import Derived.WalkKit
import Derived.ProofKit
import Derived.OpenShut
import Derived.WalkLawsBesides
import Derived.WalkSpells
import Derived.ShutString
import Derived.ChangeOld
import Derived.Below
import Derived.Lib.Hide
import Derived.Laws.BitsAllLaws
import Derived.Lib.QuoteBits
import Derived.Deep.RegionHeld3
namespace Go.Proofs.Ytaggldhlnjbnhaa
open Go.RowKit
/-- Block g holds four channels. -/
def ChAt (w : World) (g : Nat) (a b c d : Int) : Prop := w.heap[g]? = some (.cells #[.int .i64 a, .int .i64 b, .int .i64 c, .int .i64 d] 70 (0, 0))
section
variable {w w' : World} {g B : Nat} {a b c d : Int}
theorem ChAt.lt (h : ChAt w g a b c d) : g < w.heap.size := (Array.getElem?_eq_some_iff.1 h).1
theorem ChAt.cells (h : ChAt w g a b c d) :
    w.cell? ⟨g, 0, none⟩ = some (.int .i64 a) ∧ w.cell? ⟨g, 1, none⟩ = some (.int .i64 b) ∧ w.cell? ⟨g, 2, none⟩ = some (.int .i64 c) ∧ w.cell? ⟨g, 3, none⟩ = some (.int .i64 d) := by
  unfold ChAt at h
  refine ⟨?_, ?_, ?_, ?_⟩ <;> simp [World.cell?, h]
theorem ChAt.frozen (h : ChAt w g a b c d) (o : Nat) : w.frozen? ⟨g, o, none⟩ = false := by
  unfold ChAt at h; simp [World.frozen?, h]
theorem ChAt.below (h : ChAt w g a b c d) (hb : Below B w w') (hg : g < B) : ChAt w' g a b c d := (hb.block g hg).trans h
theorem ChAt.call (h : ChAt w g a b c d) (hb : Below w.heap.size w w') : ChAt w' g a b c d := h.below hb h.lt
theorem ChAt.alloc (h : ChAt w g a b c d) (o : Obj) : ChAt (w.alloc o) g a b c d := (Below.heap_alloc w o g h.lt).trans h
theorem ChAt.new (w : World) (a b c d : Int) : ChAt (w.alloc (.cells #[.int .i64 a, .int .i64 b, .int .i64 c, .int .i64 d] 70)) w.heap.size a b c d := heap_alloc_new w _
theorem ChAt.newAt (h : w.heap.size = g) (a b c d : Int) : ChAt (w.alloc (.cells #[.int .i64 a, .int .i64 b, .int .i64 c, .int .i64 d] 70)) g a b c d := h ▸ ChAt.new w a b c d
theorem ChAt.drew (h : ChAt w g a b c d) : ChAt w.drew g a b c d := h
theorem ChAt.far (h : ChAt w g a b c d) {p : Addr} (hp : g ≠ p.block) (v : Value) : ChAt (w.setCell p v) g a b c d := (Below.heap_setCell w p v g hp).trans h
theorem ChAt.set1 (h : ChAt w g a b c d) (x : Int) : ChAt (w.setCell ⟨g, 1, none⟩ (.int .i64 x)) g a x c d := by
  unfold ChAt at *; simp [World.setCell, Array.getElem?_modify, h]
theorem ChAt.set2 (h : ChAt w g a b c d) (x : Int) : ChAt (w.setCell ⟨g, 2, none⟩ (.int .i64 x)) g a b x d := by
  unfold ChAt at *; simp [World.setCell, Array.getElem?_modify, h]
theorem ChAt.set3 (h : ChAt w g a b c d) (x : Int) : ChAt (w.setCell ⟨g, 3, none⟩ (.int .i64 x)) g a b c x := by
  unfold ChAt at *; simp [World.setCell, Array.getElem?_modify, h]
end
theorem px_call {a w w' : World} (h : Below a.heap.size a w) (hb : Below w.heap.size w w') : Below a.heap.size a w' := h.trans (hb.mono h.size)
end Go.Proofs.Ytaggldhlnjbnhaa
