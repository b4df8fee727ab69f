/- Blocks of cells in memory that are known whole: what such a block says of its cells, and that it stands while nothing writes it. No statement is proved here. -/
import Derived.Test.YtflehkbalnikiaaProg
import Derived.WalkKit
import Derived.ProofKit
import Derived.OpenShut
import Derived.WalkLawsBesides
import Derived.WalkSpells
import Derived.ShutString
import Derived.ChangeOld
import Derived.Below
import Derived.Lib.Hide
import Derived.Deep.MidRow
import Derived.Deep.WholeRow
import Derived.Maps.AppendAt
namespace Go.Proofs.Ytflehkbalnikiaa
open Go.RowKit
/-- Block g holds these cells. -/
def BkAt (w : World) (g : Nat) (t : TypeId) (cs : Array Value) : Prop := w.heap[g]? = some (.cells cs t (0, 0))
theorem BkAt.lt {w : World} {g : Nat} {t : TypeId} {cs : Array Value} (h : BkAt w g t cs) : g < w.heap.size := (Array.getElem?_eq_some_iff.1 h).1
theorem BkAt.cell {w : World} {g : Nat} {t : TypeId} {cs : Array Value} (h : BkAt w g t cs) (i : Nat) {v : Value} (hv : cs[i]? = some v) : w.cell? ⟨g, i, none⟩ = some v := by
  unfold BkAt at h; simp [World.cell?, h, hv]
theorem BkAt.frozen {w : World} {g : Nat} {t : TypeId} {cs : Array Value} (h : BkAt w g t cs) (i : Nat) : w.frozen? ⟨g, i, none⟩ = false := by
  unfold BkAt at h; simp [World.frozen?, h]
theorem BkAt.below {w w' : World} {g B : Nat} {t : TypeId} {cs : Array Value} (h : BkAt w g t cs) (hb : Below B w w') (hg : g < B) : BkAt w' g t cs := (hb.block g hg).trans h
theorem BkAt.call {w w' : World} {g : Nat} {t : TypeId} {cs : Array Value} (h : BkAt w g t cs) (hb : Below w.heap.size w w') : BkAt w' g t cs := h.below hb h.lt
theorem BkAt.alloc {w : World} {g : Nat} {t : TypeId} {cs : Array Value} (h : BkAt w g t cs) (o : Obj) : BkAt (w.alloc o) g t cs := (Below.heap_alloc w o g h.lt).trans h
theorem BkAt.new (w : World) (t : TypeId) (cs : Array Value) : BkAt (w.alloc (.cells cs t)) w.heap.size t cs := heap_alloc_new w _
theorem BkAt.newAt {w : World} {g : Nat} (h : w.heap.size = g) (t : TypeId) (cs : Array Value) : BkAt (w.alloc (.cells cs t)) g t cs := h ▸ BkAt.new w t cs
theorem BkAt.drew {w : World} {g : Nat} {t : TypeId} {cs : Array Value} (h : BkAt w g t cs) : BkAt w.drew g t cs := h
theorem BkAt.drewN {w : World} {g : Nat} {t : TypeId} {cs : Array Value} (h : BkAt w g t cs) (n : Nat) : BkAt (w.drewN n) g t cs := h
theorem BkAt.grown {w w' : World} {g : Nat} {t : TypeId} {cs : Array Value} {row : Option Nat} (h : BkAt w g t cs) (hb : w.grownBy w' row) (hr : some g ≠ row) : BkAt w' g t cs := (hb.block g h.lt hr).trans h
theorem BkAt.far {w : World} {g : Nat} {t : TypeId} {cs : Array Value} (h : BkAt w g t cs) {p : Addr} (hp : g ≠ p.block) (v : Value) : BkAt (w.setCell p v) g t cs := (Below.heap_setCell w p v g hp).trans h
theorem BkAt.set {w : World} {g : Nat} {t : TypeId} {cs : Array Value} (h : BkAt w g t cs) (i : Nat) (v : Value) : BkAt (w.setCell ⟨g, i, none⟩ v) g t (cs.setIfInBounds i v) := by
  unfold BkAt at *
  simp [World.setCell, Array.getElem?_modify, h]
theorem BkAt.cells4 {w : World} {g : Nat} {t : TypeId} {a b c d : Value} (h : BkAt w g t #[a, b, c, d]) :
    w.cell? ⟨g, 0, none⟩ = some a ∧ w.cell? ⟨g, 1, none⟩ = some b ∧ w.cell? ⟨g, 2, none⟩ = some c ∧ w.cell? ⟨g, 3, none⟩ = some d :=
  ⟨h.cell 0 rfl, h.cell 1 rfl, h.cell 2 rfl, h.cell 3 rfl⟩
theorem BkAt.all4 {w : World} {g : Nat} {t : TypeId} {a b c d : Value} (h : BkAt w g t #[a, b, c, d]) (a' b' c' d' : Value) :
    BkAt ((((w.setCell ⟨g, 0, none⟩ a').setCell ⟨g, 1, none⟩ b').setCell ⟨g, 2, none⟩ c').setCell ⟨g, 3, none⟩ d') g t #[a', b', c', d'] :=
  (((h.set 0 a').set 1 b').set 2 c').set 3 d'
theorem grown_setB (w : World) (g o : Nat) (v : Value) : w.grownBy (w.setCell ⟨g, o, none⟩ v) (some g) :=
  ⟨rfl, rfl, rfl, by simp, fun k _ hk => Below.heap_setCell w ⟨g, o, none⟩ v k (fun e => hk (by rw [e]))⟩
/-- A variable of a struct that comes into being, in a free order. -/
theorem wp_alloc_bk {op : Oper} {a : Act} {w : World} {K : Act → World → Prop} {Q : Exit → Act → World → Prop} (t : TypeId) (cs : Array Value) (hz : ∀ w, (zeroValue t).run Try.prog w = .ok (.agg cs) w) (ho : op.op = .alloc t) (d : Nat) (hd : op.dst = some d)
    (h : ∀ b W', Below w.heap.size w W' → BkAt W' b t cs → w.heap.size ≤ b → K (a.put (some d) (.pointer (some ⟨b, 0, none⟩))) W') : op.wp Try.prog a w K Q := by
  have h1 := h w.heap.size (w.alloc (.cells cs t)) ((Below.refl _ _).alloc (Nat.le_refl _) _) (BkAt.new w _ _) (Nat.le_refl _)
  have hz := hz w
  unfold Oper.wp execOp
  simp only [ho, Instr.alloc, Sem.run_bind, hz, Result.andThen_ok, Sem.run_pure]
  rw [← hd] at h1
  exact h1
/-- A variable of a struct is written whole. -/
theorem wp_store_bk {op : Oper} {a : Act} {w : World} {K : Act → World → Prop} {Q : Exit → Act → World → Prop} (t : TypeId) (x y : Operand) (ho : op.op = .store t x y)
    (b : Nat) (t0 : TypeId) (cs cs' : Array Value) (hsz : (Try.prog.info? t).map (·.size) = some cs'.size) (hl : cs.size = cs'.size) (h1 : cs'.all (·.oneCell') = true) (hx : a.eval x = .pointer (some ⟨b, 0, none⟩)) (hy : a.eval y = .agg cs') (hI : BkAt w b t0 cs)
    (h : ∀ W', BkAt W' b t0 cs' → w.grownBy W' (some b) → K (a.put op.dst undef) W') : op.wp Try.prog a w K Q := by
  have hs : (storeVar t ⟨b, 0, none⟩ (.agg cs')).run Try.prog w = .ok () (w.setRow b cs') := run_storeVar_row w b _ _ cs cs' hI hsz hl h1
  have h2 := h (w.setRow b cs') (setRow_heap w b _ _ t0 _ hI) ⟨rfl, rfl, rfl, by simp [World.setRow], fun k _ hk => setRow_other w b k _ (fun e => hk (by rw [e]))⟩
  unfold Oper.wp execOp
  simp only [ho, hx, hy, Instr.storeAt, Instr.sureAddr, Sem.run_bind, Sem.run_pure, Result.andThen_ok, hs]
  exact h2
/-- A struct is read whole (under with_reducible). -/
theorem wp_load_bk {op : Oper} {a : Act} {w : World} {K : Act → World → Prop} {Q : Exit → Act → World → Prop} (t : TypeId) (x : Operand) (ho : op.op = .load t x) (b : Nat) (t0 : TypeId) (cs : Array Value) (fs : Array Field) (hu : Try.prog.underlying t = some (.struct fs))
    (hsz : (Try.prog.info? t).map (·.size) = some cs.size) (hx : a.eval x = .pointer (some ⟨b, 0, none⟩)) (hI : BkAt w b t0 cs) (h : K (a.put op.dst (.agg cs)) w) : op.wp Try.prog a w K Q :=
  wp_load_row t x ho b hx _ cs _ _ hI hu rfl hsz h
end Go.Proofs.Ytflehkbalnikiaa
