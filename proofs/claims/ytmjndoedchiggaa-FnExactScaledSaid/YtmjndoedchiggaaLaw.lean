/- What the exact laws keep in memory besides images: a rectangle or a region that came in, a region in a variable; a variable that a statement in a free order makes. No statement is proved here. -/
import Derived.Test.YtmjndoedchiggaaMA
import Derived.Test.YtmjndoedchiggaaImR
import Derived.Test.YtmjndoedchiggaaImL
import Derived.Test.YtmjndoedchiggaaImV
import Derived.Test.YtmjndoedchiggaaProg
import Derived.WalkKit
import Derived.ProofKit
import Derived.OpenShut
import Derived.WalkLawsBesides
import Derived.WalkSpells
import Derived.ShutString
import Derived.ChangeOld
import Derived.Below
import Derived.Lib.Hide
import Derived.BigQuiet
import Derived.Deep.QuietTactic
import Derived.Maps.AppendAt
import Derived.Deep.OwnRows
import Derived.Handy
import Derived.Deep.Draws
import Derived.OwnWalk
import Derived.Deep.AppendLies
import Derived.Deep.LoopGhost
import Derived.Deep.Onto
import Derived.Deep.RegionHeld3
import Derived.Deep.DeepCutAuto
import Derived.Laws.BitsAllLaws
import Derived.Lib.QuoteBits
import Derived.Test.YtmjndoedchiggaaShelf
import Derived.Laws.CopyOwn
import Derived.Deep.RegionLaw
import Derived.Great.BuildSlice
import Derived.Deep.MidRow
import Derived.Deep.WholeRow
import Derived.Laws.AppendOwn
namespace Go.Proofs.Ytmjndoedchiggaa
open Go.RowKit
theorem ownA_ne {v : Value} {b : Nat} (h : ∀ g, v.ownBlock = some g → g ≠ b) : v.ownBlock = none ∨ v.ownBlock ≠ some b := by
  by_cases hv : v.ownBlock = none
  · exact .inl hv
  · exact .inr fun e => h b e rfl
theorem ImA.lt {b : Nat} {X Y : Int} {v : Value} {L : List Int} {W : World} (h : ImA b X Y v L W) : b < W.heap.size := h.at_.lt
theorem LcAt.callA {w w' : World} {g : Nat} {r : Rc} (h : LcAt w g r) (hb : Below w.heap.size w w') : LcAt w' g r := h.below hb h.lt
/-- A variable that was made and written in a free order, between the worlds W and V. -/
theorem ImV.made {W V : World} {b : Nat} {X Y : Int} {v : Value} {L : List Int} (hat : ImAt V b 26 X Y v) (hown : V.ownsRow W.heap.size 3 1 v L.length (intCells L)) (hb : W.heap.size ≤ b) (hn : ∀ k, v.ownBlock = some k → k ≠ b) :
    ImV W.heap.size V.heap.size b X Y v L V := ⟨hat, hown, hb, hat.lt, fun k hk => ⟨(hown.lt k hk).2, hn k hk⟩, Nat.le_refl _⟩
theorem lc_other {w w' : World} {g : Nat} {r : Rc} {row : Option Nat} (h : LcAt w g r) (hg : w.grownBy w' row) (hr : some g ≠ row) : LcAt w' g r := (hg.block g h.lt hr).trans h
theorem blk_call {w w' : World} {b : Nat} {o : Obj} (h : w.heap[b]? = some o) (hb : Below w.heap.size w w') : w'.heap[b]? = some o := (hb.block b (Array.getElem?_eq_some_iff.1 h).1).trans h
theorem markImI (B : Nat) (W H : Int) (v : Value) (L : List Int) (k0 : Nat) (ki : Int) (w : World) (hm : k0 + L.length ≤ 1000000000) (hk : ki = (k0 : Nat)) (hown : w.ownsRow B 3 1 v L.length (intCells L)) :
    Calls Try.prog 27 #[.agg #[.int .i64 W, .int .i64 H, v], .int .i64 ki] w fun ed w' => ed = .returned (.int .i64 ((k0 + L.length : Nat) : Int)) ∧ w'.ownsRow B 3 1 v L.length (intCells (marksI k0 L.length)) ∧ w.grownBy w' v.ownBlock := by
  subst hk
  exact markIm B W H v L k0 w hm hown
theorem markRgI (B : Nat) (v : Value) (L : List Rc) (k0 : Nat) (ki : Int) (w : World) (hm : k0 + L.length ≤ 1000000000) (hk : ki = (k0 : Nat)) (hown : w.ownsRow B 31 4 v L.length (rcsCells L)) :
    Calls Try.prog 33 #[.agg #[v], .int .i64 ki] w fun ed w' => ed = .returned (.int .i64 ((k0 + 4 * L.length : Nat) : Int)) ∧ w'.ownsRow B 31 4 v L.length (rcsCells (marksL k0 L.length)) ∧ w.grownBy w' v.ownBlock := by
  subst hk
  exact markRg B v L k0 w hm hown
theorem rg_new {w : World} {g : Nat} (h : w.heap.size = g) (v : Value) : (w.alloc (.cells #[v] 50)).heap[g]? = some (.cells #[v] 50 (0, 0)) := h ▸ heap_alloc_new w _
/-- Block b holds a region that came in; its slice reads L. -/
structure RgA (b : Nat) (v : Value) (L : List Rc) (W : World) : Prop where
  at_ : W.heap[b]? = some (.cells #[v] 50 (0, 0))
  rd : LdR W v L
theorem RgA.call {b : Nat} {v : Value} {L : List Rc} {W W' : World} (h : RgA b v L W) (hb : Below W.heap.size W W') : RgA b v L W' :=
  ⟨(hb.block b (Array.getElem?_eq_some_iff.1 h.at_).1).trans h.at_, h.rd.call hb⟩
theorem RgA.lt {b : Nat} {v : Value} {L : List Rc} {W : World} (h : RgA b v L W) : b < W.heap.size := (Array.getElem?_eq_some_iff.1 h.at_).1
theorem RgA.cell {b : Nat} {v : Value} {L : List Rc} {W : World} (h : RgA b v L W) : W.cell? ⟨b, 0, none⟩ = some v := by rw [cell_of_row _ _ _ _ _ _ h.at_]; rfl
/-- A region in a variable of its own, born between the sizes lo and hi of the memory. -/
structure RgV (lo hi b : Nat) (v : Value) (L : List Rc) (W : World) : Prop where
  at_ : W.heap[b]? = some (.cells #[v] 34 (0, 0))
  own : W.ownsRow lo 31 4 v L.length (rcsCells L)
  lb : lo ≤ b
  hb : b < hi
  hk : ∀ k, v.ownBlock = some k → k < hi ∧ k ≠ b
  hs : hi ≤ W.heap.size
theorem RgV.lt {lo hi b : Nat} {v : Value} {L : List Rc} {W : World} (h : RgV lo hi b v L W) : b < W.heap.size := Nat.lt_of_lt_of_le h.hb h.hs
theorem RgV.call {lo hi b : Nat} {v : Value} {L : List Rc} {W W' : World} (h : RgV lo hi b v L W) (k : Below W.heap.size W W') : RgV lo hi b v L W' :=
  ⟨(k.block b h.lt).trans h.at_, ownI_call h.own k, h.lb, h.hb, h.hk, Nat.le_trans h.hs k.size⟩
theorem RgV.rd {lo hi b : Nat} {v : Value} {L : List Rc} {W : World} (h : RgV lo hi b v L W) : RdR W v L := RdR.of_own h.own
theorem RgV.cell {lo hi b : Nat} {v : Value} {L : List Rc} {W : World} (h : RgV lo hi b v L W) : W.cell? ⟨b, 0, none⟩ = some v := by rw [cell_of_row _ _ _ _ _ _ h.at_]; rfl
theorem RgV.row {lo hi b : Nat} {v : Value} {L : List Rc} {W : World} (h : RgV lo hi b v L W) : ∀ k, v.ownBlock = some k → lo ≤ k ∧ k < hi := fun k hk => ⟨(h.own.lt k hk).1, (h.hk k hk).1⟩
theorem RgV.other {lo hi b : Nat} {v : Value} {L : List Rc} {W W' : World} {row : Option Nat} (h : RgV lo hi b v L W) (hg : W.grownBy W' row) (hr : ∀ k, row = some k → k < lo ∨ hi ≤ k) : RgV lo hi b v L W' := by
  refine ⟨(hg.block b h.lt (fun e => ?_)).trans h.at_, h.own.kept hg ?_, h.lb, h.hb, h.hk, Nat.le_trans h.hs hg.size⟩
  · have := hr _ e.symm; have := h.lb; have := h.hb; omega
  · by_cases hv : v.ownBlock = none
    · exact .inl hv
    · obtain ⟨k, hk⟩ := Option.ne_none_iff_exists'.1 hv
      refine .inr fun e => ?_
      rw [hk] at e
      have h1 := hr k e.symm
      have h2 := h.row k hk
      omega
theorem RgV.mark {lo hi b : Nat} {v : Value} {L M : List Rc} {W W' : World} (h : RgV lo hi b v L W) (hown : W'.ownsRow lo 31 4 v L.length (rcsCells M)) (hl : M.length = L.length) (hg : W.grownBy W' v.ownBlock) : RgV lo hi b v M W' :=
  ⟨(hg.block b h.lt (fun e => (h.hk _ e.symm).2 rfl)).trans h.at_, by rw [hl]; exact hown, h.lb, h.hb, h.hk, Nat.le_trans h.hs hg.size⟩
theorem RgV.born {v : Value} {L : List Rc} {W W' : World} (hk : Below W.heap.size W W') (hown : W'.ownsRow W.heap.size 31 4 v L.length (rcsCells L)) :
    RgV W.heap.size (W'.heap.size + 1) W'.heap.size v L (W'.alloc (.cells #[v] 34)) :=
  ⟨heap_alloc_new _ _, hown.alloc _, hk.size, Nat.lt_succ_self _, fun k hk => by have := hown.lt k hk; omega, by simp⟩
theorem RgV.made {W V : World} {b : Nat} {v : Value} {L : List Rc} (hat : V.heap[b]? = some (.cells #[v] 34 (0, 0))) (hown : V.ownsRow W.heap.size 31 4 v L.length (rcsCells L)) (hb : W.heap.size ≤ b) (hn : ∀ k, v.ownBlock = some k → k ≠ b) :
    RgV W.heap.size V.heap.size b v L V := ⟨hat, hown, hb, (Array.getElem?_eq_some_iff.1 hat).1, fun k hk => ⟨(hown.lt k hk).2, hn k hk⟩, Nat.le_refl _⟩
theorem belR_mark {w W W' : World} {lo hi b : Nat} {v : Value} {L : List Rc} (hw : Below w.heap.size w W) (h : RgV lo hi b v L W) (hlo : w.heap.size ≤ lo) (hg : W.grownBy W' v.ownBlock) : Below w.heap.size w W' :=
  hw.grown hg hw.size (fun k hk => by have := (h.row k hk).1; omega)
theorem zero34 (w : World) : (zeroValue 34).run Try.prog w = .ok (.agg #[.slice none 0 0]) w := by kernel_rfl
theorem size34 : (Try.prog.info? 34).map (·.size) = some 1 := by kernel_rfl
theorem wp_alloc_rgv {op : Oper} {a : Act} {w : World} {K : Act → World → Prop} {Q : Exit → Act → World → Prop} (d : Nat) (ho : op.op = .alloc 34) (hd : op.dst = some d)
    (h : ∀ b W', Below w.heap.size w W' → W'.heap[b]? = some (.cells #[.slice none 0 0] 34 (0, 0)) → w.heap.size ≤ b → K (a.put (some d) (.pointer (some ⟨b, 0, none⟩))) W') : op.wp Try.prog a w K Q := by
  have h1 := h w.heap.size (w.alloc (.cells #[.slice none 0 0] 34)) (belI_box _ _) (heap_alloc_new w _) (Nat.le_refl _)
  have hz := zero34 w
  unfold Oper.wp execOp
  simp only [ho, Instr.alloc, Sem.run_bind, hz, Result.andThen_ok, Sem.run_pure]
  rw [← hd] at h1
  exact h1
theorem wp_store_rgv {op : Oper} {a : Act} {w : World} {K : Act → World → Prop} {Q : Exit → Act → World → Prop} (x y : Operand) (ho : op.op = .store 34 x y)
    (b : Nat) (v0 : Value) (A : Option Addr) (n c : Nat) (hx : a.eval x = .pointer (some ⟨b, 0, none⟩)) (hy : a.eval y = .agg #[.slice A n c]) (hI : w.heap[b]? = some (.cells #[v0] 34 (0, 0)))
    (h : ∀ W', W'.heap[b]? = some (.cells #[.slice A n c] 34 (0, 0)) → w.grownBy W' (some b) → K (a.put op.dst undef) W') : op.wp Try.prog a w K Q := by
  have hs : (storeVar 34 ⟨b, 0, none⟩ (.agg #[.slice A n c])).run Try.prog w = .ok () (w.setRow b #[.slice A n c]) :=
    run_storeVar_row w b _ _ #[v0] #[.slice A n c] hI size34 rfl (by simp [Value.oneCell'])
  have h1 := h (w.setRow b #[.slice A n c]) (setRow_heap w b _ _ _ _ hI) ⟨rfl, rfl, rfl, by simp [World.setRow], fun k _ hk => setRow_other w b k _ (fun e => hk (by rw [e]))⟩
  unfold Oper.wp execOp
  simp only [ho, hx, hy, Instr.storeAt, Instr.sureAddr, Sem.run_bind, Sem.run_pure, Result.andThen_ok, hs]
  exact h1
end Go.Proofs.Ytmjndoedchiggaa
