/- Rows of a grid by value; the runs of a row, as a loop builds them: what holds between two rounds. No statement is proved here. -/
import Derived.Test.YtfehdcenmncbpabRectC
import Derived.Test.YtfehdcenmncbpabBlk4
import Derived.Test.YtfehdcenmncbpabRegM
import Derived.Test.YtfehdcenmncbpabGrid
import Derived.Test.YtfehdcenmncbpabHasC
import Derived.Test.YtfehdcenmncbpabRectEq
import Derived.Test.YtfehdcenmncbpabRds
import Derived.Test.YtfehdcenmncbpabRegP
import Derived.Test.YtfehdcenmncbpabProg
import Derived.WalkKit
import Derived.ProofKit
import Derived.OpenShut
import Derived.WalkLawsBesides
import Derived.WalkSpells
import Derived.ShutString
import Derived.ChangeOld
import Derived.Below
import Derived.Lib.Hide
import Derived.BigQuiet
import Derived.Deep.QuietTactic
import Derived.Maps.AppendAt
import Derived.Deep.Draws
import Derived.Deep.MidRow
import Derived.Deep.WholeRow
import Derived.Deep.OwnRows
import Derived.Deep.RegionHeld3
import Derived.Deep.DeepCutAuto
namespace Go.Proofs.Ytfehdcenmncbpab
open Go.RowKit
def rowCells0 (g : Nat → Bool) (y : Nat) : Array Value := Array.ofFn (n := 16) fun i => .bool (g (y * 16 + i.val))
theorem rowCells_ex (g : Nat → Bool) (y : Nat) : ∃ c : Array Value, c = rowCells0 g y := ⟨_, rfl⟩
/-- The cells of row y of a grid. -/
noncomputable def rowCells (g : Nat → Bool) (y : Nat) : Array Value := Classical.choose (rowCells_ex g y)
theorem rowCells_eq (g : Nat → Bool) (y : Nat) : rowCells g y = rowCells0 g y := Classical.choose_spec (rowCells_ex g y)
theorem rowCells_size (g : Nat → Bool) (y : Nat) : (rowCells g y).size = 16 := by rw [rowCells_eq]; simp [rowCells0]
theorem rowCells_get (g : Nat → Bool) (y k : Nat) (h : k < 16) : (rowCells g y)[k]? = some (.bool (g (y * 16 + k))) := by rw [rowCells_eq]; simp [rowCells0, h]
theorem GrAt.row_at {w : World} {b : Nat} {t : TypeId} {g : Nat → Bool} (h : GrAt w b t g) (y : Nat) (hy : y < 16) : w.rangeAt b (y * 16) (rowCells g y).toList := fun j v hv => by
  have hj : j < 16 := by have := (List.getElem?_eq_some_iff.1 hv).1; rw [Array.length_toList, rowCells_size] at this; exact this
  rw [Array.getElem?_toList, rowCells_get g y j hj] at hv
  rw [h.cell (y * 16 + j) (by omega), hv]
theorem infoRow : (Try.prog.info? 78).map (·.size) = some 16 := by kernel_rfl
/-- The load of a row out of the grid. -/
theorem wp_load_gridrow {op : Oper} {a : Act} {w : World} {K : Act → World → Prop} {Q : Exit → Act → World → Prop} (x : Operand) (ho : op.op = .load 78 x)
    (b y : Nat) (g : Nat → Bool) (t : TypeId) (hy : y < 16) (hx : a.eval x = .pointer (some ⟨b, y * 16, none⟩)) (hG : GrAt w b t g)
    (h : K (a.put op.dst (.agg (rowCells g y))) w) : op.wp Try.prog a w K Q :=
  wp_load_mid 78 x ho b (y * 16) hx (rowCells g y).toList _ (hG.row_at y hy) Try.underlying78 rfl (by rw [Array.length_toList, rowCells_size]; exact infoRow) (by simpa using h)
/-- A block that holds a row. -/
def RowAt (w : World) (b : Nat) (g : Nat → Bool) (y : Nat) : Prop := w.heap[b]? = some (.cells (rowCells g y) 78 (0, 0))
theorem RowAt.lt {w : World} {b y : Nat} {g : Nat → Bool} (h : RowAt w b g y) : b < w.heap.size := (Array.getElem?_eq_some_iff.1 h).1
theorem RowAt.cell {w : World} {b y : Nat} {g : Nat → Bool} (h : RowAt w b g y) (k : Nat) (hk : k < 16) : w.cell? ⟨b, k, none⟩ = some (.bool (g (y * 16 + k))) := by
  rw [cell_of_row w b k _ _ _ h, rowCells_get g y k hk]
theorem index_row (g : Nat → Bool) (y k : Nat) (hk : k < 16) (w : World) : (Instr.index 78 (.agg (rowCells g y)) (.int .i64 (k : Int))).run Try.prog w = .ok (.bool (g (y * 16 + k))) w := by
  have hn : 0 ≤ (k : Int) ∧ (k : Int) < ((16 : Nat) : Int) := by omega
  have hg := rowCells_get g y k hk
  simp [Instr.index, run_underlying Try.underlying78, asIntOf, hn, go_sem, hg]
  intro h16
  omega
/-- Between two rounds. -/
structure RunInv (g : Nat → Bool) (y h : Nat) (out : List Rc) (k : Nat) : Prop where
  it : iterI g y h out k = runs g y h 0
  wd : ∀ r ∈ out, 0 ≤ r.w ∧ r.w ≤ k
  ne : 0 < k → g (y * 16 + (k - 1)) = true → out ≠ []
  ln : out.length ≤ k
theorem RunInv.start (g : Nat → Bool) (y h : Nat) : RunInv g y h [] 0 := ⟨iterI_all g y h, fun r hr => (by cases hr), fun h0 => (by omega), Nat.le_refl _⟩
theorem RunInv.no {g : Nat → Bool} {y h k : Nat} {out : List Rc} (i : RunInv g y h out k) (hk : k < 16) (hg : g (y * 16 + k) = false) : RunInv g y h out (k + 1) := by
  refine ⟨by rw [← i.it, iterI_go _ _ _ _ _ hk, stepI_no hg], fun r hr => ?_, fun _ h1 => ?_, ?_⟩
  · have := i.wd r hr; push_cast; omega
  · rw [show k + 1 - 1 = k by omega, hg] at h1; cases h1
  · have := i.ln; omega
theorem RunInv.new {g : Nat → Bool} {y h k : Nat} {out : List Rc} (i : RunInv g y h out k) (hk : k < 16) (hg : g (y * 16 + k) = true) (hp : k = 0 ∨ g (y * 16 + (k - 1)) = false) : RunInv g y h (out ++ [⟨k, y, 0 + 1, h⟩]) (k + 1) := by
  refine ⟨by rw [← i.it, iterI_go _ _ _ _ _ hk, stepI_new hg hp]; rfl, fun r hr => ?_, fun _ _ => by simp, ?_⟩
  · rcases List.mem_append.1 hr with hr | hr
    · have := i.wd r hr; push_cast; omega
    · obtain rfl := List.mem_singleton.1 hr
      show (0 : Int) ≤ 0 + 1 ∧ (0 : Int) + 1 ≤ ((k + 1 : Nat) : Int)
      constructor <;> omega
  · have := i.ln; rw [List.length_append, List.length_singleton]; omega
theorem RunInv.more {g : Nat → Bool} {y h k : Nat} {out : List Rc} (i : RunInv g y h out k) (hk : k < 16) (hg : g (y * 16 + k) = true) (h0 : 0 < k) (hp : g (y * 16 + (k - 1)) = true) :
    ∃ (o : List Rc) (r : Rc), out = o ++ [r] ∧ 0 ≤ r.w ∧ r.w ≤ k ∧ RunInv g y h (o ++ [⟨r.x, r.y, r.w + 1, r.h⟩]) (k + 1) := by
  have hne := i.ne h0 hp
  have hw := i.wd (out.getLast hne) (List.getLast_mem hne)
  have e := (List.dropLast_concat_getLast hne).symm
  refine ⟨out.dropLast, out.getLast hne, e, hw.1, hw.2, ?_, fun r hr => ?_, fun _ _ => by simp, ?_⟩
  · rw [← i.it, iterI_go _ _ _ _ _ hk, stepI_more hg (fun hx => hx.elim (fun h1 => by omega) (fun h1 => by rw [hp] at h1; cases h1))]
    conv => rhs; rw [e]
    rw [bump_last]
  · rcases List.mem_append.1 hr with hr | hr
    · have := i.wd r ((List.dropLast_sublist out).subset hr); push_cast; omega
    · obtain rfl := List.mem_singleton.1 hr
      show (0 : Int) ≤ (out.getLast hne).w + 1 ∧ (out.getLast hne).w + 1 ≤ ((k + 1 : Nat) : Int)
      constructor <;> omega
  · have := i.ln
    have h2 := congrArg List.length e
    rw [List.length_append] at h2 ⊢
    simp only [List.length_singleton] at h2 ⊢
    omega
theorem RunInv.done {g : Nat → Bool} {y h k : Nat} {out : List Rc} (i : RunInv g y h out k) (hk : 16 ≤ k) : out = runs g y h 0 := by rw [← i.it, iterI_end _ _ _ _ _ hk]
/-- A list's cells, the last rectangle one place wider. -/
theorem rcs_bump (o : List Rc) (r : Rc) : (rcsCells (o ++ [r])).set (o.length * 4 + 2) (.int .i64 (r.w + 1)) = rcsCells (o ++ [⟨r.x, r.y, r.w + 1, r.h⟩]) := by
  rw [rcsCells_append, rcsCells_append, rcsCells_one, rcsCells_one, List.set_append_right _ _ (by rw [rcsCells_length]; omega), rcsCells_length]
  congr 1
  rw [show o.length * 4 + 2 - o.length * 4 = 2 by omega]
  rfl
theorem rcs_last (o : List Rc) (r : Rc) : (rcsCells (o ++ [r]))[o.length * 4 + 2]? = some (.int .i64 r.w) := by
  rw [rcs_get (o ++ [r]) o.length 2 r (by simp) (by omega)]
  rfl
end Go.Proofs.Ytfehdcenmncbpab
