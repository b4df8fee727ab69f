/- Grids of 256 booleans in a block of memory. No statement is proved here. -/
import Derived.Test.YtfehdcenmncbpabRd
import Derived.Test.YtfehdcenmncbpabRectC
import Derived.Test.YtfehdcenmncbpabBlk4
import Derived.Test.YtfehdcenmncbpabRegM
import Derived.Test.YtfehdcenmncbpabProg
import Derived.WalkKit
import Derived.ProofKit
import Derived.OpenShut
import Derived.WalkLawsBesides
import Derived.WalkSpells
import Derived.ShutString
import Derived.ChangeOld
import Derived.Below
import Derived.Lib.Hide
import Derived.BigQuiet
import Derived.Deep.QuietTactic
import Derived.Maps.AppendAt
import Derived.Deep.Draws
import Derived.Deep.MidRow
import Derived.Deep.WholeRow
import Derived.Deep.OwnRows
namespace Go.Proofs.Ytfehdcenmncbpab
open Go.RowKit
/-- The cells of a grid, as a list of them is made; and behind a name that no walk can open. -/
def gCells0 (g : Nat → Bool) : Array Value := Array.ofFn (n := 256) fun i => .bool (g i.val)
theorem gCells_ex (g : Nat → Bool) : ∃ c : Array Value, c = gCells0 g := ⟨_, rfl⟩
noncomputable def gCells (g : Nat → Bool) : Array Value := Classical.choose (gCells_ex g)
theorem gCells_eq (g : Nat → Bool) : gCells g = gCells0 g := Classical.choose_spec (gCells_ex g)
theorem gCells_size (g : Nat → Bool) : (gCells g).size = 256 := by rw [gCells_eq]; simp [gCells0]
theorem gCells_get (g : Nat → Bool) (k : Nat) (h : k < 256) : (gCells g)[k]? = some (.bool (g k)) := by rw [gCells_eq]; simp [gCells0, h]
theorem gCells_ext {c : Array Value} {g : Nat → Bool} (hs : c.size = 256) (h : ∀ k, k < 256 → c[k]? = some (.bool (g k))) : c = gCells g := by
  apply Array.ext_getElem?
  intro i
  by_cases hi : i < 256
  · rw [h i hi, gCells_get g i hi]
  · rw [Array.getElem?_eq_none (by omega), Array.getElem?_eq_none (by rw [gCells_size]; omega)]
theorem gCells_congr {g g' : Nat → Bool} (h : ∀ k, k < 256 → g k = g' k) : gCells g = gCells g' :=
  gCells_ext (gCells_size g) fun k hk => by rw [gCells_get g k hk, h k hk]
theorem gCells_one (g : Nat → Bool) : (gCells g).all (·.oneCell') = true := by
  rw [Array.all_eq_true_iff_forall_mem]
  intro v hv
  rw [gCells_eq] at hv
  simp only [gCells0, Array.mem_ofFn] at hv
  obtain ⟨i, rfl⟩ := hv
  rfl
/-- The grid with point k set. -/
def gSet (g : Nat → Bool) (k : Nat) (b : Bool) : Nat → Bool := fun i => if i = k then b else g i
theorem gCells_set (g : Nat → Bool) (k : Nat) (b : Bool) : (gCells g).setIfInBounds k (.bool b) = gCells (gSet g k b) := by
  refine gCells_ext (by rw [Array.size_setIfInBounds, gCells_size]) fun i hi => ?_
  rw [Array.getElem?_setIfInBounds]
  unfold gSet
  by_cases e : k = i
  · subst e; simp [gCells_size, hi]
  · rw [if_neg e, if_neg (Ne.symm e), gCells_get g i hi]
/-- Block b holds the grid g (cells of type t). -/
def GrAt (w : World) (b : Nat) (t : TypeId) (g : Nat → Bool) : Prop := w.heap[b]? = some (.cells (gCells g) t (0, 0))
theorem GrAt.lt {w : World} {b : Nat} {t : TypeId} {g : Nat → Bool} (h : GrAt w b t g) : b < w.heap.size := (Array.getElem?_eq_some_iff.1 h).1
theorem GrAt.cell {w : World} {b : Nat} {t : TypeId} {g : Nat → Bool} (h : GrAt w b t g) (k : Nat) (hk : k < 256) : w.cell? ⟨b, k, none⟩ = some (.bool (g k)) := by
  rw [cell_of_row w b k _ t _ h, gCells_get g k hk]
theorem GrAt.frozen {w : World} {b : Nat} {t : TypeId} {g : Nat → Bool} (h : GrAt w b t g) (o : Nat) : w.frozen? ⟨b, o, none⟩ = false := by
  unfold GrAt at h; simp [World.frozen?, h]
theorem GrAt.below {w w' : World} {b B : Nat} {t : TypeId} {g : Nat → Bool} (h : GrAt w b t g) (hb : Below B w w') (hg : b < B) : GrAt w' b t g := (hb.block b hg).trans h
theorem GrAt.alloc {w : World} {b : Nat} {t : TypeId} {g : Nat → Bool} (h : GrAt w b t g) (o : Obj) : GrAt (w.alloc o) b t g := (Below.heap_alloc w o b h.lt).trans h
theorem GrAt.new (w : World) (t : TypeId) (g : Nat → Bool) : GrAt (w.alloc (.cells (gCells g) t)) w.heap.size t g := heap_alloc_new w _
theorem GrAt.newAt {w : World} {b : Nat} (h : w.heap.size = b) (t : TypeId) (g : Nat → Bool) : GrAt (w.alloc (.cells (gCells g) t)) b t g := h ▸ GrAt.new w t g
theorem GrAt.drew {w : World} {b : Nat} {t : TypeId} {g : Nat → Bool} (h : GrAt w b t g) : GrAt w.drew b t g := h
theorem GrAt.drewN {w : World} {b : Nat} {t : TypeId} {g : Nat → Bool} (h : GrAt w b t g) (n : Nat) : GrAt (w.drewN n) b t g := h
theorem GrAt.grown {w w' : World} {b : Nat} {t : TypeId} {g : Nat → Bool} {row : Option Nat} (h : GrAt w b t g) (hb : w.grownBy w' row) (hr : some b ≠ row) : GrAt w' b t g := (hb.block b h.lt hr).trans h
theorem GrAt.far {w : World} {b : Nat} {t : TypeId} {g : Nat → Bool} (h : GrAt w b t g) {p : Addr} (hp : b ≠ p.block) (v : Value) : GrAt (w.setCell p v) b t g := (Below.heap_setCell w p v b hp).trans h
theorem GrAt.set {w : World} {b : Nat} {t : TypeId} {g : Nat → Bool} (h : GrAt w b t g) (k : Nat) (v : Bool) : GrAt (w.setCell ⟨b, k, none⟩ (.bool v)) b t (gSet g k v) := by
  unfold GrAt
  rw [heap_setCell_same w b k _ t _ h, gCells_set]
theorem GrAt.congr {w : World} {b : Nat} {t : TypeId} {g g' : Nat → Bool} (h : GrAt w b t g) (e : ∀ k, k < 256 → g k = g' k) : GrAt w b t g' := by
  unfold GrAt; rw [← gCells_congr e]; exact h
theorem GrAt.row {w : World} {b : Nat} {t : TypeId} {g g' : Nat → Bool} (h : GrAt w b t g) : GrAt (w.setRow b (gCells g')) b t g' := setRow_heap w b _ _ t _ h
theorem below_setRow {B : Nat} {w0 w : World} {g : Nat} (h : Below B w0 w) (hg : B ≤ g) (cs : Array Value) : Below B w0 (w.setRow g cs) :=
  ⟨h.os, h.tape, h.output, by simpa using h.size, fun k hk => (setRow_other w g k cs (by omega)).trans (h.block k hk)⟩
theorem GrAt.of_row {w : World} {b : Nat} {t : TypeId} {f : Nat → Value} {g : Nat → Bool} (h : w.rowIs b t 256 f) (e : ∀ k, k < 256 → f k = .bool (g k)) : GrAt w b t g := by
  obtain ⟨c, hb, hs, hf⟩ := h
  have ec : c = gCells g := gCells_ext hs fun k hk => by rw [hf k hk, e k hk]
  unfold GrAt
  rw [hb, ec]
theorem infoBool : (Try.prog.info? 4).map (fun i => (i.zero, i.size, i.bytes)) = some (some (.bool false), 1, 1) := by kernel_rfl
theorem made_grid : madeCells #[.bool false] 256 = gCells (fun _ => false) := by
  have h := GrAt.of_row (g := fun _ => false) (World.rowIs_made default (.bool false) 256 0) (fun k _ => rfl)
  unfold GrAt at h
  rw [heap_alloc_new] at h
  exact (Obj.cells.inj (Option.some.inj h)).1
theorem make_grid (W : World) : (Instr.makeSlice 93 (.int .i64 256) (.int .i64 256)).run Try.prog W = .ok (.slice (some ⟨W.heap.size, 0, none⟩) 256 256) (W.alloc (.cells (gCells fun _ => false) 4)) := by
  have h := run_make_row' (P := Try.prog) 93 4 (.bool false) 1 Try.underlying93 infoBool rfl .i64 .i64 256 (by omega) (by omega) W
  rw [made_grid] at h
  exact h
/-- The grid after the rows above y, and of row y the places left of x, of a rectangle of the screen were marked. -/
def markG (g : Nat → Bool) (X Y W H y x k : Nat) : Bool :=
  g k || decide (X ≤ k % 16 ∧ k % 16 < X + W ∧ Y ≤ k / 16 ∧ k / 16 < Y + H ∧ (k / 16 < y ∨ k / 16 = y ∧ k % 16 < x))
theorem markG_start (g : Nat → Bool) (X Y W H k : Nat) : markG g X Y W H Y X k = g k := by
  unfold markG
  rw [decide_eq_false (by omega), Bool.or_false]
theorem markG_row (g : Nat → Bool) (X Y W H y k : Nat) : markG g X Y W H y (X + W) k = markG g X Y W H (y + 1) X k := by
  unfold markG
  congr 1
  rw [decide_eq_decide]
  omega
theorem markG_set (g : Nat → Bool) (X Y W H y x k : Nat) (hx : X ≤ x ∧ x < X + W) (hy : Y ≤ y ∧ y < Y + H) (h16 : X + W ≤ 16) :
    gSet (markG g X Y W H y x) (y * 16 + x) true k = markG g X Y W H y (x + 1) k := by
  unfold gSet
  split
  · rename_i e
    unfold markG
    rw [decide_eq_true (by omega), Bool.or_true]
  · rename_i e
    unfold markG
    congr 1
    rw [decide_eq_decide]
    have h2 : k / 16 * 16 + k % 16 = k := by omega
    constructor
    · rintro ⟨a, b, c, d, h⟩
      exact ⟨a, b, c, d, by omega⟩
    · rintro ⟨a, b, c, d, h⟩
      exact ⟨a, b, c, d, by
        rcases h with h | ⟨h, h'⟩
        · exact .inl h
        · by_cases hk : k % 16 = x
          · exact absurd (by rw [← h2, h, hk]) e
          · exact .inr ⟨h, by omega⟩⟩
end Go.Proofs.Ytfehdcenmncbpab
