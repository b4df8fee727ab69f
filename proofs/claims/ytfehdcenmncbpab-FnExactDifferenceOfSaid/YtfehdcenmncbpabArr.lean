/- The whole array of points by value: its zero value, loads and stores. No statement is proved here. -/
import Derived.Test.YtfehdcenmncbpabRectC
import Derived.Test.YtfehdcenmncbpabBlk4
import Derived.Test.YtfehdcenmncbpabRegM
import Derived.Test.YtfehdcenmncbpabGrid
import Derived.Test.YtfehdcenmncbpabProg
import Derived.WalkKit
import Derived.ProofKit
import Derived.OpenShut
import Derived.WalkLawsBesides
import Derived.WalkSpells
import Derived.ShutString
import Derived.ChangeOld
import Derived.Below
import Derived.Lib.Hide
import Derived.BigQuiet
import Derived.Deep.QuietTactic
import Derived.Maps.AppendAt
import Derived.Deep.Draws
import Derived.Deep.MidRow
import Derived.Deep.WholeRow
import Derived.Deep.OwnRows
namespace Go.Proofs.Ytfehdcenmncbpab
open Go.RowKit
theorem infoGrid : (Try.prog.info? 80).map (fun i => (i.zero, i.size)) = some (some (.agg (gCells fun _ => false)), 256) := by
  rw [gCells_eq]
  kernel_rfl
theorem zeroGrid (w : World) : (zeroValue 80).run Try.prog w = .ok (.agg (gCells fun _ => false)) w := (zero_of_info infoGrid).1 w
theorem sizeGrid (g : Nat → Bool) : (Try.prog.info? 80).map (·.size) = some (gCells g).size := by rw [gCells_size]; exact (zero_of_info infoGrid).2
theorem loadGrid {w : World} {b : Nat} {g : Nat → Bool} (h : GrAt w b 80 g) : (loadVar 80 ⟨b, 0, none⟩).run Try.prog w = .ok (.agg (gCells g)) w :=
  run_loadVar_row w b _ _ (gCells g) _ _ h Try.underlying80 rfl (sizeGrid g)
theorem storeGrid {w : World} {b : Nat} {g : Nat → Bool} (h : GrAt w b 80 g) (g' : Nat → Bool) : (storeVar 80 ⟨b, 0, none⟩ (.agg (gCells g'))).run Try.prog w = .ok () (w.setRow b (gCells g')) :=
  run_storeVar_row w b _ _ (gCells g) (gCells g') h (sizeGrid g') (by rw [gCells_size, gCells_size]) (gCells_one g')
theorem storeCellsGrid {w : World} {b : Nat} {g : Nat → Bool} (h : GrAt w b 80 g) (g' : Nat → Bool) : (storeCells ⟨b, 0, none⟩ (gCells g').toList 0).run Try.prog w = .ok () (w.setRow b (gCells g')) := by
  have := storeGrid h g'
  have hi := sizeGrid g'
  cases hq : Try.prog.info? 80 with
  | none => simp [hq] at hi
  | some i =>
    have hs : (gCells g').size = i.size := by simp [hq] at hi; omega
    simpa [storeVar, sizeOf, typeInfo, hq, Value.cells, hs] using this
/-- THE OPERATIONS, as the walk meets them. -/
theorem wp_load_grid {op : Oper} {a : Act} {w : World} {K : Act → World → Prop} {Q : Exit → Act → World → Prop} (x : Operand) (ho : op.op = .load 80 x)
    (b : Nat) (g : Nat → Bool) (hx : a.eval x = .pointer (some ⟨b, 0, none⟩)) (hG : GrAt w b 80 g)
    (h : K (a.put op.dst (.agg (gCells g))) w) : op.wp Try.prog a w K Q := by
  unfold Oper.wp execOp
  simp only [ho, hx, Instr.loadAt, Instr.sureAddr, Sem.run_bind, Sem.run_pure, Result.andThen_ok, loadGrid hG]
  exact h
end Go.Proofs.Ytfehdcenmncbpab
