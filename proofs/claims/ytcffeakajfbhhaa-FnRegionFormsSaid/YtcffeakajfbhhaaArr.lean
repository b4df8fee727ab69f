/- The whole array of points by value: its zero value, loads and stores. No statement is proved here. -/
import Derived.Test.YtcffeakajfbhhaaGrid
namespace Go.Proofs.Ytcffeakajfbhhaa
open Go.RowKit
theorem infoGrid : (Try.prog.info? 63).map (fun i => (i.zero, i.size)) = some (some (.agg (gCells fun _ => false)), 256) := by
  rw [gCells_eq]
  kernel_rfl
theorem zeroGrid (w : World) : (zeroValue 63).run Try.prog w = .ok (.agg (gCells fun _ => false)) w := (zero_of_info infoGrid).1 w
theorem sizeGrid (g : Nat → Bool) : (Try.prog.info? 63).map (·.size) = some (gCells g).size := by rw [gCells_size]; exact (zero_of_info infoGrid).2
theorem loadGrid {w : World} {b : Nat} {g : Nat → Bool} (h : GrAt w b 63 g) : (loadVar 63 ⟨b, 0, none⟩).run Try.prog w = .ok (.agg (gCells g)) w :=
  run_loadVar_row w b _ _ (gCells g) _ _ h Try.underlying63 rfl (sizeGrid g)
theorem loadAtGrid {w : World} {b : Nat} {g : Nat → Bool} (h : GrAt w b 63 g) : (Instr.loadAt 63 (.pointer (some ⟨b, 0, none⟩))).run Try.prog w = .ok (.agg (gCells g)) w := by
  simp only [Instr.loadAt, Instr.sureAddr, Sem.run_bind, Sem.run_pure, Result.andThen_ok, loadGrid h]
theorem storeGrid {w : World} {b : Nat} {g : Nat → Bool} (h : GrAt w b 63 g) (g' : Nat → Bool) : (storeVar 63 ⟨b, 0, none⟩ (.agg (gCells g'))).run Try.prog w = .ok () (w.setRow b (gCells g')) :=
  run_storeVar_row w b _ _ (gCells g) (gCells g') h (sizeGrid g') (by rw [gCells_size, gCells_size]) (gCells_one g')
theorem storeAtGrid {w : World} {b : Nat} {g : Nat → Bool} (h : GrAt w b 63 g) (g' : Nat → Bool) : (Instr.storeAt 63 (.pointer (some ⟨b, 0, none⟩)) (.agg (gCells g'))).run Try.prog w = .ok () (w.setRow b (gCells g')) := by
  simp only [Instr.storeAt, Instr.sureAddr, Sem.run_bind, Sem.run_pure, Result.andThen_ok, storeGrid h g']
theorem storeCellsGrid {w : World} {b : Nat} {g : Nat → Bool} (h : GrAt w b 63 g) (g' : Nat → Bool) : (storeCells ⟨b, 0, none⟩ (gCells g').toList 0).run Try.prog w = .ok () (w.setRow b (gCells g')) := by
  have := storeGrid h g'
  have hi := sizeGrid g'
  cases hq : Try.prog.info? 63 with
  | none => simp [hq] at hi
  | some i =>
    have hs : (gCells g').size = i.size := by simp [hq] at hi; omega
    simpa [storeVar, sizeOf, typeInfo, hq, Value.cells, hs] using this
/-- THE OPERATIONS, as the walk meets them. -/
theorem wp_load_grid {op : Oper} {a : Act} {w : World} {K : Act → World → Prop} {Q : Exit → Act → World → Prop} (x : Operand) (ho : op.op = .load 63 x)
    (b : Nat) (g : Nat → Bool) (hx : a.eval x = .pointer (some ⟨b, 0, none⟩)) (hG : GrAt w b 63 g)
    (h : K (a.put op.dst (.agg (gCells g))) w) : op.wp Try.prog a w K Q := by
  unfold Oper.wp execOp
  simp only [ho, hx, Instr.loadAt, Instr.sureAddr, Sem.run_bind, Sem.run_pure, Result.andThen_ok, loadGrid hG]
  exact h
theorem wp_store_grid {op : Oper} {a : Act} {w : World} {K : Act → World → Prop} {Q : Exit → Act → World → Prop} (x y : Operand) (ho : op.op = .store 63 x y)
    (b : Nat) (g g' : Nat → Bool) (hx : a.eval x = .pointer (some ⟨b, 0, none⟩)) (hy : a.eval y = .agg (gCells g')) (hG : GrAt w b 63 g)
    (h : K (a.put op.dst undef) (w.setRow b (gCells g'))) : op.wp Try.prog a w K Q := by
  unfold Oper.wp execOp
  simp only [ho, hx, hy, Instr.storeAt, Instr.sureAddr, Sem.run_bind, Sem.run_pure, Result.andThen_ok, storeGrid hG g']
  exact h
end Go.Proofs.Ytcffeakajfbhhaa
