/- The laws' copies of lists of images and of regions. No statement is proved here. -/
import Derived.Test.YtnndifemkichmaaMA
import Derived.Test.YtnndifemkichmaaMB
import Derived.Test.YtnndifemkichmaaLk
import Derived.Test.YtnndifemkichmaaSlT
import Derived.Test.YtnndifemkichmaaProg
import Derived.WalkKit
import Derived.ProofKit
import Derived.OpenShut
import Derived.WalkLawsBesides
import Derived.WalkSpells
import Derived.ShutString
import Derived.ChangeOld
import Derived.Below
import Derived.Lib.Hide
import Derived.BigQuiet
import Derived.Deep.QuietTactic
import Derived.Maps.AppendAt
import Derived.Deep.OwnRows
import Derived.Handy
import Derived.Deep.Draws
import Derived.OwnWalk
import Derived.Deep.AppendLies
import Derived.Deep.LoopGhost
import Derived.Deep.Onto
import Derived.Deep.MidRow
import Derived.Deep.WholeRow
import Derived.Laws.BitsAllLaws
import Derived.Lib.QuoteBits
import Derived.Deep.RegionHeld3
import Derived.Deep.DeepCutAuto
import Derived.Test.YtnndifemkichmaaShelf
import Derived.Laws.CopyOwn
import Derived.Deep.RegionLaw
import Derived.Great.BuildSlice
import Derived.Laws.AppendOwn
namespace Go.Proofs.Ytnndifemkichmaa
open Go.RowKit
theorem infoim : (Try.prog.info? 58).map (fun i => (i.zero, i.size)) = some (some (.agg #[.int .i64 0, .int .i64 0, .slice none 0 0]), 3) := by kernel_rfl
theorem make_im (n : Nat) (hn : n ≤ 2097152) (W : World) : (Instr.makeSlice 32 (.int .i64 (n : Int)) (.int .i64 (n : Int))).run Try.prog W =
  .ok (.slice (some ⟨W.heap.size, 0, none⟩) n n) (W.alloc (.cells (madeCells #[.int .i64 0, .int .i64 0, .slice none 0 0] (n * 3)) 58)) := by
 obtain ⟨i0, hi, hz0, hz1⟩ : ∃ i0, Try.prog.info? 58 = some i0 ∧ i0.zero = some (.agg #[.int .i64 0, .int .i64 0, .slice none 0 0]) ∧ i0.size = 3 := by
  have h := infoim
  cases e : Try.prog.info? 58 with
  | none => rw [e] at h; simp at h
  | some i => rw [e] at h; simp at h; exact ⟨i, rfl, h.1, h.2⟩
 have hby : i0.bytes ≤ 1000 := by
  have h : (Try.prog.info? 58).map (fun i => decide (i.bytes ≤ 1000)) = some true := by kernel_rfl
  rw [hi] at h
  simpa using h
 have hbn : n * i0.bytes ≤ 2097152 * 1000 := Nat.mul_le_mul hn hby
 have hbn2 : i0.bytes * n ≤ 2097152 * 1000 := by rw [Nat.mul_comm]; exact hbn
 have h := run_make (P := Try.prog) W 32 58 i0 _ Try.underlying32 hi hz0 .i64 .i64 n n (by omega) (by omega) (by omega) (by omega)
 rw [hz1] at h
 simpa [Value.cells] using h
theorem slu_made_im (W : World) (n : Nat) (hn : n ≤ 2097152) : SlU repIm 58 3 (W.alloc (.cells (madeCells #[.int .i64 0, .int .i64 0, .slice none 0 0] (n * 3)) 58)) (List.replicate n (⟨0, 0, []⟩ : Im)) W.heap.size n n (List.replicate n [.int .i64 0, .int .i64 0, .slice none 0 0]) (List.replicate n []) := by
 refine ⟨rows_repl (show repIm.R _ (⟨0, 0, []⟩ : Im) [.int .i64 0, .int .i64 0, .slice none 0 0] [] from ⟨.slice none 0 0, rfl, .slice none 0 0, rfl, ⟨rfl, .inl ⟨rfl, rfl⟩⟩, rfl⟩) n, fun x hx => by rw [List.eq_of_mem_replicate hx]; rfl, ?_, by simp⟩
 refine ⟨by rw [flat_len (s := 3) fun x hx => by rw [List.eq_of_mem_replicate hx]; rfl, List.length_replicate], .inr ⟨W.heap.size, n, _, rfl, Nat.zero_le _, heap_alloc_new W _, Nat.le_refl _, by unfold maxLen; omega, size_madeCells _ _, ?_⟩⟩
 have h := made_rows (zs := [.int .i64 0, .int .i64 0, .slice none 0 0]) (n := n) (by simp)
 rw [List.take_of_length_le (by rw [Array.length_toList, size_madeCells]; exact Nat.le_refl _)]
 exact h
end Go.Proofs.Ytnndifemkichmaa
