/- Scaled and tiled pictures: their pixels, and what a call keeps while it gathers them. No statement is proved here. -/
import Derived.Test.YtaggldhlnjbnhaaRd
import Derived.Test.YtaggldhlnjbnhaaIntR
import Derived.Test.YtaggldhlnjbnhaaImR
import Derived.Test.YtaggldhlnjbnhaaRectC
import Derived.Test.YtaggldhlnjbnhaaPixM
import Derived.Test.YtaggldhlnjbnhaaImV
import Derived.Test.YtaggldhlnjbnhaaImD
import Derived.Test.YtaggldhlnjbnhaaBlk4
import Derived.Test.YtaggldhlnjbnhaaRectEq
import Derived.Test.YtaggldhlnjbnhaaBk
import Derived.Test.YtaggldhlnjbnhaaHasC
import Derived.Test.YtaggldhlnjbnhaaRegM
import Derived.Test.YtaggldhlnjbnhaaRds
import Derived.Test.YtaggldhlnjbnhaaFilB
import Derived.Test.YtaggldhlnjbnhaaCrpB
import Derived.Test.YtaggldhlnjbnhaaProg
import Derived.WalkKit
import Derived.ProofKit
import Derived.OpenShut
import Derived.WalkLawsBesides
import Derived.WalkSpells
import Derived.ShutString
import Derived.ChangeOld
import Derived.Below
import Derived.Lib.Hide
import Derived.Deep.MidRow
import Derived.Deep.WholeRow
import Derived.Maps.AppendAt
import Derived.BigQuiet
import Derived.Deep.QuietTactic
import Derived.Deep.OwnRows
import Derived.Handy
import Derived.Deep.Draws
import Derived.OwnWalk
import Derived.Deep.AppendLies
import Derived.Deep.LoopGhost
import Derived.Deep.Onto
import Derived.Laws.BitsAllLaws
import Derived.Lib.QuoteBits
import Derived.Deep.RegionHeld3
import Derived.Deep.DeepCutAuto
import Derived.Test.YtaggldhlnjbnhaaShelf
import Derived.Laws.CopyOwn
import Derived.Deep.RegionLaw
import Derived.Great.BuildSlice
import Derived.Laws.AppendOwn
namespace Go.Proofs.Ytaggldhlnjbnhaa
open Go.RowKit
theorem tabI_succ (n : Nat) (f : Nat → Int) : tabI (n + 1) f = tabI n f ++ [f n] := by simp [tabI, List.range_succ]
theorem RdI.cell {w : World} {g n c k : Nat} {L : List Int} {x : Int} (h : RdI w (.slice (some ⟨g, 0, none⟩) n c) L) (hx : L[k]? = some x) : w.cell? ⟨g, k, none⟩ = some (.int .i64 x) := by
  have hk : k < L.length := (List.getElem?_eq_some_iff.1 hx).1
  rcases h with ⟨_, rfl⟩ | ⟨g', c', he, hm, hlc, hc⟩
  · simp at hk
  · injection he with e1 e2 e3
    injection e1 with e1
    injection e1 with e1
    subst e1
    exact hc k x hx
theorem RdI.one {w : World} {g : Nat} {t : TypeId} {z : Int} (h : w.heap[g]? = some (.cells #[.int .i64 z] t (0, 0))) : RdI w (.slice (some ⟨g, 0, none⟩) 1 1) [z] := by
  refine .inr ⟨g, 1, rfl, by unfold maxLen; simp, by simp, fun k x hx => ?_⟩
  cases k with
  | zero => injection hx with hx; subst hx; simp [World.cell?, h]
  | succ k => simp at hx
theorem run_build1I (z : Int) (w : World) : (Instr.buildSlice 26 1 #[(0, .int .i64 z)]).run Try.prog w = .ok (.slice (some ⟨w.heap.size, 0, none⟩) 1 1) (w.alloc (.cells #[.int .i64 z] 3)) := by
  kernel_rfl
/-- A slice of one number is made, in a free order. -/
theorem wp_build1I {op : Oper} {a : Act} {w : World} {K : Act → World → Prop} {Q : Exit → Act → World → Prop} (d : Nat) (x : Operand) (z : Int) (ho : op.op = .buildSlice 26 1 #[(0, x)]) (hx : a.eval x = .int .i64 z) (hd : op.dst = some d)
    (h : ∀ g W', Below w.heap.size w W' → RdI W' (.slice (some ⟨g, 0, none⟩) 1 1) [z] → K (a.put (some d) (.slice (some ⟨g, 0, none⟩) 1 1)) W') : op.wp Try.prog a w K Q := by
  have h1 := h w.heap.size (w.alloc (.cells #[.int .i64 z] 3)) (belI_box _ _) (RdI.one (heap_alloc_new w _))
  have hz := run_build1I z w
  unfold Oper.wp execOp
  simp only [ho, List.map_toArray, List.map_cons, List.map_nil, hx, Sem.run_bind, hz, Result.andThen_ok, Sem.run_pure]
  rw [← hd] at h1
  exact h1
/-- append of one number to a slice of the call's own, in a free order. -/
theorem wp_append1I {o : Oper} {a : Act} {w : World} {K : Act → World → Prop} {Q : Exit → Act → World → Prop} (s x : Operand)
    (ho : o.op = .call { callee := .builtin .append, args := #[s, x], argTypes := #[26, 26] })
    (base : Nat) (v : Value) (n : Nat) (M : List Int) (hs : a.eval s = v) (hown : w.ownsRow base 3 1 v n (intCells M)) (g : Nat) (z : Int)
    (hx : a.eval x = .slice (some ⟨g, 0, none⟩) 1 1) (hu : RdI w (.slice (some ⟨g, 0, none⟩) 1 1) [z]) (h63 : n ≤ 1000000) (hbase : base ≤ w.heap.size)
    (h : ∀ g' c' w', w'.ownsRow base 3 1 (.slice (some ⟨g', 0, none⟩) (n + 1) c') (n + 1) (intCells (M ++ [z])) → w.grownBy w' v.ownBlock → K (a.put o.dst (.slice (some ⟨g', 0, none⟩) (n + 1) c')) w') : o.wp Try.prog a w K Q := by
  refine wp_appendI s x ho base v n (intCells M) hs hown (.slice (some ⟨g, 0, none⟩) 1 1) [z] hx hu (by simp; omega) hbase (fun v' w' h1 h2 _ => ?_)
  rw [← intCells_append, show n + [z].length = n + 1 from rfl] at h1
  obtain ⟨g', c', rfl, _, _⟩ := h1.form (by omega)
  exact h g' c' w' h1 h2
end Go.Proofs.Ytaggldhlnjbnhaa
