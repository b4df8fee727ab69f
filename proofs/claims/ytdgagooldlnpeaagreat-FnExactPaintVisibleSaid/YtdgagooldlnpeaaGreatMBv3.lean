/- Texts of mine in one file: FilB, DfsM. No statement is proved here. -/
import Derived.Test.YtdgagooldlnpeaaGreatMA
import Derived.Test.YtdgagooldlnpeaaGreatMAv023
import Derived.Test.YtdgagooldlnpeaaGreatMB
import Derived.Test.YtdgagooldlnpeaaGreatProg
import Derived.WalkKit
import Derived.ProofKit
import Derived.OpenShut
import Derived.WalkLawsBesides
import Derived.WalkSpells
import Derived.ShutString
import Derived.ChangeOld
import Derived.Below
import Derived.Lib.Hide
import Derived.BigQuiet
import Derived.Deep.QuietTactic
import Derived.Maps.AppendAt
import Derived.Deep.OwnRows
import Derived.Handy
import Derived.Deep.Draws
import Derived.OwnWalk
import Derived.Deep.AppendLies
import Derived.Deep.LoopGhost
import Derived.Deep.Onto
import Derived.Laws.BitsAllLaws
import Derived.Lib.QuoteBits
import Derived.Test.YtdgagooldlnpeaaGreatShelf
import Derived.Laws.CopyOwn
import Derived.Deep.RegionLaw
import Derived.Deep.RegionHeld3
import Derived.Deep.DeepCutAuto
import Derived.Great.BuildSlice
import Derived.Deep.MidRow
import Derived.Deep.WholeRow
import Derived.Laws.AppendOwn
namespace Go.Proofs.YtdgagooldlnpeaaGreat
open Go.RowKit
theorem wp_build1 {op : Oper} {a : Act} {w : World} {K : Act → World → Prop} {Q : Exit → Act → World → Prop} (d : Nat) (x : Operand) (r : Rc) (ho : op.op = .buildSlice 28 1 #[(0, x)]) (hx : a.eval x = .agg #[.int .i64 r.x, .int .i64 r.y, .int .i64 r.w, .int .i64 r.h]) (hd : op.dst = some d)
  (h : ∀ g W', Below w.heap.size w W' → RdR W' (.slice (some ⟨g, 0, none⟩) 1 1) [r] → K (a.put (some d) (.slice (some ⟨g, 0, none⟩) 1 1)) W') : op.wp Tryz.prog a w K Q := by
 have h1 := h w.heap.size (w.alloc (.cells #[.int .i64 r.x, .int .i64 r.y, .int .i64 r.w, .int .i64 r.h] 113)) (belI_box _ _) (RdR.one (RcAt.new w r))
 have hz := run_build1 r w
 unfold Oper.wp execOp
 simp only [ho, List.map_toArray, List.map_cons, List.map_nil, hx, Sem.run_bind, hz, Result.andThen_ok, Sem.run_pure]
 rw [← hd] at h1
 exact h1
end Go.Proofs.YtdgagooldlnpeaaGreat
namespace Go.Proofs.YtdgagooldlnpeaaGreat
open Go.RowKit
theorem rowCnt_none (g : Nat → Bool) (y x : Nat) (h : ∀ p, p < 16 → g (y * 16 + p) = false) : rowCnt g y x = 0 := by
 fun_induction rowCnt g y x with
 | case1 x hx ih => rw [if_neg (by rw [h x hx]; simp), ih]; rfl
 | case2 x hx => rfl
end Go.Proofs.YtdgagooldlnpeaaGreat
