/- The pixels of an image with a rectangle filled; a slice of one rectangle is built. No statement is proved here. -/
import Derived.Test.YtfolphadhmgbiaaMA
import Derived.Test.YtfolphadhmgbiaaImR
import Derived.Test.YtfolphadhmgbiaaImO
import Derived.Test.YtfolphadhmgbiaaImN
import Derived.Test.YtfolphadhmgbiaaImV
import Derived.Test.YtfolphadhmgbiaaProg
import Derived.WalkKit
import Derived.ProofKit
import Derived.OpenShut
import Derived.WalkLawsBesides
import Derived.WalkSpells
import Derived.ShutString
import Derived.ChangeOld
import Derived.Below
import Derived.Lib.Hide
import Derived.BigQuiet
import Derived.Deep.QuietTactic
import Derived.Maps.AppendAt
import Derived.Deep.OwnRows
import Derived.Handy
import Derived.Deep.Draws
import Derived.OwnWalk
import Derived.Deep.AppendLies
import Derived.Deep.LoopGhost
import Derived.Deep.Onto
import Derived.Laws.BitsAllLaws
import Derived.Lib.QuoteBits
import Derived.Test.YtfolphadhmgbiaaShelf
import Derived.Laws.CopyOwn
import Derived.Deep.RegionLaw
import Derived.Deep.RegionHeld3
import Derived.Deep.DeepCutAuto
import Derived.Great.BuildSlice
import Derived.Deep.MidRow
import Derived.Deep.WholeRow
import Derived.Laws.AppendOwn
namespace Go.Proofs.Ytfolphadhmgbiaa
open Go.RowKit
theorem flat_ok {W H p : Int} (h : szOk W H) (hp : pixOk p) : imOk W H (flatN W H p) :=
  ⟨h, by unfold flatN; rw [tabI_length]; exact Int.toNat_of_nonneg (sz_mul h).1, fun k x hx => by obtain ⟨j, _, rfl⟩ := tabI_mem (List.mem_of_getElem? hx); exact hp⟩
theorem run_build1 (r : Rc) (w : World) : (Instr.buildSlice 77 1 #[(0, .agg #[.int .i64 r.x, .int .i64 r.y, .int .i64 r.w, .int .i64 r.h])]).run Try.prog w = .ok (.slice (some ⟨w.heap.size, 0, none⟩) 1 1) (w.alloc (.cells #[.int .i64 r.x, .int .i64 r.y, .int .i64 r.w, .int .i64 r.h] 49)) := by
  kernel_rfl
theorem RdR.one {W : World} {g : Nat} {r : Rc} (h : RcAt W g r) : RdR W (.slice (some ⟨g, 0, none⟩) 1 1) [r] := by
  obtain ⟨h0, h1, h2, h3⟩ := h.cells
  refine ⟨by simp [maxLen], _, 1, rfl, fun _ => ⟨g, rfl, fun k s hs => ?_⟩⟩
  cases k with
  | zero => injection hs with hs; subst hs; exact ⟨h0, h1, h2, h3⟩
  | succ k => simp at hs
end Go.Proofs.Ytfolphadhmgbiaa
