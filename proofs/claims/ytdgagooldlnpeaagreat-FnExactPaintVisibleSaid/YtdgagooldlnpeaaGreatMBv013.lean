/- Texts of mine in one file: FilB, SclB. No statement is proved here. -/
import Derived.Test.YtdgagooldlnpeaaGreatMA
import Derived.Test.YtdgagooldlnpeaaGreatMB
import Derived.Test.YtdgagooldlnpeaaGreatMAv013
import Derived.Test.YtdgagooldlnpeaaGreatProg
import Derived.WalkKit
import Derived.ProofKit
import Derived.OpenShut
import Derived.WalkLawsBesides
import Derived.WalkSpells
import Derived.ShutString
import Derived.ChangeOld
import Derived.Below
import Derived.Lib.Hide
import Derived.BigQuiet
import Derived.Deep.QuietTactic
import Derived.Maps.AppendAt
import Derived.Deep.OwnRows
import Derived.Handy
import Derived.Deep.Draws
import Derived.OwnWalk
import Derived.Deep.AppendLies
import Derived.Deep.LoopGhost
import Derived.Deep.Onto
import Derived.Laws.BitsAllLaws
import Derived.Lib.QuoteBits
import Derived.Test.YtdgagooldlnpeaaGreatShelf
import Derived.Laws.CopyOwn
import Derived.Deep.RegionLaw
import Derived.Deep.RegionHeld3
import Derived.Deep.DeepCutAuto
import Derived.Great.BuildSlice
import Derived.Deep.MidRow
import Derived.Deep.WholeRow
import Derived.Laws.AppendOwn
namespace Go.Proofs.YtdgagooldlnpeaaGreat
open Go.RowKit
theorem flat_ok {W H p : Int} (h : szOk W H) (hp : pixOk p) : imOk W H (flatN W H p) :=
 ⟨h, by unfold flatN; rw [tabI_length]; exact Int.toNat_of_nonneg (sz_mul h).1, fun k x hx => by obtain ⟨j, _, rfl⟩ := tabI_mem (List.mem_of_getElem? hx); exact hp⟩
end Go.Proofs.YtdgagooldlnpeaaGreat
namespace Go.Proofs.YtdgagooldlnpeaaGreat
open Go.RowKit
theorem rs_len (S : Nat → Nat → Nat → Nat) (X Y : Int) (L : List Int) (w h : Int) : (rsIm S X Y L w h).d.length ≤ 256 := by
 by_cases c : imOk X Y L ∧ szOk w h
 ·obtain ⟨W, H, rfl, rfl, _⟩ := im_nat c.1
  obtain ⟨p, q, rfl, rfl, p1, p2, q1, q2⟩ := sz_nat c.2
  rw [rs_yes S c.1 c.2, tabI_length]; exact mul_256 p2 q2
 ·rw [rs_no S c]; simp [zeroIm]
end Go.Proofs.YtdgagooldlnpeaaGreat
