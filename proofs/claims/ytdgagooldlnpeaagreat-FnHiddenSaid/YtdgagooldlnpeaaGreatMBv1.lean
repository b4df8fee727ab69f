/- Texts of mine in one file: DfsM. No statement is proved here. -/
import Derived.Test.YtdgagooldlnpeaaGreatMA
import Derived.Test.YtdgagooldlnpeaaGreatProg
import Derived.WalkKit
import Derived.ProofKit
import Derived.OpenShut
import Derived.WalkLawsBesides
import Derived.WalkSpells
import Derived.ShutString
import Derived.ChangeOld
import Derived.Below
import Derived.Lib.Hide
import Derived.BigQuiet
import Derived.Deep.QuietTactic
import Derived.Maps.AppendAt
import Derived.Deep.OwnRows
import Derived.Handy
import Derived.Deep.Draws
import Derived.OwnWalk
import Derived.Deep.AppendLies
import Derived.Deep.LoopGhost
import Derived.Deep.Onto
import Derived.Laws.BitsAllLaws
import Derived.Lib.QuoteBits
import Derived.Test.YtdgagooldlnpeaaGreatShelf
import Derived.Laws.CopyOwn
import Derived.Deep.RegionLaw
import Derived.Deep.RegionHeld3
import Derived.Deep.DeepCutAuto
import Derived.Great.BuildSlice
import Derived.Deep.MidRow
import Derived.Deep.WholeRow
import Derived.Laws.AppendOwn
namespace Go.Proofs.YtdgagooldlnpeaaGreat
open Go.RowKit
theorem rowCnt_pos (g : Nat → Bool) (y x : Nat) : 0 ≤ rowCnt g y x := by
 fun_induction rowCnt g y x with
 | case1 x hx ih => split <;> omega
 | case2 x hx => omega
theorem cntRows_pos (g : Nat → Bool) (y : Nat) : 0 ≤ cntRows g y := by
 fun_induction cntRows g y with
 | case1 y hy ih => have := rowCnt_pos g y 0; omega
 | case2 y hy => omega
theorem rowCnt_zero (g : Nat → Bool) (y x : Nat) (h : rowCnt g y x = 0) : ∀ p, x ≤ p → p < 16 → g (y * 16 + p) = false := by
  fun_induction rowCnt g y x with
  | case1 x hx ih =>
    have hq := rowCnt_pos g y (x + 1)
    intro p h1 h2
    by_cases hg : g (y * 16 + x) = true
    · rw [if_pos hg] at h; omega
    · rw [if_neg hg] at h
      by_cases e : p = x
      · subst e; rcases hb : g (y * 16 + p) with _ | _
        · rfl
        · exact absurd hb hg
      · exact ih (by omega) p (by omega) h2
  | case2 x hx => intro p h1 h2; omega
theorem cntRows_zero (g : Nat → Bool) (y : Nat) (h : cntRows g y = 0) : ∀ q p, y ≤ q → q < 16 → p < 16 → g (q * 16 + p) = false := by
  fun_induction cntRows g y with
  | case1 y hy ih =>
    have h1 := rowCnt_pos g y 0
    have h2 := cntRows_pos g (y + 1)
    intro q p hq1 hq2 hp
    by_cases e : q = y
    · subst e; exact rowCnt_zero g q 0 (by omega) p (by omega) hp
    · exact ih (by omega) q p (by omega) hq2 hp
  | case2 y hy => intro q p h1 h2; omega
end Go.Proofs.YtdgagooldlnpeaaGreat
