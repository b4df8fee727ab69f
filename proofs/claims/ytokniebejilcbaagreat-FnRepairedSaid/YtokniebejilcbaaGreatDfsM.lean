/- What FnDifferences turns on: a filled image is valid, the difference of two images has as many points as they differ in, copying it makes them equal, the part that is the whole. No statement is proved here. -/
import Derived.Test.YtokniebejilcbaaGreatMA
import Derived.Test.YtokniebejilcbaaGreatMB
import Derived.Test.YtokniebejilcbaaGreatFilB
import Derived.Test.YtokniebejilcbaaGreatProg
import Derived.WalkKit
import Derived.ProofKit
import Derived.OpenShut
import Derived.WalkLawsBesides
import Derived.WalkSpells
import Derived.ShutString
import Derived.ChangeOld
import Derived.Below
import Derived.Lib.Hide
import Derived.BigQuiet
import Derived.Deep.QuietTactic
import Derived.Maps.AppendAt
import Derived.Deep.OwnRows
import Derived.Handy
import Derived.Deep.Draws
import Derived.OwnWalk
import Derived.Deep.AppendLies
import Derived.Deep.LoopGhost
import Derived.Deep.Onto
import Derived.Laws.BitsAllLaws
import Derived.Lib.QuoteBits
import Derived.Test.YtokniebejilcbaaGreatShelf
import Derived.Laws.CopyOwn
import Derived.Deep.RegionLaw
import Derived.Deep.RegionHeld3
import Derived.Deep.DeepCutAuto
import Derived.Great.BuildSlice
import Derived.Deep.MidRow
import Derived.Deep.WholeRow
import Derived.Laws.AppendOwn
namespace Go.Proofs.YtokniebejilcbaaGreat
open Go.RowKit
theorem fill_ok {X Y : Int} {L : List Int} (r : Rc) (p : Int) (h : imOk X Y L) : ∃ M, fillIm X Y L r p = ⟨X, Y, M⟩ ∧ imOk X Y M := by
 by_cases hp : pixOk p
 ·obtain ⟨W, H, rfl, rfl, wl, wh, hl, hh, hL⟩ := im_nat h
  refine ⟨_, fill_val W H L r p h hp hL wh hh, h.1, by rw [tabI_length]; exact h.2.1, fun k x hx => ?_⟩
  obtain ⟨j, hj, rfl⟩ := tabI_mem (List.mem_of_getElem? hx)
  unfold rectF
  split
  ·exact hp
  ·rw [List.getD_eq_getElem?_getD, List.getElem?_eq_getElem hj]; exact h.2.2 j _ (List.getElem?_eq_getElem hj)
 ·exact ⟨L, fill_no fun h' => hp h'.2.2, h⟩
theorem rowCnt_none (g : Nat → Bool) (y x : Nat) (h : ∀ p, p < 16 → g (y * 16 + p) = false) : rowCnt g y x = 0 := by
 fun_induction rowCnt g y x with
 | case1 x hx ih => rw [if_neg (by rw [h x hx]; simp), ih]; rfl
 | case2 x hx => rfl
end Go.Proofs.YtokniebejilcbaaGreat
