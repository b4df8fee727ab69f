/- The contracts of ColorImage, of the program and of its model. No statement is proved here. -/
import Derived.Test.YtokniebejilcbaaGreatMA
import Derived.Test.YtokniebejilcbaaGreatMC
import Derived.Test.YtokniebejilcbaaGreatOrdS
import Derived.Test.YtokniebejilcbaaGreatOrdI
import Derived.Test.YtokniebejilcbaaGreatProg
import Derived.WalkKit
import Derived.ProofKit
import Derived.OpenShut
import Derived.WalkLawsBesides
import Derived.WalkSpells
import Derived.ShutString
import Derived.ChangeOld
import Derived.Below
import Derived.Lib.Hide
import Derived.BigQuiet
import Derived.Deep.QuietTactic
import Derived.Maps.AppendAt
import Derived.Deep.OwnRows
import Derived.Handy
import Derived.Deep.Draws
import Derived.OwnWalk
import Derived.Deep.AppendLies
import Derived.Deep.LoopGhost
import Derived.Deep.Onto
import Derived.Laws.BitsAllLaws
import Derived.Lib.QuoteBits
import Derived.Test.YtokniebejilcbaaGreatShelf
import Derived.Laws.CopyOwn
import Derived.Deep.RegionLaw
import Derived.Deep.RegionHeld3
import Derived.Deep.DeepCutAuto
import Derived.Great.BuildSlice
import Derived.Deep.MidRow
import Derived.Deep.WholeRow
import Derived.Laws.AppendOwn
import Derived.ChangeKeysEq
namespace Go.Proofs.YtokniebejilcbaaGreat
open Go.RowKit
theorem map_tab (L : List Int) (f : Int → Int) : L.map f = tabI L.length (fun k => f (L.getD k 0)) := tabI_ext (List.length_map ..) fun k x hx => by
 rw [List.getElem?_map] at hx
 obtain ⟨y, hy, rfl⟩ := Option.map_eq_some_iff.1 hx
 rw [List.getD_eq_getElem?_getD, hy]; rfl
def partC (f : Int → Int) (L : List Int) (k j : Nat) : Int := if j < k then f (L.getD j 0) else L.getD j 0
theorem cm_set {f : Int → Int} {L : List Int} {n k : Nat} {y : Int} (hy : f (L.getD k 0) = y) : (tabI n (partC f L k)).set k y = tabI n (partC f L (k + 1)) := by
 rw [tabI_set]
 refine tabI_congr n fun j _ => ?_
 unfold partC
 by_cases e : j = k
 ·rw [if_pos e, if_pos (by omega), e, hy]
 ·rw [if_neg e]
  by_cases e2 : j < k
  ·rw [if_pos e2, if_pos (by omega)]
  ·rw [if_neg e2, if_neg (by omega)]
end Go.Proofs.YtokniebejilcbaaGreat
