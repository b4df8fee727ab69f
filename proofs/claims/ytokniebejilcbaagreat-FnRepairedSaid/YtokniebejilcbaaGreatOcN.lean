/- Occlusion as plain mathematics: what is covered needs no painting. No statement is proved here. -/
import Derived.Test.YtokniebejilcbaaGreatMA
import Derived.Test.YtokniebejilcbaaGreatSfR
import Derived.Test.YtokniebejilcbaaGreatSfP
import Derived.Test.YtokniebejilcbaaGreatPnM
import Derived.Test.YtokniebejilcbaaGreatProg
import Derived.WalkKit
import Derived.ProofKit
import Derived.OpenShut
import Derived.WalkLawsBesides
import Derived.WalkSpells
import Derived.ShutString
import Derived.ChangeOld
import Derived.Below
import Derived.Lib.Hide
import Derived.BigQuiet
import Derived.Deep.QuietTactic
import Derived.Maps.AppendAt
import Derived.Deep.OwnRows
import Derived.Handy
import Derived.Deep.Draws
import Derived.OwnWalk
import Derived.Deep.AppendLies
import Derived.Deep.LoopGhost
import Derived.Deep.Onto
import Derived.Deep.MidRow
import Derived.Deep.WholeRow
import Derived.Laws.BitsAllLaws
import Derived.Lib.QuoteBits
import Derived.Deep.RegionHeld3
import Derived.Deep.DeepCutAuto
import Derived.Test.YtokniebejilcbaaGreatShelf
import Derived.Laws.CopyOwn
import Derived.Deep.RegionLaw
import Derived.Great.BuildSlice
import Derived.Laws.AppendOwn
import Derived.ChangeKeysEq
import Derived.Deep.RegionWith
namespace Go.Proofs.YtokniebejilcbaaGreat
open Go.RowKit
noncomputable def ptA (W : Nat) (k : Nat) (f : Sf) (a : Int) : Int := if hasB (sfRect f) (k % W : Nat) (k / W : Nat) = true then over (pnPx W f.x f.y (sfPic f) k) a else a
theorem pn1_at {W : Nat} {D : List Int} {f : Sf} {k : Nat} (hk : k < D.length) : (pn1 W D f).getD k 0 = ptA W k f (D.getD k 0) := by
 unfold pn1
 rw [tabI_getD _ _ _ hk]
 rfl
theorem pnL_at {W : Nat} (fs : List Sf) {D : List Int} {k : Nat} (hk : k < D.length) : (pnL W D fs).getD k 0 = fs.foldl (fun x f => ptA W k f x) (D.getD k 0) := by
 unfold pnL
 induction fs generalizing D with
 | nil => rfl
 | cons f r ih => rw [List.foldl_cons, List.foldl_cons, ih (by rw [pn1_len]; exact hk), pn1_at hk]
end Go.Proofs.YtokniebejilcbaaGreat
