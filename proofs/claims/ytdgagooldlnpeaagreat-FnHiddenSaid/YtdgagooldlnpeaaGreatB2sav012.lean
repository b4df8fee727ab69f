/- Texts of mine in one file: PnM. No statement is proved here. -/
import Derived.Test.YtdgagooldlnpeaaGreatMA
import Derived.Test.YtdgagooldlnpeaaGreatMB
import Derived.Test.YtdgagooldlnpeaaGreatB2sa
import Derived.Test.YtdgagooldlnpeaaGreatSfP
import Derived.Test.YtdgagooldlnpeaaGreatSfR
import Derived.Test.YtdgagooldlnpeaaGreatProg
import Derived.WalkKit
import Derived.ProofKit
import Derived.OpenShut
import Derived.WalkLawsBesides
import Derived.WalkSpells
import Derived.ShutString
import Derived.ChangeOld
import Derived.Below
import Derived.Lib.Hide
import Derived.BigQuiet
import Derived.Deep.QuietTactic
import Derived.Maps.AppendAt
import Derived.Deep.OwnRows
import Derived.Handy
import Derived.Deep.Draws
import Derived.OwnWalk
import Derived.Deep.AppendLies
import Derived.Deep.LoopGhost
import Derived.Deep.Onto
import Derived.Deep.MidRow
import Derived.Deep.WholeRow
import Derived.Laws.BitsAllLaws
import Derived.Lib.QuoteBits
import Derived.Deep.RegionHeld3
import Derived.Deep.DeepCutAuto
import Derived.Test.YtdgagooldlnpeaaGreatShelf
import Derived.Laws.CopyOwn
import Derived.Deep.RegionLaw
import Derived.Great.BuildSlice
import Derived.Laws.AppendOwn
import Derived.ChangeKeysEq
namespace Go.Proofs.YtdgagooldlnpeaaGreat
open Go.RowKit
noncomputable def pnF (W : Nat) (f : Sf) (D : Nat → Int) : Nat → Int := fun k => if hasB (sfRect f) (k % W : Nat) (k / W : Nat) = true then over (pnPx W f.x f.y (sfPic f) k) (D k) else D k
noncomputable def pn1 (W : Nat) (D : List Int) (f : Sf) : List Int := tabI D.length (pnF W f (fun k => D.getD k 0))
noncomputable def pnL (W : Nat) (D : List Int) (fs : List Sf) : List Int := fs.foldl (pn1 W) D
open Classical in
noncomputable def pnIm (s : Sn) : Im := if snOk s then ⟨s.w, s.h, pnL s.w.toNat (flatN s.w s.h s.back) s.fs⟩ else zeroIm
theorem pnIm_yes {s : Sn} (h : snOk s) : pnIm s = ⟨s.w, s.h, pnL s.w.toNat (flatN s.w s.h s.back) s.fs⟩ := if_pos h
theorem pnIm_no {s : Sn} (h : ¬ snOk s) : pnIm s = zeroIm := if_neg h
theorem pn1_len (W : Nat) (D : List Int) (f : Sf) : (pn1 W D f).length = D.length := tabI_length _ _
theorem pnL_len (W : Nat) (D : List Int) (fs : List Sf) : (pnL W D fs).length = D.length := by
 unfold pnL
 induction fs generalizing D with
 | nil => rfl
 | cons f fs ih => rw [List.foldl_cons, ih, pn1_len]
theorem pnL_take (W : Nat) (D : List Int) {L : List Sf} {k : Nat} {f : Sf} (h : L[k]? = some f) : pnL W D (L.take (k + 1)) = pn1 W (pnL W D (L.take k)) f := by
 unfold pnL
 rw [List.take_add_one, h, Option.toList_some, List.foldl_append]; rfl
theorem pnS_end (W H : Nat) (f : Sf) (D : Nat → Int) (X Y n h k : Nat) (hk : k < W * H) (hI : ∀ p q : Nat, ((X ≤ p ∧ p < X + n ∧ Y ≤ q ∧ q < Y + h) ↔ (hasB (sfRect f) p q = true ∧ p < W ∧ q < H))) :
  pnS W (pnPx W f.x f.y (sfPic f)) D X Y n (Y + h) X k = pnF W f D k := by
 have h1 := plc_row hk
 have h2 := Nat.mod_lt k (plc_pos hk)
 have hi := hI (k % W) (k / W)
 unfold pnS pnF
 by_cases c : X ≤ k % W ∧ k % W < X + n ∧ Y ≤ k / W ∧ k / W < Y + h
 ·rw [if_pos (by omega), if_pos (hi.1 c).1]
 ·rw [if_neg (by omega), if_neg fun e => c (hi.2 ⟨e, h2, h1⟩)]
end Go.Proofs.YtdgagooldlnpeaaGreat
