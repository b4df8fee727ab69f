/- Outside of the damage two scenes look the same, and repainting it repairs the image: plain mathematics. No statement is proved here. -/
import Derived.Test.YtokniebejilcbaaGreatMA
import Derived.Test.YtokniebejilcbaaGreatMB
import Derived.Test.YtokniebejilcbaaGreatEdH
import Derived.Test.YtokniebejilcbaaGreatSfR
import Derived.Test.YtokniebejilcbaaGreatSclB
import Derived.Test.YtokniebejilcbaaGreatPnM
import Derived.Test.YtokniebejilcbaaGreatOcM
import Derived.Test.YtokniebejilcbaaGreatOcN
import Derived.Test.YtokniebejilcbaaGreatDmM
import Derived.Test.YtokniebejilcbaaGreatPnG
import Derived.Test.YtokniebejilcbaaGreatProg
import Derived.WalkKit
import Derived.ProofKit
import Derived.OpenShut
import Derived.WalkLawsBesides
import Derived.WalkSpells
import Derived.ShutString
import Derived.ChangeOld
import Derived.Below
import Derived.Lib.Hide
import Derived.BigQuiet
import Derived.Deep.QuietTactic
import Derived.Maps.AppendAt
import Derived.Deep.OwnRows
import Derived.Handy
import Derived.Deep.Draws
import Derived.OwnWalk
import Derived.Deep.AppendLies
import Derived.Deep.LoopGhost
import Derived.Deep.Onto
import Derived.Deep.MidRow
import Derived.Deep.WholeRow
import Derived.Laws.BitsAllLaws
import Derived.Lib.QuoteBits
import Derived.Deep.RegionHeld3
import Derived.Deep.DeepCutAuto
import Derived.Test.YtokniebejilcbaaGreatShelf
import Derived.Laws.CopyOwn
import Derived.Deep.RegionLaw
import Derived.Great.BuildSlice
import Derived.Laws.AppendOwn
import Derived.ChangeKeysEq
import Derived.Deep.RegionWith
import Derived.Shelf.RegionOpenPlain
import Derived.Lib.SliceRun
import Derived.Deep.DeepAppendRoom
namespace Go.Proofs.YtokniebejilcbaaGreat
open Go.RowKit
theorem fold_has (W k : Nat) (fs : List Sf) (a : Int) : fs.foldl (fun x f => ptA W k f x) a = (fs.filter (fun f => hasB (sfRect f) (k % W : Nat) (k / W : Nat))).foldl (fun x f => ptA W k f x) a := by
  induction fs generalizing a with
  | nil => rfl
  | cons f r ih =>
    rw [List.foldl_cons, ih]
    by_cases h : hasB (sfRect f) (k % W : Nat) (k / W : Nat) = true
    · rw [List.filter_cons_of_pos (p := fun f => hasB (sfRect f) (k % W : Nat) (k / W : Nat)) h, List.foldl_cons]
    · rw [List.filter_cons_of_neg (p := fun f => hasB (sfRect f) (k % W : Nat) (k / W : Nat)) h, show ptA W k f a = a from if_neg h]
theorem dm_at {W H : Nat} {b1 b2 : Int} {f1 f2 : List Sf} (h1 : snOk ⟨W, H, b1, f1⟩) (h2 : snOk ⟨W, H, b2, f2⟩) {k : Nat} (hk : k < W * H) (hg : gridOf (dmgM ⟨W, H, b1, f1⟩ ⟨W, H, b2, f2⟩) (k / W * 16 + k % W) = false) :
  (pnL W (flatN W H b1) f1).getD k 0 = (pnL W (flatN W H b2) f2).getD k 0 := by
 have hz := h1.1
 unfold szOk at hz
 dsimp only at hz
 have wl : 1 ≤ W ∧ W ≤ 16 := by omega
 have hl : 1 ≤ H ∧ H ≤ 16 := by omega
 have hq := plc_row hk
 have hp := Nat.mod_lt k (plc_pos hk)
 by_cases e : b1 = b2
 ·subst e
  rw [dmgM_yes ⟨h1, h2⟩ ⟨rfl, rfl, rfl⟩, gridOf_canon _ _ (by omega)] at hg
  have hd := dm_spec wl hl f1 f2 (p := k % W) (q := k / W) (by omega)
  have hn : ¬ dmPt f1 f2 (k % W) (k / W) := fun hh => by
   have := hd.2 ⟨hh, hp, hq⟩
   dsimp only at hg
   rw [this] at hg
   cases hg
  have hf := dm_filter (ids_ok h1) (ids_ok h2) hn
  dsimp only at hf
  rw [pnL_at f1 (by rw [ly_flat]; exact hk), pnL_at f2 (by rw [ly_flat]; exact hk), fold_has W k f1, fold_has W k f2, hf]
 ·rw [dmgM_all ⟨h1, h2⟩ (fun h => e h.2.2), gridOf_canon _ _ (by omega)] at hg
  have hs := (InScr.gridOf (W := W) (H := H) ⟨0, 0, W, H, rfl, by omega, by omega⟩ wl.2 hl.2 (k % W) (k / W) (by omega)).2 (show inRc ⟨((0 : Nat) : Int), ((0 : Nat) : Int), W, H⟩ (k % W) (k / W) by unfold inRc; dsimp only; have := Int.natCast_nonneg (k % W); have := Int.natCast_nonneg (k / W); omega)
  rw [show (⟨0, 0, (W : Int), (H : Int)⟩ : Rc) = ⟨((0 : Nat) : Int), ((0 : Nat) : Int), (W : Int), (H : Int)⟩ from rfl, hs] at hg
  cases hg
theorem dm_repair {s t : Sn} (hs : snOk s) (ht : snOk t) (hw : s.w = t.w) (hh : s.h = t.h) : pniIm (pnIm s) t (dmgM s t) = pnIm t := by
 obtain ⟨x, y, b1, f1⟩ := s
 obtain ⟨x2, y2, b2, f2⟩ := t
 dsimp only at hw hh
 subst hw hh
 obtain ⟨W, H, rfl, rfl, wl, wh, hl, hh⟩ := sz_nat (show szOk x y from hs.1)
 unfold pniIm
 have i1 := pnIm_ok hs
 have i2 := pnIm_ok ht
 rw [copy_yes i1 i2 (dmgM_ok _ _), pnIm_yes hs, pnIm_yes ht]
 dsimp only
 rw [Int.toNat_natCast, Int.toNat_natCast]
 congr 1
 have hlen : (pnL W (flatN W H b1) f1).length = W * H := by rw [pnL_len, ly_flat]
 have hlen2 : (pnL W (flatN W H b2) f2).length = W * H := by rw [pnL_len, ly_flat]
 refine List.ext_getElem? fun k => ?_
 by_cases hk : k < W * H
 ·rw [tabI_get _ _ k (by rw [hlen]; exact hk)]
  have hq := plc_row hk
  have hp := Nat.mod_lt k (plc_pos hk)
  have e2 : (pnL W (flatN W H b2) f2)[k]? = some ((pnL W (flatN W H b2) f2).getD k 0) := by
   rw [List.getD_eq_getElem?_getD, List.getElem?_eq_getElem (by rw [hlen2]; exact hk)]; rfl
  rw [e2]
  congr 1
  unfold copyF
  by_cases hg : gridOf (dmgM ⟨W, H, b1, f1⟩ ⟨W, H, b2, f2⟩) (k / W * 16 + k % W) = true
  ·rw [if_pos ⟨hp, hq, hg⟩, show k / W * W + k % W = k by rw [Nat.mul_comm]; exact Nat.div_add_mod k W]
  ·rw [if_neg fun h => hg h.2.2]
   exact dm_at hs ht hk (by simpa using hg)
 ·rw [List.getElem?_eq_none (by rw [tabI_length, hlen]; omega), List.getElem?_eq_none (by rw [hlen2]; omega)]
end Go.Proofs.YtokniebejilcbaaGreat
