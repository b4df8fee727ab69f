/- Orientations of an image, one after another and back. No statement is proved here. -/
import Derived.Test.YtmjndoedchiggaaMA
import Derived.Test.YtmjndoedchiggaaImR
import Derived.Test.YtmjndoedchiggaaImO
import Derived.Test.YtmjndoedchiggaaImM
import Derived.Test.YtmjndoedchiggaaImP
import Derived.Test.YtmjndoedchiggaaOrdB
import Derived.Test.YtmjndoedchiggaaProg
import Derived.WalkKit
import Derived.ProofKit
import Derived.OpenShut
import Derived.WalkLawsBesides
import Derived.WalkSpells
import Derived.ShutString
import Derived.ChangeOld
import Derived.Below
import Derived.Lib.Hide
import Derived.Deep.MidRow
import Derived.Deep.WholeRow
import Derived.Maps.AppendAt
import Derived.BigQuiet
import Derived.Deep.QuietTactic
import Derived.Deep.OwnRows
import Derived.Handy
import Derived.Deep.Draws
import Derived.OwnWalk
import Derived.Deep.AppendLies
import Derived.Deep.LoopGhost
import Derived.Deep.Onto
import Derived.Laws.BitsAllLaws
import Derived.Lib.QuoteBits
import Derived.Deep.RegionHeld3
import Derived.Deep.DeepCutAuto
import Derived.Test.YtmjndoedchiggaaShelf
import Derived.Laws.CopyOwn
import Derived.Deep.RegionLaw
import Derived.Great.BuildSlice
import Derived.Laws.AppendOwn
namespace Go.Proofs.Ytmjndoedchiggaa
open Go.RowKit
theorem src_then {W H j : Nat} {a b : Int} (h : 1 ≤ W ∧ W ≤ 16 ∧ 1 ≤ H ∧ H ≤ 16) (ha : orOk a) (hb : orOk b) (hj : j < W * H) :
    srcN W H a (srcN (orWn W H a) (orHn W H a) b j) = srcN W H (thenO a b) j := by
  have hs := or_small a h
  have hj1 : j < orWn W H a * orHn W H a := by rw [or_area]; exact hj
  obtain ⟨x1, y1, e1, hx1, hy1, hk1⟩ := src_is hs hb hj1
  have hk : srcN (orWn W H a) (orHn W H a) b j < W * H := by rw [← or_area W H a]; exact src_lt hs hb hj1
  obtain ⟨x, y, e2, hx, hy, hk2⟩ := src_is h ha hk
  have p1 := (src_iff h ha hk hx hy).1 hk2
  have p2 := (src_iff hs hb hj1 hx1 hy1).1 hk1
  obtain ⟨a1, b1, e3, ha1, hb1⟩ := or_pt (x := x) (y := y) h ha hx hy
  rw [hk2]
  symm
  rw [src_iff h (thenO_ok ha hb) hj hx hy, p2]
  rw [hk1, plc_is e3] at p1
  have q1 := idx_div (y := y1) hx1
  have q2 := idx_div (y := b1) ha1
  rw [p1] at q1
  obtain rfl : b1 = y1 := q2.1.symm.trans q1.1
  obtain rfl : a1 = x1 := q2.2.symm.trans q1.2
  unfold plcN
  rw [← ori_then ha hb, e3, (orW_then ha hb W H).1]
/-- One orientation after another. -/
theorem or_or {W H : Nat} {L : List Int} {a b : Int} (h : imOk W H L) (ha : orOk a) (hb : orOk b) : orL (orWn W H a) (orHn W H a) (orL W H L a) b = orL W H L (thenO a b) := by
  obtain ⟨W', H', e1, e2, wl, wh, hl, hh, hL⟩ := im_nat h
  obtain rfl : W = W' := by exact_mod_cast e1
  obtain rfl : H = H' := by exact_mod_cast e2
  have hs := or_small a ⟨wl, wh, hl, hh⟩
  unfold orL
  rw [or_area]
  refine tabI_congr _ fun j hj => ?_
  have hk : srcN (orWn W H a) (orHn W H a) b j < W * H := by rw [← or_area W H a]; exact src_lt hs hb (by rw [or_area]; exact hj)
  rw [tabI_getD _ _ _ hk, src_then ⟨wl, wh, hl, hh⟩ ha hb hj]
theorem src_zero {W H j : Nat} (h : 1 ≤ W ∧ W ≤ 16 ∧ 1 ≤ H ∧ H ≤ 16) (hj : j < W * H) : srcN W H 0 j = j := by
  have ho : orOk 0 := by unfold orOk; omega
  have e := (src_iff h ho hj (Nat.mod_lt j (by omega)) (plc_row hj)).2 (by
    rw [plc_is (a := j % W) (b := j / W) (by rfl)]; exact (plc_eq j W).symm)
  rw [e]; exact plc_eq j W
theorem or_zeroL {W H : Nat} {L : List Int} (h : imOk W H L) : orL W H L 0 = L := by
  obtain ⟨W', H', e1, e2, wl, wh, hl, hh, hL⟩ := im_nat h
  obtain rfl : W = W' := by exact_mod_cast e1
  obtain rfl : H = H' := by exact_mod_cast e2
  unfold orL
  conv => rhs; rw [tabI_self L, hL]
  exact tabI_congr _ fun j hj => by rw [src_zero ⟨wl, wh, hl, hh⟩ hj]
theorem or_back {W H : Nat} {L : List Int} {a : Int} (h : imOk W H L) (ha : orOk a) : orL (orWn W H a) (orHn W H a) (orL W H L a) (undoO a) = L := by
  rw [or_or h ha (undoO_ok ha), then_undo ha, or_zeroL h]
/-- The pixel that came to a place. -/
theorem or_px {W H x y p q : Nat} {L : List Int} {a : Int} (h : imOk W H L) (ha : orOk a) (hx : x < W) (hy : y < H) (e : Pp.ori a (ptN W H x y) = ptN (orWn W H a) (orHn W H a) p q) (hp : p < orWn W H a) (hq : q < orHn W H a) :
    pxOf (orWn W H a) (orHn W H a) (orL W H L a) p q = pxOf W H L x y := by
  have h2 := orL_ok h ha
  obtain ⟨W', H', e1, e2, wl, wh, hl, hh, hL⟩ := im_nat h
  obtain rfl : W = W' := by exact_mod_cast e1
  obtain rfl : H = H' := by exact_mod_cast e2
  rw [pxOf_in h2 (by omega) (by omega), pxOf_in h (by omega) (by omega)]
  rw [show ((q : Int) * (orWn W H a : Int) + (p : Int)).toNat = q * orWn W H a + p by exact_mod_cast Int.toNat_natCast (q * orWn W H a + p), show ((y : Int) * (W : Int) + (x : Int)).toNat = y * W + x by exact_mod_cast Int.toNat_natCast (y * W + x)]
  have hj : q * orWn W H a + p < W * H := by rw [← or_area W H a]; exact plc_lt hp hq
  unfold orL
  rw [tabI_getD _ _ _ hj, (src_iff ⟨wl, wh, hl, hh⟩ ha hj hx hy).2 (plc_is e).symm]
end Go.Proofs.Ytmjndoedchiggaa
