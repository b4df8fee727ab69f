/- An image in an orientation: where its pixels come from and go to. No statement is proved here. -/
import Derived.Test.YtokniebejilcbaaGreatMA
import Derived.Test.YtokniebejilcbaaGreatMB
import Derived.Test.YtokniebejilcbaaGreatMC
import Derived.Test.YtokniebejilcbaaGreatCpyI
import Derived.Test.YtokniebejilcbaaGreatFilB
import Derived.Test.YtokniebejilcbaaGreatProg
import Derived.WalkKit
import Derived.ProofKit
import Derived.OpenShut
import Derived.WalkLawsBesides
import Derived.WalkSpells
import Derived.ShutString
import Derived.ChangeOld
import Derived.Below
import Derived.Lib.Hide
import Derived.Deep.MidRow
import Derived.Deep.WholeRow
import Derived.Maps.AppendAt
import Derived.BigQuiet
import Derived.Deep.QuietTactic
import Derived.Deep.OwnRows
import Derived.Handy
import Derived.Deep.Draws
import Derived.OwnWalk
import Derived.Deep.AppendLies
import Derived.Deep.LoopGhost
import Derived.Deep.Onto
import Derived.Laws.BitsAllLaws
import Derived.Lib.QuoteBits
import Derived.Deep.RegionHeld3
import Derived.Deep.DeepCutAuto
import Derived.Test.YtokniebejilcbaaGreatShelf
import Derived.Laws.CopyOwn
import Derived.Deep.RegionLaw
import Derived.Great.BuildSlice
import Derived.Laws.AppendOwn
namespace Go.Proofs.YtokniebejilcbaaGreat
open Go.RowKit
def orWn (W H : Nat) (o : Int) : Nat := if o % 2 = 1 then H else W
def orHn (W H : Nat) (o : Int) : Nat := if o % 2 = 1 then W else H
theorem orW_nat (W H : Nat) (o : Int) : orW W H o = (orWn W H o : Int) := by unfold orW orWn; split <;> rfl
theorem orH_nat (W H : Nat) (o : Int) : orH W H o = (orHn W H o : Int) := by unfold orH orHn; split <;> rfl
theorem or_area (W H : Nat) (o : Int) : orWn W H o * orHn W H o = W * H := by
 unfold orWn orHn; split
 ·rw [Nat.mul_comm]
 ·rfl
theorem or_small {W H : Nat} (o : Int) (h : 1 ≤ W ∧ W ≤ 16 ∧ 1 ≤ H ∧ H ≤ 16) : 1 ≤ orWn W H o ∧ orWn W H o ≤ 16 ∧ 1 ≤ orHn W H o ∧ orHn W H o ≤ 16 := by
 unfold orWn orHn; split <;> omega
theorem orW_undo {o : Int} (h : orOk o) (W H : Nat) : orWn (orWn W H o) (orHn W H o) (undoO o) = W ∧ orHn (orWn W H o) (orHn W H o) (undoO o) = H := by
 rcases h.cases with rfl | rfl | rfl | rfl | rfl | rfl | rfl | rfl <;> exact ⟨rfl, rfl⟩
def ptN (W H x y : Nat) : Pp := ⟨W, H, x, y⟩
theorem ptN_ok {W H x y : Nat} (h : 1 ≤ W ∧ W ≤ 16 ∧ 1 ≤ H ∧ H ≤ 16) (hx : x < W) (hy : y < H) : (ptN W H x y).ok := by
 unfold ptN Pp.ok; dsimp only; omega
theorem or_pt {W H x y : Nat} {o : Int} (h : 1 ≤ W ∧ W ≤ 16 ∧ 1 ≤ H ∧ H ≤ 16) (ho : orOk o) (hx : x < W) (hy : y < H) :
  ∃ a b : Nat, Pp.ori o (ptN W H x y) = ptN (orWn W H o) (orHn W H o) a b ∧ a < orWn W H o ∧ b < orHn W H o := by
 have hk := Pp.ori_ok o (ptN_ok h hx hy)
 have e1 := ori_w ho (ptN W H x y)
 have e2 := ori_h ho (ptN W H x y)
 rw [show (ptN W H x y).w = (W : Int) from rfl, show (ptN W H x y).h = (H : Int) from rfl, orW_nat] at e1
 rw [show (ptN W H x y).w = (W : Int) from rfl, show (ptN W H x y).h = (H : Int) from rfl, orH_nat] at e2
 rcases hq : Pp.ori o (ptN W H x y) with ⟨w', h', x', y'⟩
 rw [hq] at hk e1 e2
 unfold Pp.ok at hk
 dsimp only at hk e1 e2
 subst e1 e2
 refine ⟨x'.toNat, y'.toNat, ?_, by omega, by omega⟩
 unfold ptN
 rw [show ((x'.toNat : Nat) : Int) = x' by omega, show ((y'.toNat : Nat) : Int) = y' by omega]
def plcN (W H : Nat) (o : Int) (x y : Nat) : Nat := (Pp.ori o (ptN W H x y)).y.toNat * orWn W H o + (Pp.ori o (ptN W H x y)).x.toNat
def srcN (W H : Nat) (o : Int) (j : Nat) : Nat :=
 (Pp.ori (undoO o) (ptN (orWn W H o) (orHn W H o) (j % orWn W H o) (j / orWn W H o))).y.toNat * W + (Pp.ori (undoO o) (ptN (orWn W H o) (orHn W H o) (j % orWn W H o) (j / orWn W H o))).x.toNat
theorem plc_is {W H x y a b : Nat} {o : Int} (h : Pp.ori o (ptN W H x y) = ptN (orWn W H o) (orHn W H o) a b) : plcN W H o x y = b * orWn W H o + a := by
 unfold plcN; rw [h]; simp [ptN]
theorem idx_div {W x y : Nat} (hx : x < W) : (y * W + x) / W = y ∧ (y * W + x) % W = x := by
 constructor
 ·rw [Nat.add_comm, Nat.add_mul_div_right _ _ (by omega), Nat.div_eq_of_lt hx]; omega
 ·rw [Nat.add_comm, Nat.add_mul_mod_self_right, Nat.mod_eq_of_lt hx]
theorem src_is {W H j : Nat} {o : Int} (h : 1 ≤ W ∧ W ≤ 16 ∧ 1 ≤ H ∧ H ≤ 16) (ho : orOk o) (hj : j < W * H) :
  ∃ c d : Nat, Pp.ori (undoO o) (ptN (orWn W H o) (orHn W H o) (j % orWn W H o) (j / orWn W H o)) = ptN W H c d ∧ c < W ∧ d < H ∧ srcN W H o j = d * W + c := by
 have hs := or_small o h
 rw [← or_area W H o] at hj
 obtain ⟨c, d, e, hc, hd⟩ := or_pt (x := j % orWn W H o) (y := j / orWn W H o) hs (undoO_ok ho) (Nat.mod_lt _ (by omega)) (plc_row hj)
 rw [(orW_undo ho W H).1] at e hc
 rw [(orW_undo ho W H).2] at e hd
 refine ⟨c, d, e, hc, hd, ?_⟩
 unfold srcN; rw [e]; simp [ptN]
theorem pt_inj {W H x y a b : Nat} (h : ptN W H x y = ptN W H a b) : x = a ∧ y = b := by
 unfold ptN at h; injection h with _ _ h1 h2; omega
theorem src_iff {W H j x y : Nat} {o : Int} (h : 1 ≤ W ∧ W ≤ 16 ∧ 1 ≤ H ∧ H ≤ 16) (ho : orOk o) (hj : j < W * H) (hx : x < W) (hy : y < H) : srcN W H o j = y * W + x ↔ j = plcN W H o x y := by
 obtain ⟨c, d, e, hc, hd, hs⟩ := src_is h ho hj
 obtain ⟨a, b, e2, ha, hb⟩ := or_pt (x := x) (y := y) h ho hx hy
 rw [hs, plc_is e2]
 constructor
 ·intro h1
  have q1 := idx_div (y := d) hc
  have q2 := idx_div (y := y) hx
  rw [h1] at q1
  obtain rfl : d = y := q1.1.symm.trans q2.1
  obtain rfl : c = x := q1.2.symm.trans q2.2
  rw [← e, undo_undo ho] at e2
  obtain ⟨r1, r2⟩ := pt_inj e2
  rw [← r1, ← r2]
  exact (plc_eq j _).symm
 ·rintro rfl
  have q := idx_div (y := b) ha
  rw [q.1, q.2, ← e2, ori_undo ho] at e
  obtain ⟨r1, r2⟩ := pt_inj e
  rw [r1, r2]
theorem src_lt {W H j : Nat} {o : Int} (h : 1 ≤ W ∧ W ≤ 16 ∧ 1 ≤ H ∧ H ≤ 16) (ho : orOk o) (hj : j < W * H) : srcN W H o j < W * H := by
 obtain ⟨c, d, e, hc, hd, hs⟩ := src_is h ho hj
 rw [hs]; exact plc_lt hc hd
def orF (W H : Nat) (L : List Int) (o : Int) (k : Nat) : Nat → Int := fun j => if srcN W H o j < k then L.getD (srcN W H o j) 0 else 0
def orL (W H : Nat) (L : List Int) (o : Int) : List Int := tabI (W * H) (fun j => L.getD (srcN W H o j) 0)
theorem orF_end {W H : Nat} {L : List Int} {o : Int} (h : 1 ≤ W ∧ W ≤ 16 ∧ 1 ≤ H ∧ H ≤ 16) (ho : orOk o) : tabI (W * H) (orF W H L o (H * W)) = orL W H L o :=
 tabI_congr _ fun j hj => by unfold orF; rw [if_pos (by rw [Nat.mul_comm H W]; exact src_lt h ho hj)]
theorem orF_set {W H x y : Nat} {L : List Int} {o z : Int} (h : 1 ≤ W ∧ W ≤ 16 ∧ 1 ≤ H ∧ H ≤ 16) (ho : orOk o) (hx : x < W) (hy : y < H) (hz : L.getD (y * W + x) 0 = z) :
  (tabI (W * H) (orF W H L o (y * W + x))).set (plcN W H o x y) z = tabI (W * H) (orF W H L o (y * W + (x + 1))) := by
 rw [tabI_set]
 refine tabI_congr _ fun j hj => ?_
 have e := src_iff h ho hj hx hy
 unfold orF
 by_cases h1 : j = plcN W H o x y
 ·rw [if_pos h1, if_pos (by have := e.2 h1; omega), e.2 h1, hz]
 ·rw [if_neg h1]
  have h2 : srcN W H o j ≠ y * W + x := fun h => h1 (e.1 h)
  by_cases h3 : srcN W H o j < y * W + x
  ·rw [if_pos h3, if_pos (by omega)]
  ·rw [if_neg h3, if_neg (by omega)]
open Classical in
noncomputable def orIm (X Y : Int) (L : List Int) (o : Int) : Im := if imOk X Y L ∧ orOk o then ⟨orW X Y o, orH X Y o, orL X.toNat Y.toNat L o⟩ else zeroIm
theorem orIm_yes {W H : Nat} {L : List Int} {o : Int} (h1 : imOk W H L) (h2 : orOk o) : orIm W H L o = ⟨orWn W H o, orHn W H o, orL W H L o⟩ := by
 unfold orIm; rw [if_pos ⟨h1, h2⟩, orW_nat, orH_nat, Int.toNat_natCast, Int.toNat_natCast]
theorem orIm_no {X Y : Int} {L : List Int} {o : Int} (h : ¬ (imOk X Y L ∧ orOk o)) : orIm X Y L o = zeroIm := if_neg h
theorem orL_length (W H : Nat) (L : List Int) (o : Int) : (orL W H L o).length = W * H := tabI_length _ _
theorem orL_ok {W H : Nat} {L : List Int} {o : Int} (h : imOk W H L) (ho : orOk o) : imOk (orWn W H o) (orHn W H o) (orL W H L o) := by
 have h2 := h
 obtain ⟨W', H', e1, e2, wl, wh, hl, hh, hL⟩ := im_nat h2
 obtain rfl : W = W' := by exact_mod_cast e1
 obtain rfl : H = H' := by exact_mod_cast e2
 have hs := or_small o ⟨wl, wh, hl, hh⟩
 refine ⟨by unfold szOk; omega, ?_, fun k x hx => ?_⟩
 ·rw [orL_length, ← or_area W H o]; push_cast; rfl
 ·have hk : k < W * H := by have := (List.getElem?_eq_some_iff.1 hx).1; rwa [orL_length] at this
  unfold orL at hx
  rw [tabI_get _ _ k hk] at hx
  injection hx with hx
  have hs2 := src_lt (o := o) ⟨wl, wh, hl, hh⟩ ho hk
  rw [← hx, List.getD_eq_getElem?_getD, List.getElem?_eq_getElem (by omega)]
  exact h.2.2 _ _ (List.getElem?_eq_getElem (by omega))
structure OrA (w : World) (X Y : Int) (v : Value) (L : List Int) (W : World) : Prop where
 a : ImAt W w.heap.size 55 X Y v
 r : ImAt W (w.heap.size + 1) 55 0 0 (.slice none 0 0)
 rd : RdI W v L
 bw : Below w.heap.size w W
theorem OrA.call {w : World} {X Y : Int} {v : Value} {L : List Int} {W W' : World} (h : OrA w X Y v L W) (k : Below W.heap.size W W') : OrA w X Y v L W' := ⟨h.a.call k, h.r.call k, h.rd.call k, h.bw.trans (k.mono h.bw.size)⟩
end Go.Proofs.YtokniebejilcbaaGreat
