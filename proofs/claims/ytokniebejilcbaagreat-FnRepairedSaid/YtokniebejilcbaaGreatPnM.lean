/- Painting as plain mathematics: one surface over a screen, all surfaces, the image of a scene. No statement is proved here. -/
import Derived.Test.YtokniebejilcbaaGreatMA
import Derived.Test.YtokniebejilcbaaGreatMB
import Derived.Test.YtokniebejilcbaaGreatMC
import Derived.Test.YtokniebejilcbaaGreatFilB
import Derived.Test.YtokniebejilcbaaGreatSfR
import Derived.Test.YtokniebejilcbaaGreatOrdB
import Derived.Test.YtokniebejilcbaaGreatSclB
import Derived.Test.YtokniebejilcbaaGreatSfP
import Derived.Test.YtokniebejilcbaaGreatProg
import Derived.WalkKit
import Derived.ProofKit
import Derived.OpenShut
import Derived.WalkLawsBesides
import Derived.WalkSpells
import Derived.ShutString
import Derived.ChangeOld
import Derived.Below
import Derived.Lib.Hide
import Derived.BigQuiet
import Derived.Deep.QuietTactic
import Derived.Maps.AppendAt
import Derived.Deep.OwnRows
import Derived.Handy
import Derived.Deep.Draws
import Derived.OwnWalk
import Derived.Deep.AppendLies
import Derived.Deep.LoopGhost
import Derived.Deep.Onto
import Derived.Deep.MidRow
import Derived.Deep.WholeRow
import Derived.Laws.BitsAllLaws
import Derived.Lib.QuoteBits
import Derived.Deep.RegionHeld3
import Derived.Deep.DeepCutAuto
import Derived.Test.YtokniebejilcbaaGreatShelf
import Derived.Laws.CopyOwn
import Derived.Deep.RegionLaw
import Derived.Great.BuildSlice
import Derived.Laws.AppendOwn
import Derived.ChangeKeysEq
namespace Go.Proofs.YtokniebejilcbaaGreat
open Go.RowKit
theorem fade_ok {p al : Int} (hp : pixOk p) (ha : chOk al) : pixOk (fade p al) := by
 unfold fade; rw [if_pos ⟨hp, ha⟩]; exact pack_ok (part_ok (ch_0 hp) ha) (ch_1 p) (ch_2 p) (ch_3 p)
theorem sfSize_scl {f : Sf} (h : sfOk f) : (sfScl f).w = (sfSize f).1 ∧ (sfScl f).h = (sfSize f).2 := by
 obtain ⟨_, _, _, hwh, _, ho, him⟩ := h
 obtain ⟨W, H, e1, e2, wl, wh, hl, hh, hL⟩ := im_nat him
 have him' : imOk (W : Int) (H : Int) f.data := by rw [← e1, ← e2]; exact him
 have ho1 := orIm_yes him' ho
 have hov := orL_ok him' ho
 have hs : szOk (sfSize f).1 (sfSize f).2 := by
  by_cases h0 : f.w = 0
  ·unfold sfSize; rw [if_pos h0, e1, e2, os_yes him'.1 ho, orW_nat, orH_nat]; exact hov.1
  ·unfold sfSize; rw [if_neg h0]; exact hwh.resolve_left fun e => h0 e.1
 unfold sfScl
 rw [e1, e2, ho1]
 dsimp only
 obtain ⟨p, q, ep, eq, _⟩ := sz_nat hs
 rw [ep, eq] at hs ⊢
 rw [rs_yes sclN hov hs]
 exact ⟨rfl, rfl⟩
theorem sfPic_ok {f : Sf} (h : sfOk f) : (sfPic f).w = (sfSize f).1 ∧ (sfPic f).h = (sfSize f).2 ∧ imOk (sfPic f).w (sfPic f).h (sfPic f).d := by
 rw [sfPic_yes h]
 obtain ⟨h1, h2⟩ := sfSize_scl h
 obtain ⟨a, b, c⟩ := (sfScl_ok h).1
 refine ⟨h1, h2, a, by rw [List.length_map]; exact b, fun k x hx => ?_⟩
 rw [List.getElem?_map] at hx
 obtain ⟨y, hy, rfl⟩ := Option.map_eq_some_iff.1 hx
 exact fade_ok (c k y hy) h.2.2.2.2.1
def pnPx (W : Nat) (x y : Int) (P : Im) (k : Nat) : Int := P.d.getD ((((k / W : Nat) : Int) - y) * P.w + (((k % W : Nat) : Int) - x)).toNat 0
noncomputable def pnF (W : Nat) (f : Sf) (D : Nat → Int) : Nat → Int := fun k => if hasB (sfRect f) (k % W : Nat) (k / W : Nat) = true then over (pnPx W f.x f.y (sfPic f) k) (D k) else D k
noncomputable def pn1 (W : Nat) (D : List Int) (f : Sf) : List Int := tabI D.length (pnF W f (fun k => D.getD k 0))
noncomputable def pnL (W : Nat) (D : List Int) (fs : List Sf) : List Int := fs.foldl (pn1 W) D
open Classical in
noncomputable def pnIm (s : Sn) : Im := if snOk s then ⟨s.w, s.h, pnL s.w.toNat (flatN s.w s.h s.back) s.fs⟩ else zeroIm
theorem pnIm_yes {s : Sn} (h : snOk s) : pnIm s = ⟨s.w, s.h, pnL s.w.toNat (flatN s.w s.h s.back) s.fs⟩ := if_pos h
theorem pnIm_no {s : Sn} (h : ¬ snOk s) : pnIm s = zeroIm := if_neg h
theorem pn1_len (W : Nat) (D : List Int) (f : Sf) : (pn1 W D f).length = D.length := tabI_length _ _
theorem pnL_len (W : Nat) (D : List Int) (fs : List Sf) : (pnL W D fs).length = D.length := by
 unfold pnL
 induction fs generalizing D with
 | nil => rfl
 | cons f fs ih => rw [List.foldl_cons, ih, pn1_len]
theorem pnL_take (W : Nat) (D : List Int) {L : List Sf} {k : Nat} {f : Sf} (h : L[k]? = some f) : pnL W D (L.take (k + 1)) = pn1 W (pnL W D (L.take k)) f := by
 unfold pnL
 rw [List.take_add_one, h, Option.toList_some, List.foldl_append]; rfl
theorem has_pic {f : Sf} {x y : Int} (h : hasB (sfRect f) x y = true) : sfOk f ∧ (0 ≤ x - f.x ∧ x - f.x < (sfPic f).w) ∧ (0 ≤ y - f.y ∧ y - f.y < (sfPic f).h) ∧ sfRect f = ⟨f.x, f.y, (sfPic f).w, (sfPic f).h⟩ := by
 by_cases ho : sfOk f ∧ f.vis = true
 ·obtain ⟨e1, e2, _⟩ := sfPic_ok ho.1
  have hr := sfRect_yes ho.1 ho.2
  rw [← e1, ← e2] at hr
  rw [hr] at h
  unfold hasB at h
  have h := (of_decide_eq_true h).2
  dsimp only at h
  exact ⟨ho.1, by omega, by omega, hr⟩
 ·rw [sfRect_no ho] at h
  unfold hasB at h
  have h := (of_decide_eq_true h).2
  dsimp only at h
  omega
theorem pnPx_ok {W : Nat} {f : Sf} {k : Nat} (h : hasB (sfRect f) (k % W : Nat) (k / W : Nat) = true) : pixOk (pnPx W f.x f.y (sfPic f) k) := by
 obtain ⟨ho, hx, hy, _⟩ := has_pic h
 have him := (sfPic_ok ho).2.2
 obtain ⟨_, _, p0, p1, _⟩ := px_place him hx hy
 unfold pnPx
 generalize hj : ((((k / W : Nat) : Int) - f.y) * (sfPic f).w + (((k % W : Nat) : Int) - f.x)).toNat = j
 have hl : j < (sfPic f).d.length := by omega
 have e := List.getElem?_eq_getElem hl
 rw [List.getD_eq_getElem?_getD, e]
 exact him.2.2 j _ e
theorem over_pix {p q : Int} (hp : pixOk p) (hq : pixOk q) : pixOk (over p q) := by unfold over; rw [if_pos ⟨hp, hq⟩]; exact overK_ok hp q
def allPix (D : List Int) : Prop := ∀ (k : Nat) (x : Int), D[k]? = some x → pixOk x
theorem pn1_pix {W : Nat} {D : List Int} {f : Sf} (h : allPix D) : allPix (pn1 W D f) := by
 intro k x hx
 have hk : k < D.length := by have := (List.getElem?_eq_some_iff.1 hx).1; rwa [pn1_len] at this
 unfold pn1 at hx
 rw [tabI_get _ _ k hk] at hx
 injection hx with hx
 have e := List.getElem?_eq_getElem hk
 have hd : pixOk (D.getD k 0) := by rw [List.getD_eq_getElem?_getD, e]; exact h k _ e
 rw [← hx]
 unfold pnF
 by_cases hb : hasB (sfRect f) (k % W : Nat) (k / W : Nat) = true
 ·rw [if_pos hb]; exact over_pix (pnPx_ok hb) hd
 ·rw [if_neg hb]; exact hd
theorem pnL_pix {W : Nat} {D : List Int} (fs : List Sf) (h : allPix D) : allPix (pnL W D fs) := by
 unfold pnL
 induction fs generalizing D with
 | nil => exact h
 | cons f fs ih => rw [List.foldl_cons]; exact ih (pn1_pix h)
theorem pnL_ok {W H : Int} {p : Int} {fs : List Sf} (h : szOk W H) (hp : pixOk p) : imOk W H (pnL W.toNat (flatN W H p) fs) := by
 have hf := flat_ok h hp
 exact ⟨h, by rw [pnL_len]; exact hf.2.1, pnL_pix fs hf.2.2⟩
theorem pnIm_ok {s : Sn} (h : snOk s) : imOk (pnIm s).w (pnIm s).h (pnIm s).d := by
 rw [pnIm_yes h]; exact pnL_ok h.1 h.2.1.1
theorem pnIm_len (s : Sn) : (pnIm s).d.length ≤ 256 := by
 by_cases h : snOk s
 ·have h1 := (pnIm_ok h)
  have h2 := sz_mul h1.1
  have h3 := h1.2.1
  omega
 ·rw [pnIm_no h]; show ([] : List Int).length ≤ _; simp
def pnS (W : Nat) (g f : Nat → Int) (X Y n y x : Nat) : Nat → Int := fun k =>
 if X ≤ k % W ∧ k % W < X + n ∧ Y ≤ k / W ∧ (k / W < y ∨ k / W = y ∧ k % W < x) then over (g k) (f k) else f k
theorem pnS_start (W : Nat) (g f : Nat → Int) (X Y n k : Nat) : pnS W g f X Y n Y X k = f k := if_neg (by omega)
theorem pnS_row (W : Nat) (g f : Nat → Int) (X Y n y k : Nat) : pnS W g f X Y n y (X + n) k = pnS W g f X Y n (y + 1) X k := by
 unfold pnS
 by_cases h : X ≤ k % W ∧ k % W < X + n ∧ Y ≤ k / W ∧ (k / W < y ∨ k / W = y ∧ k % W < X + n)
 ·rw [if_pos h, if_pos (by omega)]
 ·rw [if_neg h, if_neg (by omega)]
theorem pnS_at (W : Nat) (g f : Nat → Int) (X Y n y x : Nat) (hW : x < W) : pnS W g f X Y n y x (y * W + x) = f (y * W + x) := by
 unfold pnS; rw [plc_div y hW, plc_mod y hW, if_neg (by omega)]
theorem pnS_set (W : Nat) (g f : Nat → Int) (X Y n y x k : Nat) (hW : x < W) (hx : X ≤ x) (hx2 : x < X + n) (hy : Y ≤ y) {v : Int} (hv : v = over (g (y * W + x)) (f (y * W + x))) :
  (if k = y * W + x then v else pnS W g f X Y n y x k) = pnS W g f X Y n y (x + 1) k := by
 by_cases e : k = y * W + x
 ·rw [if_pos e]
  subst e
  unfold pnS
  rw [plc_div y hW, plc_mod y hW, if_pos ⟨hx, hx2, hy, by omega⟩, hv]
 ·rw [if_neg e]
  have e' := mt (plc_iff y k hW).2 e
  unfold pnS
  by_cases h : X ≤ k % W ∧ k % W < X + n ∧ Y ≤ k / W ∧ (k / W < y ∨ k / W = y ∧ k % W < x)
  ·rw [if_pos h, if_pos (by omega)]
  ·rw [if_neg h, if_neg (by omega)]
theorem pnS_end (W H : Nat) (f : Sf) (D : Nat → Int) (X Y n h k : Nat) (hk : k < W * H) (hI : ∀ p q : Nat, ((X ≤ p ∧ p < X + n ∧ Y ≤ q ∧ q < Y + h) ↔ (hasB (sfRect f) p q = true ∧ p < W ∧ q < H))) :
  pnS W (pnPx W f.x f.y (sfPic f)) D X Y n (Y + h) X k = pnF W f D k := by
 have h1 := plc_row hk
 have h2 := Nat.mod_lt k (plc_pos hk)
 have hi := hI (k % W) (k / W)
 unfold pnS pnF
 by_cases c : X ≤ k % W ∧ k % W < X + n ∧ Y ≤ k / W ∧ k / W < Y + h
 ·rw [if_pos (by omega), if_pos (hi.1 c).1]
 ·rw [if_neg (by omega), if_neg fun e => c (hi.2 ⟨e, h2, h1⟩)]
end Go.Proofs.YtokniebejilcbaaGreat
