/- Texts of mine in one file: PnM, OcM. No statement is proved here. -/
import Derived.Test.YtnndifemkichmaaGreatMA
import Derived.Test.YtnndifemkichmaaGreatMBv0
import Derived.Test.YtnndifemkichmaaGreatMB
import Derived.Test.YtnndifemkichmaaGreatMAv0
import Derived.Test.YtnndifemkichmaaGreatB0sa
import Derived.Test.YtnndifemkichmaaGreatSfR
import Derived.Test.YtnndifemkichmaaGreatProg
import Derived.WalkKit
import Derived.ProofKit
import Derived.OpenShut
import Derived.WalkLawsBesides
import Derived.WalkSpells
import Derived.ShutString
import Derived.ChangeOld
import Derived.Below
import Derived.Lib.Hide
import Derived.BigQuiet
import Derived.Deep.QuietTactic
import Derived.Maps.AppendAt
import Derived.Deep.OwnRows
import Derived.Handy
import Derived.Deep.Draws
import Derived.OwnWalk
import Derived.Deep.AppendLies
import Derived.Deep.LoopGhost
import Derived.Deep.Onto
import Derived.Deep.MidRow
import Derived.Deep.WholeRow
import Derived.Laws.BitsAllLaws
import Derived.Lib.QuoteBits
import Derived.Deep.RegionHeld3
import Derived.Deep.DeepCutAuto
import Derived.Test.YtnndifemkichmaaGreatShelf
import Derived.Laws.CopyOwn
import Derived.Deep.RegionLaw
import Derived.Great.BuildSlice
import Derived.Laws.AppendOwn
import Derived.ChangeKeysEq
import Derived.Deep.RegionWith
namespace Go.Proofs.YtnndifemkichmaaGreat
open Go.RowKit
def pnPx (W : Nat) (x y : Int) (P : Im) (k : Nat) : Int := P.d.getD ((((k / W : Nat) : Int) - y) * P.w + (((k % W : Nat) : Int) - x)).toNat 0
noncomputable def pnF (W : Nat) (f : Sf) (D : Nat → Int) : Nat → Int := fun k => if hasB (sfRect f) (k % W : Nat) (k / W : Nat) = true then over (pnPx W f.x f.y (sfPic f) k) (D k) else D k
noncomputable def pn1 (W : Nat) (D : List Int) (f : Sf) : List Int := tabI D.length (pnF W f (fun k => D.getD k 0))
noncomputable def pnL (W : Nat) (D : List Int) (fs : List Sf) : List Int := fs.foldl (pn1 W) D
open Classical in
noncomputable def pnIm (s : Sn) : Im := if snOk s then ⟨s.w, s.h, pnL s.w.toNat (flatN s.w s.h s.back) s.fs⟩ else zeroIm
theorem pnIm_yes {s : Sn} (h : snOk s) : pnIm s = ⟨s.w, s.h, pnL s.w.toNat (flatN s.w s.h s.back) s.fs⟩ := if_pos h
theorem pnIm_no {s : Sn} (h : ¬ snOk s) : pnIm s = zeroIm := if_neg h
theorem pn1_len (W : Nat) (D : List Int) (f : Sf) : (pn1 W D f).length = D.length := tabI_length _ _
theorem pnL_len (W : Nat) (D : List Int) (fs : List Sf) : (pnL W D fs).length = D.length := by
 unfold pnL
 induction fs generalizing D with
 | nil => rfl
 | cons f fs ih => rw [List.foldl_cons, ih, pn1_len]
theorem pnL_take (W : Nat) (D : List Int) {L : List Sf} {k : Nat} {f : Sf} (h : L[k]? = some f) : pnL W D (L.take (k + 1)) = pn1 W (pnL W D (L.take k)) f := by
 unfold pnL
 rw [List.take_add_one, h, Option.toList_some, List.foldl_append]; rfl
theorem has_pic {f : Sf} {x y : Int} (h : hasB (sfRect f) x y = true) : sfOk f ∧ (0 ≤ x - f.x ∧ x - f.x < (sfPic f).w) ∧ (0 ≤ y - f.y ∧ y - f.y < (sfPic f).h) ∧ sfRect f = ⟨f.x, f.y, (sfPic f).w, (sfPic f).h⟩ := by
 by_cases ho : sfOk f ∧ f.vis = true
 ·obtain ⟨e1, e2, _⟩ := sfPic_ok ho.1
  have hr := sfRect_yes ho.1 ho.2
  rw [← e1, ← e2] at hr
  rw [hr] at h
  unfold hasB at h
  have h := (of_decide_eq_true h).2
  dsimp only at h
  exact ⟨ho.1, by omega, by omega, hr⟩
 ·rw [sfRect_no ho] at h
  unfold hasB at h
  have h := (of_decide_eq_true h).2
  dsimp only at h
  omega
theorem zeroIm_bad : ¬ imOk zeroIm.w zeroIm.h zeroIm.d := fun h => by have := h.1; unfold szOk zeroIm at this; dsimp only at this; omega
def pnS (W : Nat) (g f : Nat → Int) (X Y n y x : Nat) : Nat → Int := fun k =>
 if X ≤ k % W ∧ k % W < X + n ∧ Y ≤ k / W ∧ (k / W < y ∨ k / W = y ∧ k % W < x) then over (g k) (f k) else f k
theorem pnS_start (W : Nat) (g f : Nat → Int) (X Y n k : Nat) : pnS W g f X Y n Y X k = f k := if_neg (by omega)
theorem pnS_row (W : Nat) (g f : Nat → Int) (X Y n y k : Nat) : pnS W g f X Y n y (X + n) k = pnS W g f X Y n (y + 1) X k := by
 unfold pnS
 by_cases h : X ≤ k % W ∧ k % W < X + n ∧ Y ≤ k / W ∧ (k / W < y ∨ k / W = y ∧ k % W < X + n)
 ·rw [if_pos h, if_pos (by omega)]
 ·rw [if_neg h, if_neg (by omega)]
theorem pnS_at (W : Nat) (g f : Nat → Int) (X Y n y x : Nat) (hW : x < W) : pnS W g f X Y n y x (y * W + x) = f (y * W + x) := by
 unfold pnS; rw [plc_div y hW, plc_mod y hW, if_neg (by omega)]
theorem pnS_set (W : Nat) (g f : Nat → Int) (X Y n y x k : Nat) (hW : x < W) (hx : X ≤ x) (hx2 : x < X + n) (hy : Y ≤ y) {v : Int} (hv : v = over (g (y * W + x)) (f (y * W + x))) :
  (if k = y * W + x then v else pnS W g f X Y n y x k) = pnS W g f X Y n y (x + 1) k := by
 by_cases e : k = y * W + x
 ·rw [if_pos e]
  subst e
  unfold pnS
  rw [plc_div y hW, plc_mod y hW, if_pos ⟨hx, hx2, hy, by omega⟩, hv]
 ·rw [if_neg e]
  have e' := mt (plc_iff y k hW).2 e
  unfold pnS
  by_cases h : X ≤ k % W ∧ k % W < X + n ∧ Y ≤ k / W ∧ (k / W < y ∨ k / W = y ∧ k % W < x)
  ·rw [if_pos h, if_pos (by omega)]
  ·rw [if_neg h, if_neg (by omega)]
theorem pnS_end (W H : Nat) (f : Sf) (D : Nat → Int) (X Y n h k : Nat) (hk : k < W * H) (hI : ∀ p q : Nat, ((X ≤ p ∧ p < X + n ∧ Y ≤ q ∧ q < Y + h) ↔ (hasB (sfRect f) p q = true ∧ p < W ∧ q < H))) :
  pnS W (pnPx W f.x f.y (sfPic f)) D X Y n (Y + h) X k = pnF W f D k := by
 have h1 := plc_row hk
 have h2 := Nat.mod_lt k (plc_pos hk)
 have hi := hI (k % W) (k / W)
 unfold pnS pnF
 by_cases c : X ≤ k % W ∧ k % W < X + n ∧ Y ≤ k / W ∧ k / W < Y + h
 ·rw [if_pos (by omega), if_pos (hi.1 c).1]
 ·rw [if_neg (by omega), if_neg fun e => c (hi.2 ⟨e, h2, h1⟩)]
end Go.Proofs.YtnndifemkichmaaGreat
namespace Go.Proofs.YtnndifemkichmaaGreat
open Go.RowKit
structure InScr (W H : Nat) (r : Rc) : Prop where
 n : ∃ X Y w h : Nat, r = ⟨X, Y, w, h⟩ ∧ X + w ≤ W ∧ Y + h ≤ H
theorem ocR_in {W H : Nat} (wl : 1 ≤ W ∧ W ≤ 16) (hl : 1 ≤ H ∧ H ≤ 16) (f : Sf) : InScr W H (ocR W H f) := by
 have hr := sfRect_ok f
 have hs := scr_ok wl hl
 unfold ocR
 generalize sfRect f = r at hr
 refine ⟨?_⟩
 rcases isect_cases r ⟨0, 0, W, H⟩ hr hs with ⟨h, e⟩ | ⟨h, e⟩
 ·rw [e]; unfold isectRaw; unfold isectIn at h; dsimp only at h ⊢
  refine ⟨(max r.x 0).toNat, (max r.y 0).toNat, (min (r.x + r.w) (0 + W) - max r.x 0).toNat, (min (r.y + r.h) (0 + H) - max r.y 0).toNat, ?_, by omega, by omega⟩
  rw [show (((max r.x 0).toNat : Nat) : Int) = max r.x 0 by omega, show (((max r.y 0).toNat : Nat) : Int) = max r.y 0 by omega, show (((min (r.x + r.w) (0 + W) - max r.x 0).toNat : Nat) : Int) = min (r.x + r.w) (0 + W) - max r.x 0 by omega, show (((min (r.y + r.h) (0 + H) - max r.y 0).toNat : Nat) : Int) = min (r.y + r.h) (0 + H) - max r.y 0 by omega]
 ·rw [e]; exact ⟨0, 0, 0, 0, rfl, by omega, by omega⟩
def inRc (r : Rc) (p q : Nat) : Prop := r.x ≤ p ∧ (p : Int) < r.x + r.w ∧ r.y ≤ q ∧ (q : Int) < r.y + r.h
theorem ocR_has {W H : Nat} (wl : 1 ≤ W ∧ W ≤ 16) (hl : 1 ≤ H ∧ H ≤ 16) (f : Sf) (p q : Nat) : inRc (ocR W H f) p q ↔ (hasB (sfRect f) p q = true ∧ p < W ∧ q < H) := by
 have hr := sfRect_ok f
 have hs := scr_ok wl hl
 unfold ocR inRc
 generalize sfRect f = r at hr
 have hh : hasB r p q = true ↔ (r.x ≤ p ∧ (p : Int) < r.x + r.w ∧ r.y ≤ q ∧ (q : Int) < r.y + r.h) := by
  unfold hasB
  rw [decide_eq_true_iff]
  exact ⟨fun h => h.2, fun h => ⟨hr, h⟩⟩
 rw [hh]
 rcases isect_cases r ⟨0, 0, W, H⟩ hr hs with ⟨h, e⟩ | ⟨h, e⟩
 ·rw [e]; unfold isectRaw; unfold isectIn at h; dsimp only at h ⊢; omega
 ·rw [e]; unfold isectIn at h; dsimp only at h ⊢; omega
theorem InScr.gridOf {W H : Nat} {r : Rc} (h : InScr W H r) (hW : W ≤ 16) (hH : H ≤ 16) (p q : Nat) (hp : p < 16) : gridOf [r] (q * 16 + p) = true ↔ inRc r p q := by
 obtain ⟨X, Y, w, hh, rfl, h1, h2⟩ := h.n
 have e1 : (q * 16 + p) % 16 = p := by omega
 have e2 : (q * 16 + p) / 16 = q := by omega
 rw [gridOf_iff, e1, e2]
 unfold inRc
 constructor
 ·rintro ⟨r, hr, _, h⟩
  obtain rfl := List.mem_singleton.1 hr
  exact h
 ·intro h
  refine ⟨_, List.mem_singleton.2 rfl, ?_, h⟩
  unfold Rc.ok
  dsimp only
  omega
noncomputable def ocF (W : Nat) (f : Sf) (L : List Rc) (D : Nat → Int) : Nat → Int := fun k => if gridOf L (k / W * 16 + k % W) = true then over (pnPx W f.x f.y (sfPic f) k) (D k) else D k
noncomputable def oc1 (W : Nat) (D : List Int) (f : Sf) (L : List Rc) : List Int := tabI D.length (ocF W f L (fun k => D.getD k 0))
def Apart (L : List Rc) : Prop := L.Pairwise fun a b => ∀ p q : Nat, inRc a p q → ¬ inRc b p q
theorem one_apart (r : Rc) : Apart [r] := List.pairwise_singleton _ _
structure PartsOk (W H : Nat) (f : Sf) (L : List Rc) : Prop where
 scr : ∀ r ∈ L, InScr W H r
 pic : ∀ r ∈ L, ∀ p q : Nat, inRc r p q → hasB (sfRect f) p q = true
 ap : Apart L
theorem parts_one {W H : Nat} (wl : 1 ≤ W ∧ W ≤ 16) (hl : 1 ≤ H ∧ H ≤ 16) (f : Sf) : PartsOk W H f [ocR W H f] :=
 ⟨fun r hr => by rw [List.mem_singleton.1 hr]; exact ocR_in wl hl f, fun r hr p q h => by rw [List.mem_singleton.1 hr] at h; exact ((ocR_has wl hl f p q).1 h).1, one_apart _⟩
theorem oc1_one {W H : Nat} (wl : 1 ≤ W ∧ W ≤ 16) (hl : 1 ≤ H ∧ H ≤ 16) {D : List Int} (hD : D.length = W * H) (f : Sf) : oc1 W D f [ocR W H f] = pn1 W D f := by
 unfold oc1 pn1
 refine tabI_congr _ fun k hk => ?_
 rw [hD] at hk
 have h1 := plc_row hk
 have h2 := Nat.mod_lt k (plc_pos hk)
 have h3 := (ocR_in wl hl f).gridOf wl.2 hl.2 (k % W) (k / W) (by omega)
 rw [ocR_has wl hl] at h3
 unfold ocF pnF
 by_cases c : gridOf [ocR W H f] (k / W * 16 + k % W) = true
 ·rw [if_pos c, if_pos (h3.1 c).1]
 ·rw [if_neg c, if_neg fun e => c (h3.2 ⟨e, h2, h1⟩)]
theorem ocF_nil (W : Nat) (f : Sf) (D : Nat → Int) (k : Nat) : ocF W f [] D k = D k := by unfold ocF; rw [gridOf_nil]; rfl
theorem ocF_next {W H : Nat} (wl : 1 ≤ W ∧ W ≤ 16) (hl : 1 ≤ H ∧ H ≤ 16) {f : Sf} {L : List Rc} (hL : PartsOk W H f L) {D : Nat → Int} {j X Y n h : Nat} (hr : L[j]? = some ⟨X, Y, n, h⟩) (k : Nat) (hk : k < W * H) :
  pnS W (pnPx W f.x f.y (sfPic f)) (ocF W f (L.take j) D) X Y n (Y + h) X k = ocF W f (L.take (j + 1)) D k := by
 have h1 := plc_row hk
 have h2 := Nat.mod_lt k (plc_pos hk)
 have hm := List.mem_of_getElem? hr
 have hi := hL.scr _ hm
 have hg := hi.gridOf wl.2 hl.2 (k % W) (k / W) (by omega)
 have ht : L.take (j + 1) = L.take j ++ [⟨X, Y, n, h⟩] := by rw [List.take_add_one, hr]; rfl
 have hno : inRc ⟨X, Y, n, h⟩ (k % W) (k / W) → gridOf (L.take j) (k / W * 16 + k % W) = false := fun hin => by
  rcases e : gridOf (L.take j) (k / W * 16 + k % W) with _ | _
  ·rfl
  ·rw [gridOf_iff, show (k / W * 16 + k % W) % 16 = k % W by omega, show (k / W * 16 + k % W) / 16 = k / W by omega] at e
   obtain ⟨r, hr2, _, h5⟩ := e
   have hp := hL.ap
   have hs : L = L.take j ++ L.drop j := (List.take_append_drop j L).symm
   unfold Apart at hp
   rw [hs, List.pairwise_append] at hp
   have hd : (⟨X, Y, n, h⟩ : Rc) ∈ L.drop j := List.mem_of_getElem? (i := 0) (by rw [List.getElem?_drop]; exact hr)
   exact absurd hin (hp.2.2 r hr2 _ hd _ _ h5)
 unfold pnS
 by_cases c : inRc ⟨X, Y, n, h⟩ (k % W) (k / W)
 ·have hn := hno c
  have hy : gridOf (L.take (j + 1)) (k / W * 16 + k % W) = true := by rw [ht, gridOf_append, (hg.2 c), Bool.or_true]
  have c' := c
  unfold inRc at c'
  dsimp only at c'
  rw [if_pos (by omega)]
  unfold ocF
  rw [hn, hy]
  rfl
 ·have c' := c
  unfold inRc at c'
  dsimp only at c'
  rw [if_neg (by omega)]
  have hf : gridOf [⟨(X : Int), (Y : Int), (n : Int), (h : Int)⟩] (k / W * 16 + k % W) = false := by
   rcases e : gridOf [⟨(X : Int), (Y : Int), (n : Int), (h : Int)⟩] (k / W * 16 + k % W) with _ | _
   ·rfl
   ·exact absurd (hg.1 e) c
  unfold ocF
  rw [ht, gridOf_append, hf, Bool.or_false]
end Go.Proofs.YtnndifemkichmaaGreat
