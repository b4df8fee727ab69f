/- Occlusion as plain mathematics: the regions that are covered and seen, painting within regions, the numbers of points. No statement is proved here. -/
import Derived.Test.YtokniebejilcbaaGreatMA
import Derived.Test.YtokniebejilcbaaGreatMC
import Derived.Test.YtokniebejilcbaaGreatMB
import Derived.Test.YtokniebejilcbaaGreatDfsM
import Derived.Test.YtokniebejilcbaaGreatSfR
import Derived.Test.YtokniebejilcbaaGreatSfP
import Derived.Test.YtokniebejilcbaaGreatPnM
import Derived.Test.YtokniebejilcbaaGreatProg
import Derived.WalkKit
import Derived.ProofKit
import Derived.OpenShut
import Derived.WalkLawsBesides
import Derived.WalkSpells
import Derived.ShutString
import Derived.ChangeOld
import Derived.Below
import Derived.Lib.Hide
import Derived.BigQuiet
import Derived.Deep.QuietTactic
import Derived.Maps.AppendAt
import Derived.Deep.OwnRows
import Derived.Handy
import Derived.Deep.Draws
import Derived.OwnWalk
import Derived.Deep.AppendLies
import Derived.Deep.LoopGhost
import Derived.Deep.Onto
import Derived.Deep.MidRow
import Derived.Deep.WholeRow
import Derived.Laws.BitsAllLaws
import Derived.Lib.QuoteBits
import Derived.Deep.RegionHeld3
import Derived.Deep.DeepCutAuto
import Derived.Test.YtokniebejilcbaaGreatShelf
import Derived.Laws.CopyOwn
import Derived.Deep.RegionLaw
import Derived.Great.BuildSlice
import Derived.Laws.AppendOwn
import Derived.ChangeKeysEq
import Derived.Deep.RegionWith
namespace Go.Proofs.YtokniebejilcbaaGreat
open Go.RowKit
noncomputable def ocR (W H : Int) (f : Sf) : Rc := isect (sfRect f) ⟨0, 0, W, H⟩
theorem sfRect_ok (f : Sf) : (sfRect f).ok := by
 by_cases h : sfOk f ∧ f.vis = true
 ·obtain ⟨e1, e2, e3⟩ := sfPic_ok h.1
  rw [sfRect_yes h.1 h.2, ← e1, ← e2]
  have h1 := e3.1
  obtain ⟨_, hx, hy, _⟩ := h.1
  unfold szOk at h1
  unfold Rc.ok
  dsimp only
  omega
 ·rw [sfRect_no h]; unfold Rc.ok; dsimp only; omega
structure InScr (W H : Nat) (r : Rc) : Prop where
 n : ∃ X Y w h : Nat, r = ⟨X, Y, w, h⟩ ∧ X + w ≤ W ∧ Y + h ≤ H
theorem scr_ok {W H : Nat} (wl : 1 ≤ W ∧ W ≤ 16) (hl : 1 ≤ H ∧ H ≤ 16) : (⟨0, 0, (W : Int), (H : Int)⟩ : Rc).ok := by unfold Rc.ok; dsimp only; omega
theorem ocR_in {W H : Nat} (wl : 1 ≤ W ∧ W ≤ 16) (hl : 1 ≤ H ∧ H ≤ 16) (f : Sf) : InScr W H (ocR W H f) := by
 have hr := sfRect_ok f
 have hs := scr_ok wl hl
 unfold ocR
 generalize sfRect f = r at hr
 refine ⟨?_⟩
 rcases isect_cases r ⟨0, 0, W, H⟩ hr hs with ⟨h, e⟩ | ⟨h, e⟩
 ·rw [e]; unfold isectRaw; unfold isectIn at h; dsimp only at h ⊢
  refine ⟨(max r.x 0).toNat, (max r.y 0).toNat, (min (r.x + r.w) (0 + W) - max r.x 0).toNat, (min (r.y + r.h) (0 + H) - max r.y 0).toNat, ?_, by omega, by omega⟩
  rw [show (((max r.x 0).toNat : Nat) : Int) = max r.x 0 by omega, show (((max r.y 0).toNat : Nat) : Int) = max r.y 0 by omega, show (((min (r.x + r.w) (0 + W) - max r.x 0).toNat : Nat) : Int) = min (r.x + r.w) (0 + W) - max r.x 0 by omega, show (((min (r.y + r.h) (0 + H) - max r.y 0).toNat : Nat) : Int) = min (r.y + r.h) (0 + H) - max r.y 0 by omega]
 ·rw [e]; exact ⟨0, 0, 0, 0, rfl, by omega, by omega⟩
def inRc (r : Rc) (p q : Nat) : Prop := r.x ≤ p ∧ (p : Int) < r.x + r.w ∧ r.y ≤ q ∧ (q : Int) < r.y + r.h
theorem ocR_has {W H : Nat} (wl : 1 ≤ W ∧ W ≤ 16) (hl : 1 ≤ H ∧ H ≤ 16) (f : Sf) (p q : Nat) : inRc (ocR W H f) p q ↔ (hasB (sfRect f) p q = true ∧ p < W ∧ q < H) := by
 have hr := sfRect_ok f
 have hs := scr_ok wl hl
 unfold ocR inRc
 generalize sfRect f = r at hr
 have hh : hasB r p q = true ↔ (r.x ≤ p ∧ (p : Int) < r.x + r.w ∧ r.y ≤ q ∧ (q : Int) < r.y + r.h) := by
  unfold hasB
  rw [decide_eq_true_iff]
  exact ⟨fun h => h.2, fun h => ⟨hr, h⟩⟩
 rw [hh]
 rcases isect_cases r ⟨0, 0, W, H⟩ hr hs with ⟨h, e⟩ | ⟨h, e⟩
 ·rw [e]; unfold isectRaw; unfold isectIn at h; dsimp only at h ⊢; omega
 ·rw [e]; unfold isectIn at h; dsimp only at h ⊢; omega
theorem InScr.gridOf {W H : Nat} {r : Rc} (h : InScr W H r) (hW : W ≤ 16) (hH : H ≤ 16) (p q : Nat) (hp : p < 16) : gridOf [r] (q * 16 + p) = true ↔ inRc r p q := by
 obtain ⟨X, Y, w, hh, rfl, h1, h2⟩ := h.n
 have e1 : (q * 16 + p) % 16 = p := by omega
 have e2 : (q * 16 + p) / 16 = q := by omega
 rw [gridOf_iff, e1, e2]
 unfold inRc
 constructor
 ·rintro ⟨r, hr, _, h⟩
  obtain rfl := List.mem_singleton.1 hr
  exact h
 ·intro h
  refine ⟨_, List.mem_singleton.2 rfl, ?_, h⟩
  unfold Rc.ok
  dsimp only
  omega
theorem rowCnt_rect {g : Nat → Bool} {X n y : Nat} (hX : X + n ≤ 16) (hg : ∀ p, p < 16 → (g (y * 16 + p) = true ↔ X ≤ p ∧ p < X + n)) (x : Nat) (hx : x ≤ 16) : rowCnt g y x = ((X + n - max x X : Nat) : Int) := by
  obtain ⟨d, hd⟩ : ∃ d, d = 16 - x := ⟨_, rfl⟩
  induction d generalizing x with
  | zero => rw [rowCnt, if_neg (by omega)]; omega
  | succ d ih =>
    rw [rowCnt, if_pos (by omega), ih (x + 1) (by omega) (by omega)]
    have hq := hg x (by omega)
    by_cases h : g (y * 16 + x) = true
    · rw [if_pos h]; have := hq.1 h; omega
    · rw [if_neg h]
      have : ¬ (X ≤ x ∧ x < X + n) := fun k => h (hq.2 k)
      omega
theorem cntRows_rect {g : Nat → Bool} {X Y n m : Nat} (hX : X + n ≤ 16) (hY : Y + m ≤ 16) (hg : ∀ q p, p < 16 → (g (q * 16 + p) = true ↔ X ≤ p ∧ p < X + n ∧ Y ≤ q ∧ q < Y + m)) (y : Nat) (hy : y ≤ 16) : cntRows g y = ((n * (Y + m - max y Y) : Nat) : Int) := by
  obtain ⟨d, hd⟩ : ∃ d, d = 16 - y := ⟨_, rfl⟩
  induction d generalizing y with
  | zero => rw [cntRows, if_neg (by omega), show Y + m - max y Y = 0 by omega]; simp
  | succ d ih =>
    rw [cntRows, if_pos (by omega), ih (y + 1) (by omega) (by omega)]
    by_cases h : Y ≤ y ∧ y < Y + m
    · rw [rowCnt_rect hX (fun p hp => by rw [hg y p hp]; omega) 0 (by omega), show Y + m - max y Y = (Y + m - max (y + 1) Y) + 1 by omega, Nat.mul_succ, show X + n - max 0 X = n by omega]
      push_cast
      omega
    · rw [rowCnt_none g y 0 (fun p hp => by
        have := hg y p hp
        rcases e : g (y * 16 + p) with _ | _
        · rfl
        · have := this.1 e; omega), show Y + m - max y Y = Y + m - max (y + 1) Y by omega]
      omega
theorem ok_form (L : List Rc) : okL (canon (gridOf L)) = true := ok_canon _
noncomputable def ocF (W : Nat) (f : Sf) (L : List Rc) (D : Nat → Int) : Nat → Int := fun k => if gridOf L (k / W * 16 + k % W) = true then over (pnPx W f.x f.y (sfPic f) k) (D k) else D k
noncomputable def oc1 (W : Nat) (D : List Int) (f : Sf) (L : List Rc) : List Int := tabI D.length (ocF W f L (fun k => D.getD k 0))
def Apart (L : List Rc) : Prop := L.Pairwise fun a b => ∀ p q : Nat, inRc a p q → ¬ inRc b p q
theorem one_apart (r : Rc) : Apart [r] := List.pairwise_singleton _ _
structure PartsOk (W H : Nat) (f : Sf) (L : List Rc) : Prop where
 scr : ∀ r ∈ L, InScr W H r
 pic : ∀ r ∈ L, ∀ p q : Nat, inRc r p q → hasB (sfRect f) p q = true
 ap : Apart L
theorem parts_one {W H : Nat} (wl : 1 ≤ W ∧ W ≤ 16) (hl : 1 ≤ H ∧ H ≤ 16) (f : Sf) : PartsOk W H f [ocR W H f] :=
 ⟨fun r hr => by rw [List.mem_singleton.1 hr]; exact ocR_in wl hl f, fun r hr p q h => by rw [List.mem_singleton.1 hr] at h; exact ((ocR_has wl hl f p q).1 h).1, one_apart _⟩
theorem oc1_one {W H : Nat} (wl : 1 ≤ W ∧ W ≤ 16) (hl : 1 ≤ H ∧ H ≤ 16) {D : List Int} (hD : D.length = W * H) (f : Sf) : oc1 W D f [ocR W H f] = pn1 W D f := by
 unfold oc1 pn1
 refine tabI_congr _ fun k hk => ?_
 rw [hD] at hk
 have h1 := plc_row hk
 have h2 := Nat.mod_lt k (plc_pos hk)
 have h3 := (ocR_in wl hl f).gridOf wl.2 hl.2 (k % W) (k / W) (by omega)
 rw [ocR_has wl hl] at h3
 unfold ocF pnF
 by_cases c : gridOf [ocR W H f] (k / W * 16 + k % W) = true
 ·rw [if_pos c, if_pos (h3.1 c).1]
 ·rw [if_neg c, if_neg fun e => c (h3.2 ⟨e, h2, h1⟩)]
theorem ocF_nil (W : Nat) (f : Sf) (D : Nat → Int) (k : Nat) : ocF W f [] D k = D k := by unfold ocF; rw [gridOf_nil]; rfl
theorem ocF_next {W H : Nat} (wl : 1 ≤ W ∧ W ≤ 16) (hl : 1 ≤ H ∧ H ≤ 16) {f : Sf} {L : List Rc} (hL : PartsOk W H f L) {D : Nat → Int} {j X Y n h : Nat} (hr : L[j]? = some ⟨X, Y, n, h⟩) (k : Nat) (hk : k < W * H) :
  pnS W (pnPx W f.x f.y (sfPic f)) (ocF W f (L.take j) D) X Y n (Y + h) X k = ocF W f (L.take (j + 1)) D k := by
 have h1 := plc_row hk
 have h2 := Nat.mod_lt k (plc_pos hk)
 have hm := List.mem_of_getElem? hr
 have hi := hL.scr _ hm
 have hg := hi.gridOf wl.2 hl.2 (k % W) (k / W) (by omega)
 have ht : L.take (j + 1) = L.take j ++ [⟨X, Y, n, h⟩] := by rw [List.take_add_one, hr]; rfl
 have hno : inRc ⟨X, Y, n, h⟩ (k % W) (k / W) → gridOf (L.take j) (k / W * 16 + k % W) = false := fun hin => by
  rcases e : gridOf (L.take j) (k / W * 16 + k % W) with _ | _
  ·rfl
  ·rw [gridOf_iff, show (k / W * 16 + k % W) % 16 = k % W by omega, show (k / W * 16 + k % W) / 16 = k / W by omega] at e
   obtain ⟨r, hr2, _, h5⟩ := e
   have hp := hL.ap
   have hs : L = L.take j ++ L.drop j := (List.take_append_drop j L).symm
   unfold Apart at hp
   rw [hs, List.pairwise_append] at hp
   have hd : (⟨X, Y, n, h⟩ : Rc) ∈ L.drop j := List.mem_of_getElem? (i := 0) (by rw [List.getElem?_drop]; exact hr)
   exact absurd hin (hp.2.2 r hr2 _ hd _ _ h5)
 unfold pnS
 by_cases c : inRc ⟨X, Y, n, h⟩ (k % W) (k / W)
 ·have hn := hno c
  have hy : gridOf (L.take (j + 1)) (k / W * 16 + k % W) = true := by rw [ht, gridOf_append, (hg.2 c), Bool.or_true]
  have c' := c
  unfold inRc at c'
  dsimp only at c'
  rw [if_pos (by omega)]
  unfold ocF
  rw [hn, hy]
  rfl
 ·have c' := c
  unfold inRc at c'
  dsimp only at c'
  rw [if_neg (by omega)]
  have hf : gridOf [⟨(X : Int), (Y : Int), (n : Int), (h : Int)⟩] (k / W * 16 + k % W) = false := by
   rcases e : gridOf [⟨(X : Int), (Y : Int), (n : Int), (h : Int)⟩] (k / W * 16 + k % W) with _ | _
   ·rfl
   ·exact absurd (hg.1 e) c
  unfold ocF
  rw [ht, gridOf_append, hf, Bool.or_false]
end Go.Proofs.YtokniebejilcbaaGreat
