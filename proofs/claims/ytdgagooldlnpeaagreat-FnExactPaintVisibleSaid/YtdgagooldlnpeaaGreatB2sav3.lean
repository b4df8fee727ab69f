/- Texts of mine in one file: OcM. No statement is proved here. -/
import Derived.Test.YtdgagooldlnpeaaGreatMAv013
import Derived.Test.YtdgagooldlnpeaaGreatMBv3
import Derived.Test.YtdgagooldlnpeaaGreatMA
import Derived.Test.YtdgagooldlnpeaaGreatB2sa
import Derived.Test.YtdgagooldlnpeaaGreatB2sav013
import Derived.Test.YtdgagooldlnpeaaGreatMAv03
import Derived.Test.YtdgagooldlnpeaaGreatMAv23
import Derived.Test.YtdgagooldlnpeaaGreatProg
import Derived.WalkKit
import Derived.ProofKit
import Derived.OpenShut
import Derived.WalkLawsBesides
import Derived.WalkSpells
import Derived.ShutString
import Derived.ChangeOld
import Derived.Below
import Derived.Lib.Hide
import Derived.BigQuiet
import Derived.Deep.QuietTactic
import Derived.Maps.AppendAt
import Derived.Deep.OwnRows
import Derived.Handy
import Derived.Deep.Draws
import Derived.OwnWalk
import Derived.Deep.AppendLies
import Derived.Deep.LoopGhost
import Derived.Deep.Onto
import Derived.Deep.MidRow
import Derived.Deep.WholeRow
import Derived.Laws.BitsAllLaws
import Derived.Lib.QuoteBits
import Derived.Deep.RegionHeld3
import Derived.Deep.DeepCutAuto
import Derived.Test.YtdgagooldlnpeaaGreatShelf
import Derived.Laws.CopyOwn
import Derived.Deep.RegionLaw
import Derived.Great.BuildSlice
import Derived.Laws.AppendOwn
import Derived.ChangeKeysEq
import Derived.Deep.RegionWith
namespace Go.Proofs.YtdgagooldlnpeaaGreat
open Go.RowKit
theorem rowCnt_rect {g : Nat → Bool} {X n y : Nat} (hX : X + n ≤ 16) (hg : ∀ p, p < 16 → (g (y * 16 + p) = true ↔ X ≤ p ∧ p < X + n)) (x : Nat) (hx : x ≤ 16) : rowCnt g y x = ((X + n - max x X : Nat) : Int) := by
  obtain ⟨d, hd⟩ : ∃ d, d = 16 - x := ⟨_, rfl⟩
  induction d generalizing x with
  | zero => rw [rowCnt, if_neg (by omega)]; omega
  | succ d ih =>
    rw [rowCnt, if_pos (by omega), ih (x + 1) (by omega) (by omega)]
    have hq := hg x (by omega)
    by_cases h : g (y * 16 + x) = true
    · rw [if_pos h]; have := hq.1 h; omega
    · rw [if_neg h]
      have : ¬ (X ≤ x ∧ x < X + n) := fun k => h (hq.2 k)
      omega
theorem cntRows_rect {g : Nat → Bool} {X Y n m : Nat} (hX : X + n ≤ 16) (hY : Y + m ≤ 16) (hg : ∀ q p, p < 16 → (g (q * 16 + p) = true ↔ X ≤ p ∧ p < X + n ∧ Y ≤ q ∧ q < Y + m)) (y : Nat) (hy : y ≤ 16) : cntRows g y = ((n * (Y + m - max y Y) : Nat) : Int) := by
  obtain ⟨d, hd⟩ : ∃ d, d = 16 - y := ⟨_, rfl⟩
  induction d generalizing y with
  | zero => rw [cntRows, if_neg (by omega), show Y + m - max y Y = 0 by omega]; simp
  | succ d ih =>
    rw [cntRows, if_pos (by omega), ih (y + 1) (by omega) (by omega)]
    by_cases h : Y ≤ y ∧ y < Y + m
    · rw [rowCnt_rect hX (fun p hp => by rw [hg y p hp]; omega) 0 (by omega), show Y + m - max y Y = (Y + m - max (y + 1) Y) + 1 by omega, Nat.mul_succ, show X + n - max 0 X = n by omega]
      push_cast
      omega
    · rw [rowCnt_none g y 0 (fun p hp => by
        have := hg y p hp
        rcases e : g (y * 16 + p) with _ | _
        · rfl
        · have := this.1 e; omega), show Y + m - max y Y = Y + m - max (y + 1) Y by omega]
      omega
theorem area_form (L : List Rc) : areaR (canon (gridOf L)) = cntRows (gridOf L) 0 := by
 unfold areaR
 rw [if_pos (ok_form L), canon_area]
theorem InScr.area {W H : Nat} {r : Rc} (h : InScr W H r) (hW : W ≤ 16) (hH : H ≤ 16) : areaR (canon (Go.Proofs.YtdgagooldlnpeaaGreat.gridOf [r])) = r.w * r.h := by
 rw [area_form]
 have hg := fun q p hp => h.gridOf hW hH p q hp
 obtain ⟨X, Y, w, hh, rfl, h1, h2⟩ := h.n
 unfold inRc at hg
 dsimp only at hg ⊢
 rw [cntRows_rect (X := X) (Y := Y) (n := w) (m := hh) (by omega) (by omega) (fun q p hp => by rw [hg q p hp]; omega) 0 (by omega), show Y + hh - max 0 Y = hh by omega]
 push_cast
 rfl
theorem scr_less {W H : Nat} (wl : 1 ≤ W ∧ W ≤ 16) (hl : 1 ≤ H ∧ H ≤ 16) (fs : List Sf) : areaR (joinL (fun p q => p && !q) (canon (gridOf [⟨0, 0, W, H⟩])) (ocC W H fs)) = (W : Int) * H - areaR (ocC W H fs) := by
 have hi : InScr W H ⟨0, 0, W, H⟩ := ⟨0, 0, W, H, rfl, by omega, by omega⟩
 have h := (sets_area (A := canon (gridOf [⟨0, 0, W, H⟩])) (B := ocC W H fs) (ok_form _) (ok_form _)).2
 have h2 : joinL (fun p q => p && q) (canon (gridOf [⟨0, 0, W, H⟩])) (ocC W H fs) = ocC W H fs := by
  rw [joinL_yes ⟨ok_form _, ocC_ok _ _ _⟩]
  refine (canon_congr fun k hk => ?_).trans (canon_idem _)
  show (gridOf (canon (gridOf [⟨0, 0, W, H⟩])) k && gridOf (ocC W H fs) k) = gridOf (ocC W H fs) k
  rcases e : gridOf (ocC W H fs) k with _ | _
  ·simp
  ·have e1 : k = k / 16 * 16 + k % 16 := by omega
   rw [e1] at e ⊢
   obtain ⟨f, _, _, _, h5, h6⟩ := (ocC_in wl hl fs (k % 16) (k / 16) (by omega) (by omega)).1 e
   rw [gridOf_canon _ _ (by omega), (hi.gridOf wl.2 hl.2 (k % 16) (k / 16) (by omega)).2 (by unfold inRc; dsimp only; omega)]
   rfl
 rw [h2, hi.area wl.2 hl.2] at h
 dsimp only at h
 omega
end Go.Proofs.YtdgagooldlnpeaaGreat
