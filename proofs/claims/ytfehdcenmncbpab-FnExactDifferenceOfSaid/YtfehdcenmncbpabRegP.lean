/- Plain mathematics of regions, continued: how many rectangles a canonical form has; its runs, as a loop over the places builds them. No statement is proved here. -/
import Derived.Test.YtfehdcenmncbpabRectC
import Derived.Test.YtfehdcenmncbpabRegM
import Derived.Test.YtfehdcenmncbpabHasC
import Derived.Test.YtfehdcenmncbpabProg
import Derived.WalkKit
import Derived.ProofKit
import Derived.OpenShut
import Derived.WalkLawsBesides
import Derived.WalkSpells
import Derived.ShutString
import Derived.ChangeOld
import Derived.Below
import Derived.Lib.Hide
import Derived.Deep.RegionHeld3
import Derived.Deep.DeepCutAuto
namespace Go.Proofs.Ytfehdcenmncbpab
theorem rowCnt_le (g : Nat → Bool) (y x : Nat) (hx : x ≤ 16) : rowCnt g y x ≤ 16 - (x : Int) ∧ 0 ≤ rowCnt g y x := by
  fun_induction rowCnt g y x with
  | case1 x h ih => have := ih (by omega); split <;> (push_cast at this; omega)
  | case2 x h => omega
theorem cntRows_le (g : Nat → Bool) (y : Nat) (hy : y ≤ 16) : cntRows g y ≤ 16 * (16 - (y : Int)) ∧ 0 ≤ cntRows g y := by
  fun_induction cntRows g y with
  | case1 y h ih => have := ih (by omega); have := rowCnt_le g y 0 (by omega); push_cast at this; omega
  | case2 y h => omega
theorem area_len (L : List Rc) (h : ∀ r ∈ L, OnScreen r) : (L.length : Int) ≤ areaL L := by
  induction L with
  | nil => simp [areaL]
  | cons r L ih =>
    have h1 := ih (fun s hs => h s (List.mem_cons_of_mem _ hs))
    have h2 := h r (List.mem_cons_self ..)
    unfold OnScreen at h2
    have h3 : 1 * 1 ≤ r.w * r.h := Int.mul_le_mul (by omega) (by omega) (by omega) (by omega)
    have h4 : areaL (r :: L) = r.w * r.h + areaL L := by simp [areaL]
    rw [h4, List.length_cons]
    push_cast
    omega
theorem canon_area (g : Nat → Bool) : areaL (canon g) = cntRows g 0 := area_bands g 0
theorem canon_len (g : Nat → Bool) : (canon g).length ≤ 256 := by
  have h1 := area_len (canon g) (bands_on g 0)
  have h2 := cntRows_le g 0 (by omega)
  rw [canon_area] at h1
  omega
theorem canon_part {g : Nat → Bool} {L M : List Rc} (h : canon g = L ++ M) : L.length ≤ 256 := by
  have := canon_len g
  rw [h, List.length_append] at this
  omega
theorem bands_open (g : Nat → Bool) (y h : Nat) (hy : y < 16) (hh : bandH g y = h) : bands g y = runs g y h 0 ++ bands g (y + h) := by
  rw [bands, if_pos hy, hh]
theorem bands_end (g : Nat → Bool) (y : Nat) (hy : 16 ≤ y) : bands g y = [] := by rw [bands, if_neg (by omega)]
theorem runs_open (g : Nat → Bool) (y h x u : Nat) (hx : x < 16) (hu : runW g y x = u) : runs g y h x = (if 0 < u then [⟨x, y, u, h⟩] else []) ++ runs g y h (x + u + 1) := by
  rw [runs, if_pos hx, hu]
theorem runs_end (g : Nat → Bool) (y h x : Nat) (hx : 16 ≤ x) : runs g y h x = [] := by rw [runs, if_neg (by omega)]
theorem bandFrom_go {g : Nat → Bool} {y h : Nat} (h1 : y + h < 16) (h2 : rowEq g y (y + h) = true) : bandFrom g y h = bandFrom g y (h + 1) := by
  conv => lhs; rw [bandFrom, if_pos ⟨h1, h2⟩]
theorem bandFrom_stop {g : Nat → Bool} {y h : Nat} (h1 : ¬ (y + h < 16 ∧ rowEq g y (y + h) = true)) : bandFrom g y h = h := by
  rw [bandFrom, if_neg h1]
theorem runFrom_go {g : Nat → Bool} {y x u : Nat} (h1 : x + u < 16) (h2 : g (y * 16 + (x + u)) = true) : runFrom g y x u = runFrom g y x (u + 1) := by
  conv => lhs; rw [runFrom, if_pos ⟨h1, h2⟩]
theorem runFrom_stop {g : Nat → Bool} {y x u : Nat} (h1 : ¬ (x + u < 16 ∧ g (y * 16 + (x + u)) = true)) : runFrom g y x u = u := by
  rw [runFrom, if_neg h1]
/-- The last rectangle of a list one place wider. -/
def bump : List Rc → List Rc
  | [] => []
  | [r] => [⟨r.x, r.y, r.w + 1, r.h⟩]
  | r :: s :: L => r :: bump (s :: L)
theorem bump_last (L : List Rc) (r : Rc) : bump (L ++ [r]) = L ++ [⟨r.x, r.y, r.w + 1, r.h⟩] := by
  induction L with
  | nil => rfl
  | cons s L ih =>
    cases L with
    | nil => rfl
    | cons t L => simp only [List.cons_append] at ih ⊢; rw [bump, ih]
/-- One place of a row, as a loop over the places takes it. -/
def stepI (g : Nat → Bool) (y h : Nat) (out : List Rc) (n : Nat) : List Rc :=
  if g (y * 16 + n) = true then (if n = 0 ∨ g (y * 16 + (n - 1)) = false then out ++ [⟨n, y, 1, h⟩] else bump out) else out
def iterI (g : Nat → Bool) (y h : Nat) (out : List Rc) (n : Nat) : List Rc := if n < 16 then iterI g y h (stepI g y h out n) (n + 1) else out
termination_by 16 - n
theorem iterI_go (g : Nat → Bool) (y h : Nat) (out : List Rc) (n : Nat) (hn : n < 16) : iterI g y h out n = iterI g y h (stepI g y h out n) (n + 1) := by
  conv => lhs; rw [iterI, if_pos hn]
theorem iterI_end (g : Nat → Bool) (y h : Nat) (out : List Rc) (n : Nat) (hn : 16 ≤ n) : iterI g y h out n = out := by rw [iterI, if_neg (by omega)]
theorem stepI_no {g : Nat → Bool} {y h n : Nat} {out : List Rc} (h1 : g (y * 16 + n) = false) : stepI g y h out n = out := by
  unfold stepI; rw [if_neg (by rw [h1]; simp)]
theorem stepI_new {g : Nat → Bool} {y h n : Nat} {out : List Rc} (h1 : g (y * 16 + n) = true) (h2 : n = 0 ∨ g (y * 16 + (n - 1)) = false) : stepI g y h out n = out ++ [⟨n, y, 1, h⟩] := by
  unfold stepI; rw [if_pos h1, if_pos h2]
theorem stepI_more {g : Nat → Bool} {y h n : Nat} {out : List Rc} (h1 : g (y * 16 + n) = true) (h2 : ¬ (n = 0 ∨ g (y * 16 + (n - 1)) = false)) : stepI g y h out n = bump out := by
  unfold stepI; rw [if_pos h1, if_neg h2]
/-- Within a run. -/
theorem iterI_run (g : Nat → Bool) (y h x w : Nat) (out : List Rc) (hx : x + w ≤ 16) (hg : ∀ p, x ≤ p → p < x + w → g (y * 16 + p) = true) (j : Nat) (h1 : 1 ≤ j) (h2 : j ≤ w) :
    iterI g y h (out ++ [⟨x, y, j, h⟩]) (x + j) = iterI g y h (out ++ [⟨x, y, w, h⟩]) (x + w) := by
  obtain ⟨d, hd⟩ : ∃ d, d = w - j := ⟨_, rfl⟩
  induction d generalizing j with
  | zero => obtain rfl : j = w := by omega
            rfl
  | succ d ih =>
    rw [iterI_go _ _ _ _ _ (by omega), stepI_more (hg _ (by omega) (by omega)), bump_last]
    · have := ih (j + 1) (by omega) (by omega) (by omega)
      push_cast at this
      exact this
    · rintro (h3 | h3)
      · omega
      · rw [hg _ (by omega) (by omega)] at h3; cases h3
theorem iterI_runs (g : Nat → Bool) (y h x : Nat) (out : List Rc) (hx : x = 0 ∨ x ≤ 16 ∧ g (y * 16 + (x - 1)) = false ∨ 16 < x) : iterI g y h out x = out ++ runs g y h x := by
  fun_induction runs g y h x generalizing out with
  | case1 x hlt ih =>
    have ht := runW_top g y x (by omega)
    have hin := fun p h1 h2 => runW_in g y x p h1 h2
    have hout := runW_out g y x
    obtain ⟨w, hw⟩ : ∃ w, w = runW g y x := ⟨_, rfl⟩
    rw [← hw] at ih ht hin hout ⊢
    have hafter : ∀ o : List Rc, iterI g y h o (x + w) = iterI g y h o (x + w + 1) := fun o => by
      by_cases h16 : x + w < 16
      · rw [iterI_go _ _ _ _ _ h16, stepI_no (hout h16)]
      · rw [iterI_end _ _ _ _ _ (by omega), iterI_end _ _ _ _ _ (by omega)]
    have hrest : ∀ o : List Rc, iterI g y h o (x + w + 1) = o ++ runs g y h (x + w + 1) := fun o => ih o (by
      by_cases h16 : x + w < 16
      · exact .inr (.inl ⟨by omega, by rw [show x + w + 1 - 1 = x + w by omega]; exact hout h16⟩)
      · exact .inr (.inr (by omega)))
    by_cases h0 : 0 < w
    · rw [if_pos h0, iterI_go _ _ _ _ _ hlt, stepI_new (hin x (by omega) (by omega)) (by
        rcases hx with hx | hx | hx
        · exact .inl hx
        · exact .inr hx.2
        · omega)]
      have := iterI_run g y h x w out ht hin 1 (by omega) (by omega)
      push_cast at this
      rw [this, hafter, hrest, List.append_assoc]
    · obtain rfl : w = 0 := by omega
      rw [if_neg (by omega), List.nil_append]
      have := hafter out
      simp only [Nat.add_zero] at this hrest ⊢
      rw [this, hrest]
  | case2 x hlt => rw [iterI_end _ _ _ _ _ (by omega), List.append_nil]
theorem iterI_all (g : Nat → Bool) (y h : Nat) : iterI g y h [] 0 = runs g y h 0 := by rw [iterI_runs g y h 0 [] (.inl rfl), List.nil_append]
end Go.Proofs.Ytfehdcenmncbpab
