/- What makes a chain valid. No statement is proved here. -/
import Derived.Test.YtnndifemkichmaaMA
import Derived.Test.YtnndifemkichmaaMB
import Derived.Test.YtnndifemkichmaaMC
import Derived.Test.YtnndifemkichmaaChM
import Derived.Test.YtnndifemkichmaaProg
import Derived.WalkKit
import Derived.ProofKit
import Derived.OpenShut
import Derived.WalkLawsBesides
import Derived.WalkSpells
import Derived.ShutString
import Derived.ChangeOld
import Derived.Below
import Derived.Lib.Hide
import Derived.BigQuiet
import Derived.Deep.QuietTactic
import Derived.Maps.AppendAt
import Derived.Deep.OwnRows
import Derived.Handy
import Derived.Deep.Draws
import Derived.OwnWalk
import Derived.Deep.AppendLies
import Derived.Deep.LoopGhost
import Derived.Deep.Onto
import Derived.Deep.MidRow
import Derived.Deep.WholeRow
import Derived.Laws.BitsAllLaws
import Derived.Lib.QuoteBits
import Derived.Deep.RegionHeld3
import Derived.Deep.DeepCutAuto
import Derived.Test.YtnndifemkichmaaShelf
import Derived.Laws.CopyOwn
import Derived.Deep.RegionLaw
import Derived.Great.BuildSlice
import Derived.Laws.AppendOwn
namespace Go.Proofs.Ytnndifemkichmaa
open Go.RowKit
def fstI : List Int → Int → Int
 | [], _ => -1
 | a :: L, x => if a = x then 0 else if fstI L x < 0 then -1 else fstI L x + 1
theorem fstI_hit {L : List Int} {x : Int} {k : Nat} (hk : L[k]? = some x) (hn : ∀ j : Nat, j < k → L[j]? ≠ some x) : fstI L x = k := by
  induction L generalizing k with
  | nil => simp at hk
  | cons g L ih =>
    cases k with
    | zero =>
      obtain rfl : g = x := by simpa using hk
      simp [fstI]
    | succ k =>
      have h0 : g ≠ x := fun e => hn 0 (by omega) (by simp [e])
      have h1 := ih (by simpa using hk) fun j hj he => hn (j + 1) (by omega) (by simpa using he)
      unfold fstI
      rw [if_neg h0, h1, if_neg (by omega)]
      push_cast
      rfl
theorem fstI_miss {L : List Int} {x : Int} (hn : ∀ j : Nat, L[j]? ≠ some x) : fstI L x = -1 := by
  induction L with
  | nil => rfl
  | cons g L ih =>
    unfold fstI
    rw [if_neg (fun e => hn 0 (by simp [e])), ih fun j he => hn (j + 1) (by simpa using he), if_pos (by omega)]
theorem fstI_is (L : List Int) (x : Int) : (fstI L x = -1 ∧ ∀ j : Nat, L[j]? ≠ some x) ∨ ∃ k : Nat, fstI L x = k ∧ L[k]? = some x ∧ ∀ j : Nat, j < k → L[j]? ≠ some x := by
  induction L with
  | nil => exact .inl ⟨rfl, fun j h => by simp at h⟩
  | cons g L ih =>
    by_cases hg : g = x
    · exact .inr ⟨0, by simp [fstI, hg], by simp [hg], fun j hj => by omega⟩
    · rcases ih with ⟨h1, h2⟩ | ⟨k, h1, h2, h4⟩
      · refine .inl ⟨by unfold fstI; rw [if_neg hg, h1, if_pos (by omega)], fun j he => ?_⟩
        cases j with
        | zero => exact hg (by simpa using he)
        | succ j => exact h2 j (by simpa using he)
      · refine .inr ⟨k + 1, by unfold fstI; rw [if_neg hg, h1, if_neg (by omega)]; push_cast; rfl, by simpa using h2, fun j hj he => ?_⟩
        cases j with
        | zero => exact hg (by simpa using he)
        | succ j => exact h4 j (by omega) (by simpa using he)
def bufAt (W H : Int) (f : Im) : Prop := f.w = W ∧ f.h = H ∧ imOk f.w f.h f.d
def bufP (W H : Int) (L : List Im) : Prop := (1 ≤ L.length ∧ L.length ≤ 3) ∧ ∀ (k : Nat) (f : Im), L[k]? = some f → bufAt W H f
def dmsP (L : List (List Rc)) : Prop := L.length ≤ 3 ∧ ∀ (k : Nat) (r : List Rc), L[k]? = some r → okL r = true
def grA (n : Nat) : Int := if (n : Int) + 1 < 3 then (n : Int) + 1 else 3
def ageAt (A : List Int) (m : Int) (k : Nat) (x : Int) : Prop := (0 ≤ x ∧ x ≤ m) ∧ (x = 0 ∨ ∀ j : Nat, j < k → A[j]? ≠ some x)
def agesP (A : List Int) (m : Int) : Prop := ∀ (k : Nat) (x : Int), A[k]? = some x → ageAt A m k x
noncomputable def bufB (W H : Int) (L : List Im) : Bool := @decide (bufP W H L) (Classical.propDecidable _)
theorem bufB_yes {W H : Int} {L : List Im} (h : bufP W H L) : bufB W H L = true := by unfold bufB; simp [h]
theorem bufB_no {W H : Int} {L : List Im} (h : ¬ bufP W H L) : bufB W H L = false := by unfold bufB; simp [h]
noncomputable def dmsB (L : List (List Rc)) : Bool := @decide (dmsP L) (Classical.propDecidable _)
theorem dmsB_yes {L : List (List Rc)} (h : dmsP L) : dmsB L = true := by unfold dmsB; simp [h]
theorem dmsB_no {L : List (List Rc)} (h : ¬ dmsP L) : dmsB L = false := by unfold dmsB; simp [h]
noncomputable def agesB (A : List Int) (m : Int) : Bool := @decide (agesP A m) (Classical.propDecidable _)
theorem agesB_yes {A : List Int} {m : Int} (h : agesP A m) : agesB A m = true := by unfold agesB; simp [h]
theorem agesB_no {A : List Int} {m : Int} (h : ¬ agesP A m) : agesB A m = false := by unfold agesB; simp [h]
def cnOk (c : Ch) : Prop := snOk c.s ∧ bufP c.s.w c.s.h c.ims ∧ dmsP c.rgs ∧ c.ages.length = c.ims.length ∧ agesP c.ages (grA c.rgs.length)
noncomputable def cnB (c : Ch) : Bool := @decide (cnOk c) (Classical.propDecidable _)
theorem cnB_yes {c : Ch} (h : cnOk c) : cnB c = true := by unfold cnB; simp [h]
theorem cnB_no {c : Ch} (h : ¬ cnOk c) : cnB c = false := by unfold cnB; simp [h]
theorem age_first {A : List Int} {m : Int} {k : Nat} {x : Int} (hx : A[k]? = some x) : ageAt A m k x ↔ (0 ≤ x ∧ x ≤ m) ∧ (x = 0 ∨ fstI A x = k) := by
 unfold ageAt
 constructor
 ·rintro ⟨h1, h2⟩
  refine ⟨h1, ?_⟩
  rcases h2 with h2 | h2
  ·exact .inl h2
  ·exact .inr (fstI_hit hx h2)
 ·rintro ⟨h1, h2⟩
  refine ⟨h1, ?_⟩
  rcases h2 with h2 | h2
  ·exact .inl h2
  ·rcases fstI_is A x with ⟨h3, _⟩ | ⟨q, h3, h4, h5⟩
   ·omega
   ·obtain rfl : q = k := by omega
    exact .inr h5
end Go.Proofs.Ytnndifemkichmaa
