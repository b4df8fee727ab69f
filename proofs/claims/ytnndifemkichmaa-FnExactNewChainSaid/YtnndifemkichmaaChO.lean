/- What makes a chain valid. No statement is proved here. -/
import Derived.Test.YtnndifemkichmaaMA
import Derived.Test.YtnndifemkichmaaMB
import Derived.Test.YtnndifemkichmaaChM
import Derived.Test.YtnndifemkichmaaProg
import Derived.WalkKit
import Derived.ProofKit
import Derived.OpenShut
import Derived.WalkLawsBesides
import Derived.WalkSpells
import Derived.ShutString
import Derived.ChangeOld
import Derived.Below
import Derived.Lib.Hide
import Derived.BigQuiet
import Derived.Deep.QuietTactic
import Derived.Maps.AppendAt
import Derived.Deep.OwnRows
import Derived.Handy
import Derived.Deep.Draws
import Derived.OwnWalk
import Derived.Deep.AppendLies
import Derived.Deep.LoopGhost
import Derived.Deep.Onto
import Derived.Deep.MidRow
import Derived.Deep.WholeRow
import Derived.Laws.BitsAllLaws
import Derived.Lib.QuoteBits
import Derived.Deep.RegionHeld3
import Derived.Deep.DeepCutAuto
import Derived.Test.YtnndifemkichmaaShelf
import Derived.Laws.CopyOwn
import Derived.Deep.RegionLaw
import Derived.Great.BuildSlice
import Derived.Laws.AppendOwn
namespace Go.Proofs.Ytnndifemkichmaa
open Go.RowKit
def bufAt (W H : Int) (f : Im) : Prop := f.w = W ∧ f.h = H ∧ imOk f.w f.h f.d
def bufP (W H : Int) (L : List Im) : Prop := (1 ≤ L.length ∧ L.length ≤ 3) ∧ ∀ (k : Nat) (f : Im), L[k]? = some f → bufAt W H f
def dmsP (L : List (List Rc)) : Prop := L.length ≤ 3 ∧ ∀ (k : Nat) (r : List Rc), L[k]? = some r → okL r = true
def grA (n : Nat) : Int := if (n : Int) + 1 < 3 then (n : Int) + 1 else 3
def ageAt (A : List Int) (m : Int) (k : Nat) (x : Int) : Prop := (0 ≤ x ∧ x ≤ m) ∧ (x = 0 ∨ ∀ j : Nat, j < k → A[j]? ≠ some x)
def agesP (A : List Int) (m : Int) : Prop := ∀ (k : Nat) (x : Int), A[k]? = some x → ageAt A m k x
def cnOk (c : Ch) : Prop := snOk c.s ∧ bufP c.s.w c.s.h c.ims ∧ dmsP c.rgs ∧ c.ages.length = c.ims.length ∧ agesP c.ages (grA c.rgs.length)
noncomputable def cnB (c : Ch) : Bool := @decide (cnOk c) (Classical.propDecidable _)
theorem cnB_yes {c : Ch} (h : cnOk c) : cnB c = true := by unfold cnB; simp [h]
theorem cnB_no {c : Ch} (h : ¬ cnOk c) : cnB c = false := by unfold cnB; simp [h]
end Go.Proofs.Ytnndifemkichmaa
