/- A list's grid, one rectangle more. No statement is proved here. -/
import Derived.Test.YtfehdcenmncbpabRectC
import Derived.Test.YtfehdcenmncbpabRegM
import Derived.Test.YtfehdcenmncbpabGrid
import Derived.Test.YtfehdcenmncbpabIsectP
import Derived.Test.YtfehdcenmncbpabCoverC
import Derived.Test.YtfehdcenmncbpabHasC
import Derived.Test.YtfehdcenmncbpabRegN
import Derived.Test.YtfehdcenmncbpabProg
import Derived.WalkKit
import Derived.ProofKit
import Derived.OpenShut
import Derived.WalkLawsBesides
import Derived.WalkSpells
import Derived.ShutString
import Derived.ChangeOld
import Derived.Below
import Derived.Lib.Hide
import Derived.BigQuiet
import Derived.Deep.QuietTactic
import Derived.Maps.AppendAt
import Derived.Deep.Draws
import Derived.Deep.MidRow
import Derived.Deep.WholeRow
import Derived.Deep.OwnRows
import Derived.Deep.RegionHeld3
import Derived.Deep.DeepCutAuto
namespace Go.Proofs.Ytfehdcenmncbpab
theorem screen_nat (r : Rc) : ∃ X Y W H : Nat, isect r screenR = ⟨X, Y, W, H⟩ ∧ X + W ≤ 16 ∧ Y + H ≤ 16 := by
  obtain ⟨h1, h2, h3, h4, h5, h6⟩ := isect_screen_in r
  refine ⟨(isect r screenR).x.toNat, (isect r screenR).y.toNat, (isect r screenR).w.toNat, (isect r screenR).h.toNat, ?_, by omega, by omega⟩
  refine rc_ext ⟨?_, ?_, ?_, ?_⟩ <;> dsimp only <;> omega
theorem mark_next (L : List Rc) (r : Rc) (X Y W H : Nat) (e : isect r screenR = ⟨X, Y, W, H⟩) (k : Nat) (hk : k < 256) :
    markG (gridOf L) X Y W H (Y + H) X k = gridOf (L ++ [r]) k := by
  have h := isect_screen r (k % 16 : Nat) (k / 16 : Nat) (by omega) (by omega)
  rw [e] at h
  dsimp only at h
  rw [gridOf_append]
  unfold markG
  congr 1
  rw [Bool.eq_iff_iff, decide_eq_true_iff, gridOf_iff]
  constructor
  · rintro ⟨a, b, c, d, _⟩
    exact ⟨r, List.mem_singleton.2 rfl, h.1 ⟨by omega, by omega, by omega, by omega⟩⟩
  · rintro ⟨s, hs, hr⟩
    obtain rfl := List.mem_singleton.1 hs
    have := h.2 hr
    omega
theorem take_next {α : Type} {L : List α} {k : Nat} {r : α} (h : L[k]? = some r) : L.take (k + 1) = L.take k ++ [r] := by
  rw [List.take_add_one, h]; rfl
theorem mark_take (L : List Rc) (n : Nat) (r : Rc) (X Y W H : Nat) (hr : L[n]? = some r) (e : isect r screenR = ⟨X, Y, W, H⟩) (k : Nat) (hk : k < 256) :
    markG (gridOf (L.take n)) X Y W H (Y + H) X k = gridOf (L.take (n + 1)) k := by
  rw [take_next hr]; exact mark_next _ r X Y W H e k hk
end Go.Proofs.Ytfehdcenmncbpab
