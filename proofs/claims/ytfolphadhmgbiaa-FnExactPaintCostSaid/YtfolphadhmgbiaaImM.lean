/- Places in an image, and the pixels of an image with a region copied into it. No statement is proved here. -/
import Derived.Test.YtfolphadhmgbiaaMA
import Derived.Test.YtfolphadhmgbiaaImO
import Derived.Test.YtfolphadhmgbiaaProg
import Derived.WalkKit
import Derived.ProofKit
import Derived.OpenShut
import Derived.WalkLawsBesides
import Derived.WalkSpells
import Derived.ShutString
import Derived.ChangeOld
import Derived.Below
import Derived.Lib.Hide
import Derived.BigQuiet
import Derived.Deep.QuietTactic
import Derived.Maps.AppendAt
import Derived.Deep.OwnRows
import Derived.Handy
import Derived.Deep.Draws
import Derived.OwnWalk
import Derived.Deep.AppendLies
import Derived.Deep.LoopGhost
import Derived.Deep.Onto
import Derived.Laws.BitsAllLaws
import Derived.Lib.QuoteBits
import Derived.Test.YtfolphadhmgbiaaShelf
import Derived.Laws.CopyOwn
import Derived.Deep.RegionLaw
import Derived.Deep.RegionHeld3
import Derived.Deep.DeepCutAuto
import Derived.Great.BuildSlice
import Derived.Deep.MidRow
import Derived.Deep.WholeRow
import Derived.Laws.AppendOwn
namespace Go.Proofs.Ytfolphadhmgbiaa
open Go.RowKit
theorem plc_div {W x : Nat} (y : Nat) (hx : x < W) : (y * W + x) / W = y := by
  rw [Nat.mul_comm, Nat.mul_add_div (by omega), Nat.div_eq_of_lt hx, Nat.add_zero]
theorem plc_mod {W x : Nat} (y : Nat) (hx : x < W) : (y * W + x) % W = x := by
  rw [Nat.mul_comm, Nat.mul_add_mod, Nat.mod_eq_of_lt hx]
theorem plc_eq (k W : Nat) : k / W * W + k % W = k := by rw [Nat.mul_comm]; exact Nat.div_add_mod k W
theorem plc_lt {W H x y : Nat} (hx : x < W) (hy : y < H) : y * W + x < W * H := by
  have h1 : (y + 1) * W ≤ H * W := Nat.mul_le_mul_right _ hy
  rw [Nat.add_mul, Nat.one_mul, Nat.mul_comm H W] at h1
  omega
theorem plc_row {W H k : Nat} (h : k < W * H) : k / W < H := Nat.div_lt_of_lt_mul h
theorem plc_iff {W x : Nat} (y k : Nat) (hx : x < W) : k = y * W + x ↔ k / W = y ∧ k % W = x := by
  constructor
  · rintro rfl; exact ⟨plc_div y hx, plc_mod y hx⟩
  · rintro ⟨rfl, rfl⟩; exact (plc_eq k W).symm
theorem plc_pos {W H k : Nat} (h : k < W * H) : 0 < W := by
  rcases Nat.eq_zero_or_pos W with rfl | h0
  · simp at h
  · exact h0
/-- A valid image's numbers as naturals. -/
theorem im_nat {X Y : Int} {L : List Int} (h : imOk X Y L) : ∃ W H : Nat, X = W ∧ Y = H ∧ 1 ≤ W ∧ W ≤ 16 ∧ 1 ≤ H ∧ H ≤ 16 ∧ L.length = W * H := by
  obtain ⟨⟨s1, s2, s3, s4⟩, hl, _⟩ := h
  obtain ⟨W, rfl⟩ := Int.eq_ofNat_of_zero_le (show 0 ≤ X by omega)
  obtain ⟨H, rfl⟩ := Int.eq_ofNat_of_zero_le (show 0 ≤ Y by omega)
  exact ⟨W, H, rfl, rfl, by omega, by omega, by omega, by omega, by exact_mod_cast hl⟩
theorem mul_256 {W H : Nat} (h1 : W ≤ 16) (h2 : H ≤ 16) : W * H ≤ 256 := Nat.mul_le_mul h1 h2
end Go.Proofs.Ytfolphadhmgbiaa
