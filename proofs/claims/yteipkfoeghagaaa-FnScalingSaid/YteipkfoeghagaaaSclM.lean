/- Places of scaled and tiled pictures: the numbers, and the contracts of ScalePoint, of the program and of its model. No statement is proved here. -/
import Derived.Test.YteipkfoeghagaaaBase
import Derived.Test.YteipkfoeghagaaaRectC
import Derived.Test.YteipkfoeghagaaaPixM
import Derived.Test.YteipkfoeghagaaaHasC
import Derived.Test.YteipkfoeghagaaaOriP
import Derived.Test.YteipkfoeghagaaaProg
import Derived.WalkKit
import Derived.ProofKit
import Derived.OpenShut
import Derived.WalkLawsBesides
import Derived.WalkSpells
import Derived.ShutString
import Derived.ChangeOld
import Derived.Below
import Derived.Lib.Hide
import Derived.Deep.MidRow
import Derived.Deep.WholeRow
import Derived.Maps.AppendAt
import Derived.BigQuiet
import Derived.Deep.QuietTactic
import Derived.Deep.OwnRows
import Derived.Handy
import Derived.Deep.Draws
import Derived.OwnWalk
import Derived.Deep.AppendLies
import Derived.Deep.LoopGhost
import Derived.Deep.Onto
import Derived.Laws.BitsAllLaws
import Derived.Lib.QuoteBits
import Derived.Deep.RegionHeld3
import Derived.Deep.DeepCutAuto
namespace Go.Proofs.Yteipkfoeghagaaa
open Go.RowKit
/-- The place that is shown at place k, of f pixels on t. -/
def sclN (f t k : Nat) : Nat := k * f / t
def tilN (f _ k : Nat) : Nat := k % f
theorem sclN_lt {f t k : Nat} (h1 : 1 ≤ f) (h2 : k < t) : sclN f t k < f := by
  unfold sclN
  exact Nat.div_lt_of_lt_mul (Nat.mul_lt_mul_of_pos_right h2 h1)
theorem tilN_lt {f t k : Nat} (h1 : 1 ≤ f) : tilN f t k < f := Nat.mod_lt _ h1
def sclOk (f t k : Int) : Prop := (1 ≤ f ∧ f ≤ 16) ∧ (1 ≤ t ∧ t ≤ 16) ∧ 0 ≤ k ∧ k < t
open Classical in
noncomputable def sclM (f t k : Int) : Int := if sclOk f t k then (sclN f.toNat t.toNat k.toNat : Int) else -1
theorem sclM_yes {f t k : Nat} (h1 : 1 ≤ f ∧ f ≤ 16) (h2 : 1 ≤ t ∧ t ≤ 16) (h3 : k < t) : sclM f t k = (sclN f t k : Int) := by
  unfold sclM; rw [if_pos (by unfold sclOk; omega), Int.toNat_natCast, Int.toNat_natCast, Int.toNat_natCast]
theorem sclM_no {f t k : Int} (h : ¬ sclOk f t k) : sclM f t k = -1 := if_neg h
theorem scl_num {f t k : Nat} (h1 : 1 ≤ f ∧ f ≤ 16) (h2 : 1 ≤ t ∧ t ≤ 16) (h3 : k < t) :
    ∃ m q : Nat, (k : Int) * (f : Int) = (m : Int) ∧ m ≤ 256 ∧ Int.tdiv (m : Int) (t : Int) = (q : Int) ∧ (m : Int) / (t : Int) = (q : Int) ∧ sclN f t k = q ∧ q < f := by
  refine ⟨k * f, k * f / t, by simp, Nat.mul_le_mul (show k ≤ 16 by omega) h1.2, ?_, by simp, rfl, sclN_lt h1.1 h3⟩
  rw [Int.tdiv_eq_ediv_of_nonneg (by omega)]; simp
theorem scI_yes {f t k : Nat} (h1 : 1 ≤ f ∧ f ≤ 16) (h2 : 1 ≤ t ∧ t ≤ 16) (h3 : k < t) (w : World) : Calls Try.prog 11 #[.int .i64 f, .int .i64 t, .int .i64 k] w fun e w' => e = .returned (.int .i64 (sclN f t k : Nat)) ∧ w = w' := by
  obtain ⟨m, q, hm, m1, d1, d2, hq, q1⟩ := scl_num h1 h2 h3
  have Hq := Lib.hid hq
  obtain ⟨f1, f2⟩ := h1
  obtain ⟨t1, t2⟩ := h2
  have h0 : ¬ (t : Int) = 0 := by omega
  have hk : (k : Int) ≤ (t : Int) - 1 := by omega
  clear hq
  go_enter Try.func11, Try.ntmps11
  go_wp2_with ((go_at_call 25; (with_reducible refine (inI_yes _ _ _ _ (by omega) (by omega)).mono ?_); rintro e w' ⟨rfl, rfl⟩))
  go_ret
  exact ⟨ret_int (by rw [Hq.out]), rfl⟩
theorem scI_no {f t k : Int} (wf : (Lit.int .i64 t).wf = true) (h : ¬ sclOk f t k) (w : World) : Calls Try.prog 11 #[.int .i64 f, .int .i64 t, .int .i64 k] w fun e w' => e = .returned (.int .i64 (-1)) ∧ w = w' := by
  have b2 := wf_bd wf
  unfold sclOk at h
  by_cases hf : 1 ≤ f ∧ f ≤ 16
  · obtain ⟨f1, f2⟩ := hf
    by_cases ht : 1 ≤ t ∧ t ≤ 16
    · obtain ⟨t1, t2⟩ := ht
      have h7 : k < 0 ∨ t - 1 < k := by omega
      have H7 := Lib.hid h7
      clear h7 h
      go_enter Try.func11, Try.ntmps11
      go_wp2_with (first | (go_at_call 25; (with_reducible refine (inI_yes _ _ _ _ (by omega) (by omega)).mono ?_); rintro e w' ⟨rfl, rfl⟩) | (go_at_call 25; (with_reducible refine (inI_no _ _ _ _ H7.out).mono ?_); rintro e w' ⟨rfl, rfl⟩))
      go_ret
      exact ⟨rfl, rfl⟩
    · have h7 : t < 1 ∨ 16 < t := by omega
      have H7 := Lib.hid h7
      clear h7 h ht
      go_enter Try.func11, Try.ntmps11
      go_wp2_with (first | (go_at_call 25; (with_reducible refine (inI_yes _ _ _ _ (by omega) (by omega)).mono ?_); rintro e w' ⟨rfl, rfl⟩) | (go_at_call 25; (with_reducible refine (inI_no _ _ _ _ H7.out).mono ?_); rintro e w' ⟨rfl, rfl⟩))
      go_ret
      exact ⟨rfl, rfl⟩
  · have h7 : f < 1 ∨ 16 < f := by omega
    have H7 := Lib.hid h7
    clear h7 h hf
    go_enter Try.func11, Try.ntmps11
    go_wp2_with (first | (go_at_call 25; (with_reducible refine (inI_no _ _ _ _ H7.out).mono ?_); rintro e w' ⟨rfl, rfl⟩))
    go_ret
    exact ⟨rfl, rfl⟩
theorem scI (f t k : Int) (wf : (Lit.int .i64 t).wf = true) (w : World) : Calls Try.prog 11 #[.int .i64 f, .int .i64 t, .int .i64 k] w (OneAns (sclM f t k) w) := by
  unfold OneAns
  by_cases h : sclOk f t k
  · obtain ⟨h1, h2, h3, h4⟩ := h
    obtain ⟨f, rfl⟩ := Int.eq_ofNat_of_zero_le (show 0 ≤ f by omega)
    obtain ⟨t, rfl⟩ := Int.eq_ofNat_of_zero_le (show 0 ≤ t by omega)
    obtain ⟨k, rfl⟩ := Int.eq_ofNat_of_zero_le (show 0 ≤ k by omega)
    rw [sclM_yes (by omega) (by omega) (by omega)]
    exact scI_yes (by omega) (by omega) (by omega) w
  · rw [sclM_no h]; exact scI_no wf h w
theorem scS_yes {f t k : Nat} (h1 : 1 ≤ f ∧ f ≤ 16) (h2 : 1 ≤ t ∧ t ≤ 16) (h3 : k < t) (w : World) : Calls Try.prog 14 #[.int .i64 f, .int .i64 t, .int .i64 k] w fun e w' => e = .returned (.int .i64 (sclN f t k : Nat)) ∧ w = w' := by
  obtain ⟨m, q, hm, m1, d1, d2, hq, q1⟩ := scl_num h1 h2 h3
  have Hq := Lib.hid hq
  obtain ⟨f1, f2⟩ := h1
  obtain ⟨t1, t2⟩ := h2
  have h0 : ¬ (t : Int) = 0 := by omega
  have hk : (k : Int) ≤ (t : Int) - 1 := by omega
  clear hq
  go_enter Try.func14, Try.ntmps14
  go_wp2_with ((go_at_call 28; (with_reducible refine (inS_yes _ _ _ _ (by omega) (by omega)).mono ?_); rintro e w' ⟨rfl, rfl⟩))
  go_ret
  exact ⟨ret_int (by rw [Hq.out]), rfl⟩
theorem scS_no {f t k : Int} (wf : (Lit.int .i64 t).wf = true) (h : ¬ sclOk f t k) (w : World) : Calls Try.prog 14 #[.int .i64 f, .int .i64 t, .int .i64 k] w fun e w' => e = .returned (.int .i64 (-1)) ∧ w = w' := by
  have b2 := wf_bd wf
  unfold sclOk at h
  by_cases hf : 1 ≤ f ∧ f ≤ 16
  · obtain ⟨f1, f2⟩ := hf
    by_cases ht : 1 ≤ t ∧ t ≤ 16
    · obtain ⟨t1, t2⟩ := ht
      have h7 : k < 0 ∨ t - 1 < k := by omega
      have H7 := Lib.hid h7
      clear h7 h
      go_enter Try.func14, Try.ntmps14
      go_wp2_with (first | (go_at_call 28; (with_reducible refine (inS_yes _ _ _ _ (by omega) (by omega)).mono ?_); rintro e w' ⟨rfl, rfl⟩) | (go_at_call 28; (with_reducible refine (inS_no _ _ _ _ H7.out).mono ?_); rintro e w' ⟨rfl, rfl⟩))
      go_ret
      exact ⟨rfl, rfl⟩
    · have h7 : t < 1 ∨ 16 < t := by omega
      have H7 := Lib.hid h7
      clear h7 h ht
      go_enter Try.func14, Try.ntmps14
      go_wp2_with (first | (go_at_call 28; (with_reducible refine (inS_yes _ _ _ _ (by omega) (by omega)).mono ?_); rintro e w' ⟨rfl, rfl⟩) | (go_at_call 28; (with_reducible refine (inS_no _ _ _ _ H7.out).mono ?_); rintro e w' ⟨rfl, rfl⟩))
      go_ret
      exact ⟨rfl, rfl⟩
  · have h7 : f < 1 ∨ 16 < f := by omega
    have H7 := Lib.hid h7
    clear h7 h hf
    go_enter Try.func14, Try.ntmps14
    go_wp2_with (first | (go_at_call 28; (with_reducible refine (inS_no _ _ _ _ H7.out).mono ?_); rintro e w' ⟨rfl, rfl⟩))
    go_ret
    exact ⟨rfl, rfl⟩
theorem scS (f t k : Int) (wf : (Lit.int .i64 t).wf = true) (w : World) : Calls Try.prog 14 #[.int .i64 f, .int .i64 t, .int .i64 k] w (OneAns (sclM f t k) w) := by
  unfold OneAns
  by_cases h : sclOk f t k
  · obtain ⟨h1, h2, h3, h4⟩ := h
    obtain ⟨f, rfl⟩ := Int.eq_ofNat_of_zero_le (show 0 ≤ f by omega)
    obtain ⟨t, rfl⟩ := Int.eq_ofNat_of_zero_le (show 0 ≤ t by omega)
    obtain ⟨k, rfl⟩ := Int.eq_ofNat_of_zero_le (show 0 ≤ k by omega)
    rw [sclM_yes (by omega) (by omega) (by omega)]
    exact scS_yes (by omega) (by omega) (by omega) w
  · rw [sclM_no h]; exact scS_no wf h w
end Go.Proofs.Yteipkfoeghagaaa
