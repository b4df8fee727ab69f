/- Places of scaled and tiled pictures: the numbers, and the contracts of ScalePoint, of the program and of its model. No statement is proved here. -/
import Derived.Test.YtflehkbalnikiaaMA
import Derived.Test.YtflehkbalnikiaaPixM
import Derived.Test.YtflehkbalnikiaaProg
import Derived.WalkKit
import Derived.ProofKit
import Derived.OpenShut
import Derived.WalkLawsBesides
import Derived.WalkSpells
import Derived.ShutString
import Derived.ChangeOld
import Derived.Below
import Derived.Lib.Hide
import Derived.Deep.MidRow
import Derived.Deep.WholeRow
import Derived.Maps.AppendAt
import Derived.BigQuiet
import Derived.Deep.QuietTactic
import Derived.Deep.OwnRows
import Derived.Handy
import Derived.Deep.Draws
import Derived.OwnWalk
import Derived.Deep.AppendLies
import Derived.Deep.LoopGhost
import Derived.Deep.Onto
import Derived.Laws.BitsAllLaws
import Derived.Lib.QuoteBits
import Derived.Deep.RegionHeld3
import Derived.Deep.DeepCutAuto
namespace Go.Proofs.Ytflehkbalnikiaa
open Go.RowKit
/-- The place that is shown at place k, of f pixels on t. -/
def sclN (f t k : Nat) : Nat := k * f / t
theorem sclN_lt {f t k : Nat} (h1 : 1 ≤ f) (h2 : k < t) : sclN f t k < f := by
  unfold sclN
  exact Nat.div_lt_of_lt_mul (Nat.mul_lt_mul_of_pos_right h2 h1)
theorem scl_num {f t k : Nat} (h1 : 1 ≤ f ∧ f ≤ 16) (h2 : 1 ≤ t ∧ t ≤ 16) (h3 : k < t) :
    ∃ m q : Nat, (k : Int) * (f : Int) = (m : Int) ∧ m ≤ 256 ∧ Int.tdiv (m : Int) (t : Int) = (q : Int) ∧ (m : Int) / (t : Int) = (q : Int) ∧ sclN f t k = q ∧ q < f := by
  refine ⟨k * f, k * f / t, by simp, Nat.mul_le_mul (show k ≤ 16 by omega) h1.2, ?_, by simp, rfl, sclN_lt h1.1 h3⟩
  rw [Int.tdiv_eq_ediv_of_nonneg (by omega)]; simp
theorem scI_yes {f t k : Nat} (h1 : 1 ≤ f ∧ f ≤ 16) (h2 : 1 ≤ t ∧ t ≤ 16) (h3 : k < t) (w : World) : Calls Try.prog 108 #[.int .i64 f, .int .i64 t, .int .i64 k] w fun e w' => e = .returned (.int .i64 (sclN f t k : Nat)) ∧ w = w' := by
  obtain ⟨m, q, hm, m1, d1, d2, hq, q1⟩ := scl_num h1 h2 h3
  have Hq := Lib.hid hq
  obtain ⟨f1, f2⟩ := h1
  obtain ⟨t1, t2⟩ := h2
  have h0 : ¬ (t : Int) = 0 := by omega
  have hk : (k : Int) ≤ (t : Int) - 1 := by omega
  clear hq
  go_enter Try.func108, Try.ntmps108
  go_wp2_with ((go_at_call 67; (with_reducible refine (inI_yes _ _ _ _ (by omega) (by omega)).mono ?_); rintro e w' ⟨rfl, rfl⟩))
  go_ret
  exact ⟨ret_int (by rw [Hq.out]), rfl⟩
theorem scS_yes {f t k : Nat} (h1 : 1 ≤ f ∧ f ≤ 16) (h2 : 1 ≤ t ∧ t ≤ 16) (h3 : k < t) (w : World) : Calls Try.prog 104 #[.int .i64 f, .int .i64 t, .int .i64 k] w fun e w' => e = .returned (.int .i64 (sclN f t k : Nat)) ∧ w = w' := by
  obtain ⟨m, q, hm, m1, d1, d2, hq, q1⟩ := scl_num h1 h2 h3
  have Hq := Lib.hid hq
  obtain ⟨f1, f2⟩ := h1
  obtain ⟨t1, t2⟩ := h2
  have h0 : ¬ (t : Int) = 0 := by omega
  have hk : (k : Int) ≤ (t : Int) - 1 := by omega
  clear hq
  go_enter Try.func104, Try.ntmps104
  go_wp2_with ((go_at_call 64; (with_reducible refine (inS_yes _ _ _ _ (by omega) (by omega)).mono ?_); rintro e w' ⟨rfl, rfl⟩))
  go_ret
  exact ⟨ret_int (by rw [Hq.out]), rfl⟩
end Go.Proofs.Ytflehkbalnikiaa
