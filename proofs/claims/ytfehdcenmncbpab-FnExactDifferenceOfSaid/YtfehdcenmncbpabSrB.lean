/- The contract of impl.sameRow at rows of a grid in memory. No statement is proved here. -/
import Derived.Test.YtfehdcenmncbpabBase
import Derived.Test.YtfehdcenmncbpabRd
import Derived.Test.YtfehdcenmncbpabBlk4
import Derived.Test.YtfehdcenmncbpabRegM
import Derived.Test.YtfehdcenmncbpabGrid
import Derived.Test.YtfehdcenmncbpabProg
import Derived.WalkKit
import Derived.ProofKit
import Derived.OpenShut
import Derived.WalkLawsBesides
import Derived.WalkSpells
import Derived.ShutString
import Derived.ChangeOld
import Derived.Below
import Derived.Lib.Hide
import Derived.BigQuiet
import Derived.Deep.QuietTactic
import Derived.Maps.AppendAt
import Derived.Deep.Draws
import Derived.Deep.MidRow
import Derived.Deep.WholeRow
import Derived.Deep.OwnRows
namespace Go.Proofs.Ytfehdcenmncbpab
open Go.RowKit
set_option maxHeartbeats 600000 in
set_option maxRecDepth 10000 in
theorem srB (b : Nat) (g : Nat → Bool) (y z : Nat) (hy : y < 16) (hz : z < 16) (c d : Nat) (w : World) (hG : GrAt w b 80 g) :
    Calls Try.prog 102 #[.slice (some ⟨b, z * 16, none⟩) 16 c, .slice (some ⟨b, y * 16, none⟩) 16 d] w fun e w' => e = .returned (.bool (rowEq g y z)) ∧ ∃ q, w' = w.drewN q := by
  have HG := Lib.hid hG
  clear hG
  go_enter Try.func102, Try.ntmps102
  go_wp2_with fail
  go_loopw [13] (fun i wr => ∃ k : Nat, k ≤ 16 ∧ i = .int .i64 k ∧ (∀ j, j < k → g (y * 16 + j) = g (z * 16 + j)) ∧ ∃ q, wr = w.drewN q) (fun i _ => 16 - (intOf i).toNat)
  case atStart => exact ⟨0, Nat.zero_le _, rfl, fun j hj => by omega, 0, rfl⟩
  case round =>
    obtain ⟨k, hk, rfl, hall, q, rfl⟩ := hrel
    have Hall := Lib.hid hall
    clear hall
    by_cases hlt : k < 16
    · have hki : (k : Int) < 16 := by omega
      have c1 := HG.out.cell (y * 16 + k) (by omega)
      have c2 := HG.out.cell (z * 16 + k) (by omega)
      obtain ⟨p, hp⟩ : ∃ p, p = g (y * 16 + k) := ⟨_, rfl⟩
      obtain ⟨r, hr⟩ : ∃ r, r = g (z * 16 + k) := ⟨_, rfl⟩
      rw [← hp] at c1
      rw [← hr] at c2
      have b0 : (0 : Int) ≤ (k : Int) := by omega
      have Hp := Lib.hid hp
      have Hr := Lib.hid hr
      clear hp hr
      by_cases hpr : p = r
      · subst hpr
        go_wp2_with fail
        go_quiet (fail)
        go_wp2_with fail
        rename_i nq
        go_roundw
        case rel =>
          refine ⟨k + 1, by omega, by go_num, fun j hj => ?_, _, rfl⟩
          by_cases e : j < k
          · exact Hall.out j e
          · obtain rfl : j = k := by omega
            rw [← Hp.out, ← Hr.out]
        case measure => simp [intOf]; omega
      · have hb : (r == p) = false := by rw [beq_eq_false_iff_ne]; exact Ne.symm hpr
        have hne : rowEq g y z = false := by
          rcases he : rowEq g y z with _ | _
          · rfl
          · exact absurd ((rowEq_iff g y z).1 he k hlt) (by rw [← Hp.out, ← Hr.out]; exact hpr)
        have Hne := Lib.hid hne
        clear hne hpr
        go_wp2_with fail
        go_quiet (fail)
        go_wp2_with fail
        go_ret
        exact ⟨ret_bool Hne.out.symm, q + _, by first | rfl | exact World.drewN_drewN _ _ _⟩
    · obtain rfl : k = 16 := by omega
      have heq : rowEq g y z = true := (rowEq_iff g y z).2 Hall.out
      have Heq := Lib.hid heq
      clear heq
      go_wp2_with fail
      go_ret
      exact ⟨ret_bool Heq.out.symm, _, rfl⟩
end Go.Proofs.Ytfehdcenmncbpab
