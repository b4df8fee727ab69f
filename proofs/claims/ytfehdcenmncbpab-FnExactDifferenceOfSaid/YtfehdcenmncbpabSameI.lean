/- The contract of impl.sameRow at rectangles. No statement is proved here. -/
import Derived.Test.YtfehdcenmncbpabBase
import Derived.Test.YtfehdcenmncbpabRd
import Derived.Test.YtfehdcenmncbpabRectC
import Derived.Test.YtfehdcenmncbpabBlk4
import Derived.Test.YtfehdcenmncbpabCoverC
import Derived.Test.YtfehdcenmncbpabRds
import Derived.Test.YtfehdcenmncbpabProg
import Derived.WalkKit
import Derived.ProofKit
import Derived.OpenShut
import Derived.WalkLawsBesides
import Derived.WalkSpells
import Derived.ShutString
import Derived.ChangeOld
import Derived.Below
import Derived.Lib.Hide
import Derived.BigQuiet
import Derived.Deep.QuietTactic
import Derived.Maps.AppendAt
import Derived.Deep.Draws
import Derived.Deep.RegionHeld3
import Derived.Deep.DeepCutAuto
namespace Go.Proofs.Ytfehdcenmncbpab
open Go.RowKit
open Classical in
/-- Whether two lists of rectangles are equal. -/
noncomputable def sameL (L M : List Rc) : Bool := decide (L = M)
open Classical in
theorem sameL_yes {L M : List Rc} (h : L = M) : sameL L M = true := by unfold sameL; exact decide_eq_true h
open Classical in
theorem sameL_no {L M : List Rc} (h : ¬ L = M) : sameL L M = false := by unfold sameL; exact decide_eq_false h
set_option maxHeartbeats 1000000 in
set_option maxRecDepth 10000 in
theorem sameI (v u : Value) (L M : List Rc) (w : World) (hv : RdR w v L) (hu : RdR w u M) :
    Calls Try.prog 105 #[v, u] w fun e w' => e = .returned (.bool (sameL L M)) ∧ ∃ q, w' = w.drewN q := by
  obtain ⟨A, c, rfl⟩ := hv.form
  obtain ⟨A', c', rfl⟩ := hu.form
  have hn1 : L.length ≤ 9223372036854775807 := by have := hv.len; unfold maxLen at this; omega
  have hn2 : M.length ≤ 9223372036854775807 := by have := hu.len; unfold maxLen at this; omega
  by_cases hlen : L.length = M.length
  · obtain ⟨n, hn⟩ : ∃ n, n = L.length := ⟨_, rfl⟩
    rw [← hlen] at hu ⊢
    rw [← hn] at hn1 hv hu ⊢
    have Hn := Lib.hid hn
    have Hlen := Lib.hid hlen
    have Hv := Lib.hid hv
    have Hu := Lib.hid hu
    clear hlen hn2 hn hv hu
    go_enter Try.func105, Try.ntmps105
    go_wp2_with fail
    go_loopw [13] (fun i wr => ∃ k : Nat, k ≤ n ∧ i = .int .i64 k ∧ (∀ j, j < k → L[j]? = M[j]?) ∧ ∃ q, wr = w.drewN q) (fun i _ => n - (intOf i).toNat)
    case atStart => exact ⟨0, Nat.zero_le _, rfl, fun j hj => by omega, 0, rfl⟩
    case round =>
      obtain ⟨k, hk, rfl, hall, q, rfl⟩ := hrel
      have Hall := Lib.hid hall
      clear hall
      by_cases hlt : k < n
      · obtain ⟨ga, r, rfl, hr, hC⟩ := Hv.out.at_ (k := k) (by rw [← Hn.out]; exact hlt)
        obtain ⟨gb, s, rfl, hs, hD⟩ := Hu.out.at_ (k := k) (by rw [← Hlen.out, ← Hn.out]; exact hlt)
        have Hr := Lib.hid hr
        have Hs := Lib.hid hs
        obtain ⟨a0, a1, a2, a3⟩ := hC.cells
        obtain ⟨b0, b1, b2, b3⟩ := hD.cells
        clear hr hs hC hD
        have k0 : (0 : Int) ≤ (k : Int) := by omega
        have k1 : (k : Int) < (n : Int) := by omega
        rcases rc_cases r s with ⟨hq, e0, e1, e2, e3⟩ | ⟨hq, hq'⟩
        · have Hq := Lib.hid hq
          clear hq
          go_wp2_with fail
          go_quiet (fail)
          go_wp2_with fail
          rename_i nq
          go_roundw
          case rel =>
            refine ⟨k + 1, by omega, by go_num, fun j hj => ?_, _, rfl⟩
            by_cases e : j < k
            · exact Hall.out j e
            · obtain rfl : j = k := by omega
              rw [Hr.out, Hs.out, Hq.out]
          case measure => simp [intOf]; omega
        · have hne : sameL L M = false := sameL_no fun e => hq (by have h1 := Hr.out; rw [e, Hs.out] at h1; injection h1 with h1; exact h1.symm)
          have Hne := Lib.hid hne
          clear hne hq
          rcases hq' with e0 | ⟨e0, e1⟩ | ⟨e0, e1, e2⟩ | ⟨e0, e1, e2, e3⟩
          · go_wp2_with fail
            go_quiet (fail)
            go_wp2_with fail
            go_ret
            exact ⟨ret_bool Hne.out.symm, q + _, by first | rfl | exact World.drewN_drewN _ _ _⟩
          · go_wp2_with fail
            go_quiet (fail)
            go_wp2_with fail
            go_ret
            exact ⟨ret_bool Hne.out.symm, q + _, by first | rfl | exact World.drewN_drewN _ _ _⟩
          · go_wp2_with fail
            go_quiet (fail)
            go_wp2_with fail
            go_ret
            exact ⟨ret_bool Hne.out.symm, q + _, by first | rfl | exact World.drewN_drewN _ _ _⟩
          · go_wp2_with fail
            go_quiet (fail)
            go_wp2_with fail
            go_ret
            exact ⟨ret_bool Hne.out.symm, q + _, by first | rfl | exact World.drewN_drewN _ _ _⟩
      · obtain rfl : k = n := by omega
        have heq : L = M := List.ext_getElem? fun j => by
          by_cases e : j < k
          · exact Hall.out j e
          · rw [List.getElem?_eq_none (by rw [← Hn.out]; omega), List.getElem?_eq_none (by rw [← Hlen.out, ← Hn.out]; omega)]
        have Heq := Lib.hid (sameL_yes heq)
        clear heq
        go_wp2_with fail
        go_ret
        exact ⟨ret_bool Heq.out.symm, _, rfl⟩
  · have Hne := Lib.hid (sameL_no (fun e : L = M => hlen (by rw [e])))
    have hb : ((L.length : Int) != (M.length : Int)) = true := by rw [bne_iff_ne]; omega
    go_enter Try.func105, Try.ntmps105
    go_wp2_with fail
    go_ret
    exact ⟨ret_bool Hne.out.symm, 0, rfl⟩
end Go.Proofs.Ytfehdcenmncbpab
