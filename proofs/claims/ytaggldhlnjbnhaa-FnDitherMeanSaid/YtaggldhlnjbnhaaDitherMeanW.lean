/- The walk of the law FnDitherMean: it returns true for every code. -/
import Derived.Test.YtaggldhlnjbnhaaBase
import Derived.Test.YtaggldhlnjbnhaaRd
import Derived.Test.YtaggldhlnjbnhaaImR
import Derived.Test.YtaggldhlnjbnhaaPixM
import Derived.Test.YtaggldhlnjbnhaaDitM
import Derived.Test.YtaggldhlnjbnhaaThrC
import Derived.Test.YtaggldhlnjbnhaaAtV
import Derived.Test.YtaggldhlnjbnhaaBig
import Derived.Test.YtaggldhlnjbnhaaProg
import Derived.WalkKit
import Derived.ProofKit
import Derived.OpenShut
import Derived.WalkLawsBesides
import Derived.WalkSpells
import Derived.ShutString
import Derived.ChangeOld
import Derived.Below
import Derived.Lib.Hide
import Derived.Laws.BitsAllLaws
import Derived.Lib.QuoteBits
import Derived.BigQuiet
import Derived.Deep.QuietTactic
import Derived.Maps.AppendAt
import Derived.Deep.OwnRows
import Derived.Handy
import Derived.Deep.Draws
import Derived.OwnWalk
import Derived.Deep.AppendLies
import Derived.Deep.LoopGhost
import Derived.Deep.Onto
import Derived.Deep.RegionHeld3
import Derived.Deep.DeepCutAuto
import Derived.Test.YtaggldhlnjbnhaaShelf
import Derived.Laws.CopyOwn
import Derived.Deep.RegionLaw
import Derived.Great.BuildSlice
import Derived.Deep.MidRow
import Derived.Deep.WholeRow
import Derived.Carry
import Derived.Maps.Own
namespace Go.Proofs.Ytaggldhlnjbnhaa
open Go.RowKit
theorem thr_even (a b : Int) : thr (2 * a) (2 * b) = 0 ∧ thr (2 * a + 1) (2 * b) = 2 ∧ thr (2 * a) (2 * b + 1) = 3 ∧ thr (2 * a + 1) (2 * b + 1) = 1 := by
  have e1 : 2 * a % 2 = 0 := by omega
  have e2 : 2 * b % 2 = 0 := by omega
  have e3 : (2 * a + 1) % 2 = 1 := by omega
  have e4 : (2 * b + 1) % 2 = 1 := by omega
  unfold thr
  simp [e1, e2, e3, e4]
set_option maxHeartbeats 2000000 in
theorem walk_FnDitherMean (a0 : Option Addr) (len cap : Nat) (zs : List Int) (w : World) (hrow : IsRow .u8 w a0 len cap zs) :
    Calls Try.prog 3 #[.slice a0 len cap] w fun e w' => e = .returned (.bool true) ∧ Below w.heap.size w w' := by
  by_cases hbig : len ≤ 1048576
  · have hv := atV_bd rfl hrow 0
    have hp := atV_bd rfl hrow 1
    have hq := atV_bd rfl hrow 2
    have HA0 := Lib.hid (at_val w a0 len cap zs hrow 0 (by omega) (by omega))
    have HA1 := Lib.hid (at_val w a0 len cap zs hrow 1 (by omega) (by omega))
    have HA2 := Lib.hid (at_val w a0 len cap zs hrow 2 (by omega) (by omega))
    obtain ⟨v, hve⟩ : ∃ v, v = atV len zs 0 := ⟨_, rfl⟩
    obtain ⟨p, hpe⟩ : ∃ p, p = atV len zs 1 := ⟨_, rfl⟩
    obtain ⟨q, hqe⟩ : ∃ q, q = atV len zs 2 := ⟨_, rfl⟩
    rw [← hve] at hv HA0
    rw [← hpe] at hp HA1
    rw [← hqe] at hq HA2
    clear hve hpe hqe hrow
    have cv : chOk v := hv
    obtain ⟨a, ha⟩ : ∃ a, a = p % 8 := ⟨_, rfl⟩
    obtain ⟨b, hb⟩ : ∃ b, b = q % 8 := ⟨_, rfl⟩
    have ta : Int.tmod p 8 = a := by rw [Int.tmod_eq_emod_of_nonneg hp.1, ha]
    have tb : Int.tmod q 8 = b := by rw [Int.tmod_eq_emod_of_nonneg hq.1, hb]
    have ha2 : p % 8 = a := ha.symm
    have hb2 : q % 8 = b := hb.symm
    obtain ⟨a1, a2⟩ : 0 ≤ a ∧ a ≤ 7 := by omega
    obtain ⟨b1, b2⟩ : 0 ≤ b ∧ b ≤ 7 := by omega
    obtain ⟨r0, r2, r3, r1⟩ := thr_even a b
    have D0 := fun W => dleI v (2 * a) (2 * b) W
    have D1 := fun W => dleI v (2 * a + 1) (2 * b) W
    have D2 := fun W => dleI v (2 * a) (2 * b + 1) W
    have D3 := fun W => dleI v (2 * a + 1) (2 * b + 1) W
    rw [levV_yes cv, r0] at D0
    rw [levV_yes cv, r2] at D1
    rw [levV_yes cv, r3] at D2
    rw [levV_yes cv, r1] at D3
    have hs := lev_sum v
    obtain ⟨n0, m0⟩ := lev_near (v := v) (t := 0) (by omega) (by omega)
    obtain ⟨n1, m1⟩ := lev_near (v := v) (t := 2) (by omega) (by omega)
    obtain ⟨n2, m2⟩ := lev_near (v := v) (t := 3) (by omega) (by omega)
    obtain ⟨n3, m3⟩ := lev_near (v := v) (t := 1) (by omega) (by omega)
    obtain ⟨l0, e0⟩ : ∃ l, l = lev v 0 := ⟨_, rfl⟩
    obtain ⟨l1, e1⟩ : ∃ l, l = lev v 2 := ⟨_, rfl⟩
    obtain ⟨l2, e2⟩ : ∃ l, l = lev v 3 := ⟨_, rfl⟩
    obtain ⟨l3, e3⟩ : ∃ l, l = lev v 1 := ⟨_, rfl⟩
    rw [← e0] at D0 hs n0 m0
    rw [← e1] at D1 hs n1 m1
    rw [← e2] at D2 hs n2 m2
    rw [← e3] at D3 hs n3 m3
    obtain ⟨m, hm⟩ : ∃ m, m = 63 * v / 255 := ⟨_, rfl⟩
    obtain ⟨M, hM⟩ : ∃ M, M = 252 * v / 255 := ⟨_, rfl⟩
    have M0 : 0 ≤ m ∧ m ≤ 63 := by rw [hm]; omega
    rw [← hm] at n0 n1 n2 n3 m0 m1 m2 m3
    rw [← hM] at hs
    have hm2 : 63 * v / 255 = m := hm.symm
    have hM2 : 252 * v / 255 = M := hM.symm
    obtain ⟨v0, v1⟩ := hv
    obtain ⟨M1, M2⟩ := M0
    have D0 := Lib.hid D0
    have D1 := Lib.hid D1
    have D2 := Lib.hid D2
    have D3 := Lib.hid D3
    have HM := Lib.hid hs
    have sM : ((l0 + l1 + l2 + l3) == M) = true := by simp [hs]
    clear e0 e1 e2 e3 cv ha hb r0 r1 r2 r3 hs hm hM
    go_enter Try.func3, Try.ntmps3
    go_wp2_with fail
    refine (big_no _ _ _ _ hbig).mono ?_
    rintro e w3 ⟨rfl, rfl⟩
    go_wp2_with fail
    refine HA0.out.mono ?_
    rintro e w3 ⟨rfl, rfl⟩
    go_wp2_with fail
    refine HA1.out.mono ?_
    rintro e w3 ⟨rfl, rfl⟩
    go_wp2_with fail
    refine HA2.out.mono ?_
    rintro e w3 ⟨rfl, rfl⟩
    go_wp2_with fail
    go_loopw [6, 7] (fun s6 s7 wr => ∃ k : Nat, k ≤ 4 ∧ s7 = .int .i64 k ∧ Hid (s6 = .int .i64 (if k = 0 then 0 else if k = 1 then l0 else if k = 2 then l0 + l1 else if k = 3 then l0 + l1 + l2 else l0 + l1 + l2 + l3)) ∧ Below w.heap.size w wr) (fun _ s7 _ => 4 - (intOf s7).toNat)
    case atStart => exact ⟨0, by omega, rfl, Lib.hid rfl, Below.refl _ _⟩
    case round =>
      obtain ⟨k, hk, rfl, Hd, K⟩ := hrel
      have HK := Lib.hid K
      clear K
      obtain rfl | rfl | rfl | rfl | rfl : k = 0 ∨ k = 1 ∨ k = 2 ∨ k = 3 ∨ k = 4 := by omega
      · obtain rfl := Hd.out
        go_wp2_with fail
        refine (D0.out _).mono ?_
        rintro e w4 ⟨rfl, hb⟩
        have K := belI_call HK.out hb
        clear hb
        go_wp2_with fail
        go_roundw
        case rel => exact ⟨1, by omega, rfl, Lib.hid rfl, K⟩
        case measure => simp [intOf]
      · obtain rfl := Hd.out
        go_wp2_with fail
        refine (D1.out _).mono ?_
        rintro e w4 ⟨rfl, hb⟩
        have K := belI_call HK.out hb
        clear hb
        go_wp2_with fail
        go_roundw
        case rel => exact ⟨2, by omega, rfl, Lib.hid rfl, K⟩
        case measure => simp [intOf]
      · obtain rfl := Hd.out
        go_wp2_with fail
        refine (D2.out _).mono ?_
        rintro e w4 ⟨rfl, hb⟩
        have K := belI_call HK.out hb
        clear hb
        go_wp2_with fail
        go_roundw
        case rel => exact ⟨3, by omega, rfl, Lib.hid rfl, K⟩
        case measure => simp [intOf]
      · obtain rfl := Hd.out
        go_wp2_with fail
        refine (D3.out _).mono ?_
        rintro e w4 ⟨rfl, hb⟩
        have K := belI_call HK.out hb
        clear hb
        go_wp2_with fail
        go_roundw
        case rel => exact ⟨4, by omega, rfl, Lib.hid rfl, K⟩
        case measure => simp [intOf]
      · obtain rfl := Hd.out
        go_wp2_with fail
        go_ret
        exact ⟨by rw [HM.out]; simp, HK.out⟩
  · clear hrow
    go_enter Try.func3, Try.ntmps3
    go_wp2_with fail
    refine (big_yes _ _ _ _ (by omega)).mono ?_
    rintro e w1 ⟨rfl, rfl⟩
    go_wp2_with fail
    go_ret
    exact ⟨rfl, Below.refl _ _⟩
end Go.Proofs.Ytaggldhlnjbnhaa
