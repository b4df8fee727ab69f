/- The contract of spec.FormatInt. No statement is proved here. -/
import Derived.Test.YteichodalcdbcaaDoorFig
import Derived.Test.YteichodalcdbcaaDoorFmtI
namespace Go.Proofs.YteichodalcdbcaaDoor
open Go.RowKit

theorem fig_ofNat (m : Nat) : fig (((m % 10 : Nat) : Int)).toNat = UInt8.ofNat (48 + m % 10) := by
  unfold fig
  have h : m % 10 < 10 := Nat.mod_lt _ (by omega)
  rw [Int.toNat_natCast, if_pos h]

theorem dec_len (k : Nat) (h : k ≤ 9223372036854775808) : (Lib.decDigits k).length ≤ 21 := by
  have h1 := Lib.itoa_length_le (-(k : Int)) (by omega) (by omega)
  by_cases hk : k = 0
  · subst hk; rw [Lib.decDigits_one (by omega)]; simp
  · rw [Lib.itoa_neg k (by omega), List.length_cons] at h1; omega

set_option maxHeartbeats 1000000 in
theorem fmtS (n : Int) (h0 : -9223372036854775808 ≤ n) (h1 : n ≤ 9223372036854775807) (w : World) :
    Calls Tryd.prog 19 #[.int .i64 n] w fun e w' => e = .returned (.string (dec n)) ∧ Below w.heap.size w w' := by
  by_cases hz : n = 0
  · subst hz
    have hd : dec 0 = ⟨#[48]⟩ := by
      unfold dec Lib.itoa
      rw [if_neg (by omega), show (0 : Int).toNat = 0 from rfl, Lib.decDigits_one (by omega)]; rfl
    have Hd := Lib.hid hd
    clear hd
    go_enter Tryd.func19, Tryd.ntmps19
    go_wp2_with fail
    go_ret
    exact ⟨by rw [Hd.out]; rfl, Below.refl _ _⟩
  · by_cases hneg : n < 0
    · obtain ⟨k, rfl⟩ : ∃ k : Nat, n = -(k : Int) := ⟨n.natAbs, by omega⟩
      have hk : k ≤ 9223372036854775808 := by omega
      have hk0 : 0 < k := by omega
      have hd : dec (-(k : Int)) = ⟨(45 :: Lib.decDigits k).toArray⟩ := by unfold dec; rw [Lib.itoa_neg k (by omega)]
      have hl := dec_len k hk
      have Hl := Lib.hid hl
      have Hd := Lib.hid hd
      have Hk := Lib.hid hk
      clear hd hz hl hk
      have hne : (-(k : Int) == 0) = false := by rw [beq_eq_false_iff_ne]; omega
      have hlt : decide (-(k : Int) < 0) = true := by simp; omega
      go_enter Tryd.func19, Tryd.ntmps19
      go_wp2_with fail
      go_loopw [0, 4] (fun i t wr => ∃ (m : Nat) (out : List UInt8), m ≤ k ∧ i = .int .i64 (-(m : Int)) ∧ t = .string ⟨out.toArray⟩ ∧ Hid (Lib.decDigits k = (if m = 0 then [] else Lib.decDigits m) ++ out) ∧ Below w.heap.size w wr) (fun i _ _ => (intOf i).natAbs)
      case atStart => exact ⟨k, [], Nat.le_refl _, rfl, rfl, Lib.hid (by rw [if_neg (by omega), List.append_nil]), Below.refl _ _⟩
      case round =>
        obtain ⟨m, out, hm, rfl, rfl, Ho, hb⟩ := hrel
        have hsz := hb.size
        have Hb := Lib.hid hb
        clear hb
        have hlen : out.length ≤ 21 := by
          have h1 := Hl.out
          rw [Ho.out, List.length_append] at h1
          omega
        by_cases hp : 0 < m
        · have e2 := dec_step m hp out
          rw [← Ho.out, ← fig_ofNat] at e2
          obtain ⟨r, hr⟩ : ∃ r, r = m % 10 := ⟨_, rfl⟩
          have hr9 : r ≤ 9 := by omega
          rw [← hr] at e2
          have Hr := Lib.hid hr
          have c1 := fun W => figS (r : Int) (by omega) (by omega) W
          obtain ⟨b, hbb⟩ : ∃ b, b = fig ((r : Int)).toNat := ⟨_, rfl⟩
          rw [← hbb] at c1 e2
          have hcv := conv_one wr (b.toNat : Int) b rfl
          have C := Lib.hid c1
          have E2 := Lib.hid e2
          clear c1 e2 hbb hr Ho
          have htm : (-(m : Int)).tmod 10 = -(r : Int) := by have := Hr.out; rw [Int.neg_tmod, Int.tmod_eq_emod_of_nonneg (by omega)]; omega
          have htd : (-(m : Int)).tdiv 10 = -((m / 10 : Nat) : Int) := by rw [Int.neg_tdiv, Int.tdiv_eq_ediv_of_nonneg (by omega)]; omega
          have hnz : (-(m : Int) != 0) = true := by rw [bne_iff_ne]; omega
          have q10 : m / 10 ≤ 9223372036854775807 := by have := Hk.out; omega
          obtain ⟨q, hq⟩ : ∃ q, q = m / 10 := ⟨_, rfl⟩
          rw [← hq] at htd E2 q10
          have Hq := Lib.hid hq
          clear hq
          by_cases hr0 : r = 0
          · subst hr0
            go_wp2_with fail
            refine (C.out _).mono ?_
            rintro e w1 ⟨rfl, rfl⟩
            go_wp2_with fail
            go_roundw
            case rel => exact ⟨q, _, by have := Hq.out; omega, rfl, ByteArray.mk_append_mk [b] out ▸ rfl, E2, Hb.out.alloc hsz _⟩
            case measure => have := Hq.out; simp [intOf]; omega
          · have hd0 : decide (-(r : Int) < 0) = true := by simp; omega
            go_wp2_with fail
            refine (C.out _).mono ?_
            rintro e w1 ⟨rfl, rfl⟩
            go_wp2_with fail
            go_roundw
            case rel => exact ⟨q, _, by have := Hq.out; omega, rfl, ByteArray.mk_append_mk [b] out ▸ rfl, E2, Hb.out.alloc hsz _⟩
            case measure => have := Hq.out; simp [intOf]; omega
        · obtain rfl : m = 0 := by omega
          have hfin : Lib.decDigits k = out := by simpa using Ho.out
          have Hfin := Lib.hid hfin
          clear hfin Ho
          go_wp2_with fail
          go_ret
          exact ⟨by rw [Hd.out, Hfin.out]; rfl, Hb.out⟩
    · obtain ⟨k, rfl⟩ := Int.eq_ofNat_of_zero_le (show 0 ≤ n by omega)
      have hk : k ≤ 9223372036854775807 := by omega
      have hk0 : 0 < k := by omega
      have hd : dec (k : Int) = ⟨(Lib.decDigits k).toArray⟩ := by unfold dec; rw [Lib.itoa_nonneg]
      have hl := dec_len k (by omega)
      have Hl := Lib.hid hl
      have Hd := Lib.hid hd
      clear hd hz hl hneg
      have hne : ((k : Int) == 0) = false := by rw [beq_eq_false_iff_ne]; omega
      go_enter Tryd.func19, Tryd.ntmps19
      go_wp2_with fail
      go_loopw [0, 4] (fun i t wr => ∃ (m : Nat) (out : List UInt8), m ≤ k ∧ i = .int .i64 (m : Int) ∧ t = .string ⟨out.toArray⟩ ∧ Hid (Lib.decDigits k = (if m = 0 then [] else Lib.decDigits m) ++ out) ∧ Below w.heap.size w wr) (fun i _ _ => (intOf i).natAbs)
      case atStart => exact ⟨k, [], Nat.le_refl _, rfl, rfl, Lib.hid (by rw [if_neg (by omega), List.append_nil]), Below.refl _ _⟩
      case round =>
        obtain ⟨m, out, hm, rfl, rfl, Ho, hb⟩ := hrel
        have hsz := hb.size
        have Hb := Lib.hid hb
        clear hb
        have hlen : out.length ≤ 21 := by
          have h1 := Hl.out
          rw [Ho.out, List.length_append] at h1
          omega
        by_cases hp : 0 < m
        · have e2 := dec_step m hp out
          rw [← Ho.out, ← fig_ofNat] at e2
          obtain ⟨r, hr⟩ : ∃ r, r = m % 10 := ⟨_, rfl⟩
          have hr9 : r ≤ 9 := by omega
          rw [← hr] at e2
          have Hr := Lib.hid hr
          have c1 := fun W => figS (r : Int) (by omega) (by omega) W
          obtain ⟨b, hbb⟩ : ∃ b, b = fig ((r : Int)).toNat := ⟨_, rfl⟩
          rw [← hbb] at c1 e2
          have hcv := conv_one wr (b.toNat : Int) b rfl
          have C := Lib.hid c1
          have E2 := Lib.hid e2
          clear c1 e2 hbb hr Ho
          have htm : (m : Int) % 10 = (r : Int) := by have := Hr.out; omega
          have htd : (m : Int) / 10 = ((m / 10 : Nat) : Int) := by omega
          have hnz : ((m : Int) != 0) = true := by rw [bne_iff_ne]; omega
          obtain ⟨q, hq⟩ : ∃ q, q = m / 10 := ⟨_, rfl⟩
          rw [← hq] at htd E2
          have Hq := Lib.hid hq
          clear hq
          have hd0 : decide ((r : Int) < 0) = false := by simp
          have hr00 : (0 : Int) ≤ (r : Int) := by omega
          go_wp2_with fail
          refine (C.out _).mono ?_
          rintro e w1 ⟨rfl, rfl⟩
          go_wp2_with fail
          go_roundw
          case rel => exact ⟨q, _, by have := Hq.out; omega, rfl, ByteArray.mk_append_mk [b] out ▸ rfl, E2, Hb.out.alloc hsz _⟩
          case measure => have := Hq.out; simp [intOf]; omega
        · obtain rfl : m = 0 := by omega
          have hfin : Lib.decDigits k = out := by simpa using Ho.out
          have Hfin := Lib.hid hfin
          clear hfin Ho
          go_wp2_with fail
          go_ret
          exact ⟨by rw [Hd.out, Hfin.out]; rfl, Hb.out⟩
end Go.Proofs.YteichodalcdbcaaDoor
