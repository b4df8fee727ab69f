/- The contract of spec.ParseUint. No statement is proved here. -/
import Derived.Test.YteichodalcdbcaaDoorPuP
import Derived.Test.YteichodalcdbcaaDoorFmtS
namespace Go.Proofs.YteichodalcdbcaaDoor
open Go.RowKit
open Lib (decDigits)

theorem dig_in {m : Nat} {l : List UInt8} (h : decDigits m = l) {k : Nat} {c : UInt8} (hc : l[k]? = some c) : 48 ≤ c.toNat ∧ c.toNat ≤ 57 := by
  subst h
  exact dec_digit m c (List.mem_of_getElem? hc)

set_option maxHeartbeats 1000000 in
theorem puS (s : ByteArray) (hs : s.size ≤ 1048576) (w : World) :
    Calls Tryd.prog 20 #[.string s] w (PuOut s w) := by
  have hls : s.data.toList.length = s.size := by rw [Array.length_toList]; rfl
  by_cases hlong : 10 < s.size
  · have Hno : Hid (∀ m : Nat, m ≤ 1000000000 → decDigits m ≠ s.data.toList) := fun m hm h => by
      have := dec_length 10 m (by omega) (by omega)
      rw [h, hls] at this
      omega
    clear hls
    go_enter Tryd.func20, Tryd.ntmps20
    go_wp2_with fail
    go_ret2
    exact ⟨_, _, rfl, .inr ⟨rfl, rfl, Hno.out⟩, Below.refl _ _⟩
  · have hs10 : s.size ≤ 10 := by omega
    clear hlong
    have Hls := Lib.hid hls
    clear hls
    go_enter Tryd.func20, Tryd.ntmps20
    go_wp2_with fail
    go_loop [4, 5] (fun n i => ∃ (k v : Nat), k ≤ s.size ∧ i = .int .i64 k ∧ n = .int .i64 v ∧ Hid (v = valN (s.data.toList.take k) ∧ v < 10 ^ k)) (fun _ i => s.size - (intOf i).toNat)
    case atStart => exact ⟨0, 0, Nat.zero_le _, rfl, rfl, Lib.hid ⟨by simp [valN], by simp⟩⟩
    case round =>
      obtain ⟨k, v, hk, rfl, rfl, Hv⟩ := hrel
      have hv10 : v ≤ 10000000000 := by
        have h1 := Hv.out.2
        have h2 : 10 ^ k ≤ 10 ^ 10 := Nat.pow_le_pow_right (by omega) (by omega)
        omega
      by_cases hlt : k < s.size
      · have ht := take_snoc s k hlt
        have Htk := Lib.hid ht
        have hc0 : (s[k]'hlt).toNat < 256 := (s[k]'hlt).toNat_lt
        clear ht
        have hget : s.data.toList[k]? = some (s[k]'hlt) := by rw [List.getElem?_eq_getElem (by simpa using hlt)]; rfl
        have Hget := Lib.hid hget
        clear hget
        by_cases hc : 48 ≤ (s[k]'hlt).toNat ∧ (s[k]'hlt).toNat ≤ 57
        · obtain ⟨hc1, hc2⟩ := hc
          go_wp2_with fail
          go_round
          case rel =>
            refine ⟨k + 1, 10 * v + ((s[k]'hlt).toNat - 48), by omega, by go_num, by go_num, Lib.hid ⟨?_, ?_⟩⟩
            · rw [Htk.out, valN_snoc, ← Hv.out.1]
            · have := Hv.out.2
              rw [Nat.pow_succ]
              omega
          case measure => simp [intOf]; omega
        · have Hno : Hid (∀ m : Nat, m ≤ 1000000000 → decDigits m ≠ s.data.toList) := fun m _ h => hc (dig_in h Hget.out)
          by_cases hc1 : 48 ≤ (s[k]'hlt).toNat
          · have hc2 : 57 < (s[k]'hlt).toNat := by omega
            clear hc
            go_wp2_with fail
            go_ret2
            exact ⟨_, _, rfl, .inr ⟨rfl, rfl, Hno.out⟩, Below.refl _ _⟩
          · clear hc
            go_wp2_with fail
            go_ret2
            exact ⟨_, _, rfl, .inr ⟨rfl, rfl, Hno.out⟩, Below.refl _ _⟩
      · obtain rfl : k = s.size := by omega
        have hval : ∀ m : Nat, decDigits m = s.data.toList → m = v := fun m h => by
          have h1 := Hv.out.1
          rw [List.take_of_length_le (by rw [Hls.out]; exact Nat.le_refl _), ← h, valN_dec] at h1
          exact h1.symm
        have Hval := Lib.hid hval
        clear hval
        by_cases hbig : 1000000000 < v
        · go_wp2_with fail
          go_ret2
          exact ⟨_, _, rfl, .inr ⟨rfl, rfl, fun m hm h => by have := Hval.out m h; omega⟩, Below.refl _ _⟩
        · by_cases heq : dec (v : Int) = s
          · have Heq := Lib.hid heq
            clear heq
            go_wp2_with fail
            refine (fmtS (v : Int) (by omega) (by omega) _).mono ?_
            rintro e w2 ⟨rfl, hb2⟩
            have Hb2 := Lib.hid hb2
            clear hb2
            rw [Heq.out]
            go_wp2_with fail
            go_ret2
            exact ⟨_, _, rfl, .inl ⟨rfl, v, rfl, by omega, (dec_eq_iff v s).1 Heq.out⟩, Hb2.out⟩
          · have hne := str_ne heq
            have Heq := Lib.hid heq
            clear heq
            go_wp2_with fail
            refine (fmtS (v : Int) (by omega) (by omega) _).mono ?_
            rintro e w2 ⟨rfl, hb2⟩
            have Hb2 := Lib.hid hb2
            clear hb2
            go_wp2_with fail
            go_ret2
            refine ⟨_, _, rfl, .inr ⟨rfl, rfl, fun m hm h => Heq.out ?_⟩, Hb2.out⟩
            obtain rfl := Hval.out m h
            exact (dec_eq_iff m s).2 h
end Go.Proofs.YteichodalcdbcaaDoor
