/- The walk of the law FnNumbers: it returns true for every code, where the library's variables lie as its text lays them. -/
import Derived.Test.YteichodalcdbcaaDoorPuI
import Derived.Test.YteichodalcdbcaaDoorFmtD
import Derived.Test.YteichodalcdbcaaDoorBig
namespace Go.Proofs.YteichodalcdbcaaDoor
open Go.RowKit
open Lib (decDigits)

theorem dec_nonempty (n : Int) : (dec n).toList.isEmpty = false := by
  rw [ByteArray.toList_eq]
  unfold dec Lib.itoa
  split
  · rfl
  · have := dec_ne n.toNat
    cases h : decDigits n.toNat with
    | nil => exact absurd h this
    | cons a l => rfl
theorem dec_len21 (n : Int) (h0 : -9223372036854775808 ≤ n) (h1 : n ≤ 9223372036854775807) : (dec n).size ≤ 21 := by
  have := Lib.itoa_length_le n h0 h1
  unfold dec
  exact this
/-- of the text of n: it is read as n if n is from 0 to 1000000000, and else not at all -/
theorem PU.of_dec {n x : Int} {ok : Bool} (h : PU (dec n).data.toList x ok) : (ok = true ∧ x = n ∧ 0 ≤ n ∧ n ≤ 1000000000) ∨ (ok = false ∧ ¬ (0 ≤ n ∧ n ≤ 1000000000)) := by
  rcases h with ⟨rfl, m, rfl, hm, hl⟩ | ⟨rfl, rfl, hno⟩
  · by_cases hn : n < 0
    · exfalso
      have e : (dec n).data.toList = 45 :: decDigits n.natAbs := by unfold dec Lib.itoa; rw [if_pos hn]
      rw [e] at hl
      have := dec_digit m 45 (by rw [hl]; simp)
      simp at this
    · obtain ⟨k, rfl⟩ := Int.eq_ofNat_of_zero_le (show 0 ≤ n by omega)
      rw [dec_toList] at hl
      have := dec_inj hl
      subst this
      exact .inl ⟨rfl, rfl, by omega, by omega⟩
  · refine .inr ⟨rfl, fun hn => ?_⟩
    obtain ⟨k, rfl⟩ := Int.eq_ofNat_of_zero_le hn.1
    exact hno k (by omega) (dec_toList k).symm

set_option maxHeartbeats 400000 in
theorem walk_FnNumbers (a : Option Addr) (len cap : Nat) (zs : List Int) (w : World) (hrow : IsRow .u8 w a len cap zs) (ht : Tab w) (he : Errs w) :
    Calls Tryd.prog 4 #[.slice a len cap] w fun e w' => e = .returned (.bool true) ∧ Below w.heap.size w w' := by
  have Ht := Lib.hid ht
  have He := Lib.hid he
  clear ht he
  by_cases hbig : len ≤ 1048576
  · go_enter Tryd.func4, Tryd.ntmps4
    go_wp2_with fail
    refine (big_no _ _ _ _ hbig).mono ?_
    rintro e w1 ⟨rfl, rfl⟩
    go_wp2_with fail
    refine (drawFormat_any _ _ _ _ zs hrow).mono ?_
    rintro e w1 ⟨n, rfl, hn, hb1⟩
    obtain ⟨h0, h1⟩ := wf_bd hn
    have Hb1 := Lib.hid hb1
    clear hrow hn hb1
    go_wp2_with fail
    refine (fmtI n h0 h1 _ (Ht.out.on Hb1.out)).mono ?_
    rintro e w2 ⟨rfl, hb2⟩
    have Hb2 := Lib.hid (Hb1.out.trans (hb2.mono Hb1.out.size))
    clear hb2
    have hl := dec_len21 n h0 h1
    go_wp2_with fail
    refine (puI (dec n) (by omega) _ (Ht.out.on Hb2.out) (He.out.on Hb2.out)).mono ?_
    rintro e w3 ⟨x, ok, rfl, hpu, hb3⟩
    have Hb3 := Lib.hid (Hb2.out.trans (hb3.mono Hb2.out.size))
    clear hb3
    have hne := dec_nonempty n
    rcases hpu.of_dec with ⟨rfl, rfl, hx0, hx1⟩ | ⟨rfl, hx⟩
    · clear hpu
      go_wp2_with fail
      go_ret
      exact ⟨rfl, Hb3.out⟩
    · clear hpu
      by_cases hx0 : 0 ≤ n
      · have hx1 : 1000000000 < n := by omega
        clear hx
        go_wp2_with fail
        go_ret
        exact ⟨rfl, Hb3.out⟩
      · clear hx
        go_wp2_with fail
        go_ret
        exact ⟨rfl, Hb3.out⟩
  · go_enter Tryd.func4, Tryd.ntmps4
    go_wp2_with fail
    refine (big_yes _ _ _ _ (by omega)).mono ?_
    rintro e w1 ⟨rfl, rfl⟩
    go_wp2_with fail
    go_ret
    exact ⟨rfl, Below.refl _ _⟩
end Go.Proofs.YteichodalcdbcaaDoor
