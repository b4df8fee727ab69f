/- The contract of impl.ParseUint. No statement is proved here. -/
import Derived.Test.YteichodalcdbcaaDoorPuP
import Derived.Test.YteichodalcdbcaaDoorLaid
namespace Go.Proofs.YteichodalcdbcaaDoor
open Go.RowKit
open Lib (decDigits)

set_option maxHeartbeats 1000000 in
theorem puI (s : ByteArray) (hs : s.size ≤ 1048576) (w : World) (ht : Tab w) (he : Errs w) :
    Calls Tryd.prog 14 #[.string s] w (PuOut s w) := by
  have Ht := Lib.hid ht
  have He := Lib.hid he
  clear ht he
  rcases hat : Lib.atoiAll s.data.toList with v | _ | _
  ·
    have hno : ∀ m : Nat, m ≤ 1000000000 → decDigits m = s.data.toList → v = m := fun m hm h => by
      have := atoi_dec m hm
      rw [h, hat] at this
      injection this
    have hbd := Lib.atoiAll_bounds hat
    have Hat := Lib.hid hat
    have Hno := Lib.hid hno
    clear hat hno
    have hb0 : -9223372036854775808 ≤ v := by omega
    have hb1 : v ≤ 9223372036854775807 := by omega
    go_enter Tryd.func14, Tryd.ntmps14
    go_wp2_with fail
    refine (Tryd.strconv_Atoi_ok s (by omega) v Hat.out _).mono ?_
    rintro e w1 ⟨rfl, hw1⟩
    have hb : Below w.heap.size w w1 := by
      rcases hw1 with rfl | ⟨t, rfl⟩
      · exact Below.refl _ _
      · exact Lib.bytesWorld_below _ _ _
    have Hb := Lib.hid hb
    clear hw1 hb
    by_cases hin : 0 ≤ v ∧ v ≤ 1000000000
    · obtain ⟨h0, h1⟩ := hin
      obtain ⟨m, rfl⟩ := Int.eq_ofNat_of_zero_le h0
      by_cases heq : dec (m : Int) = s
      · have Heq := Lib.hid heq
        clear heq
        go_wp2_with fail
        refine (fmtI (m : Int) hb0 hb1 _ (Ht.out.on Hb.out)).mono ?_
        rintro e w2 ⟨rfl, hb2⟩
        have Hb2 := Lib.hid (Hb.out.trans (hb2.mono Hb.out.size))
        clear hb2
        rw [Heq.out]
        go_wp2_with fail
        go_ret2
        exact ⟨_, _, rfl, .inl ⟨rfl, m, rfl, by omega, (dec_eq_iff m s).1 Heq.out⟩, Hb2.out⟩
      · have hne := str_ne heq
        have Heq := Lib.hid heq
        clear heq
        go_wp2_with fail
        refine (fmtI (m : Int) hb0 hb1 _ (Ht.out.on Hb.out)).mono ?_
        rintro e w2 ⟨rfl, hb2⟩
        have Hb2 := Lib.hid (Hb.out.trans (hb2.mono Hb.out.size))
        clear hb2
        go_wp2_with fail
        go_ret2
        refine ⟨_, _, rfl, .inr ⟨rfl, rfl, fun k hk h => Heq.out ?_⟩, Hb2.out⟩
        have := Hno.out k hk h
        obtain rfl : m = k := by omega
        exact (dec_eq_iff m s).2 h
    · by_cases h0 : 0 ≤ v
      · have h1 : 1000000000 < v := by omega
        clear hin
        go_wp2_with fail
        go_ret2
        exact ⟨_, _, rfl, .inr ⟨rfl, rfl, fun k hk h => by have := Hno.out k hk h; omega⟩, Hb.out⟩
      · clear hin
        go_wp2_with fail
        go_ret2
        exact ⟨_, _, rfl, .inr ⟨rfl, rfl, fun k hk h => by have := Hno.out k hk h; omega⟩, Hb.out⟩
  ·
    have Hno : Hid (∀ m : Nat, m ≤ 1000000000 → decDigits m ≠ s.data.toList) := fun m hm h => by
      have := atoi_dec m hm
      rw [h, hat] at this
      cases this
    have Hat := Lib.hid hat
    clear hat
    obtain ⟨⟨tp, p, hv⟩, -⟩ := He.out
    have Hv := Lib.hid hv
    clear hv
    go_enter Tryd.func14, Tryd.ntmps14
    go_wp2_with fail
    refine (Tryd.strconv_Atoi_syntax_var s (by omega) Hat.out tp p _ Hv.out).mono ?_
    rintro e w1 ⟨N, rfl, -, -, hb⟩
    have Hb := Lib.hid hb
    clear hb
    go_wp2_with fail
    go_ret2
    exact ⟨_, _, rfl, .inr ⟨rfl, rfl, Hno.out⟩, Hb.out⟩
  ·
    have Hno : Hid (∀ m : Nat, m ≤ 1000000000 → decDigits m ≠ s.data.toList) := fun m hm h => by
      have := atoi_dec m hm
      rw [h, hat] at this
      cases this
    have Hat := Lib.hid hat
    clear hat
    obtain ⟨-, tp, p, hv⟩ := He.out
    have Hv := Lib.hid hv
    clear hv
    go_enter Tryd.func14, Tryd.ntmps14
    go_wp2_with fail
    refine (Tryd.strconv_Atoi_range_var s (by omega) Hat.out tp p _ Hv.out).mono ?_
    rintro e w1 ⟨N, rfl, -, -, hb⟩
    have Hb := Lib.hid hb
    clear hb
    go_wp2_with fail
    go_ret2
    exact ⟨_, _, rfl, .inr ⟨rfl, rfl, Hno.out⟩, Hb.out⟩
end Go.Proofs.YteichodalcdbcaaDoor
