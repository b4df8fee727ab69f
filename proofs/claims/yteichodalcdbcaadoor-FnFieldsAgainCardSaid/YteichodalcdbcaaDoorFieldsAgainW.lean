/- The walk of the law FnFieldsAgain: it returns true for every code, where the library's table of powers lies as its text lays it. -/
import Derived.Test.YteichodalcdbcaaDoorSplitD
import Derived.Test.YteichodalcdbcaaDoorSplitS
import Derived.Test.YteichodalcdbcaaDoorSplitI
import Derived.Test.YteichodalcdbcaaDoorSameTexts
import Derived.Test.YteichodalcdbcaaDoorJoinP
import Derived.Test.YteichodalcdbcaaDoorFmtI
import Derived.Test.YteichodalcdbcaaDoorBig
import Derived.Test.YteichodalcdbcaaDoorFrame
namespace Go.Proofs.YteichodalcdbcaaDoor
open Go.RowKit

theorem ba_join (A : List UInt8) (f : ByteArray) : ByteArray.mk A.toArray ++ f ++ ByteArray.mk #[32] = ByteArray.mk (A ++ (f.data.toList ++ [32])).toArray := by
  have e : f = ByteArray.mk f.data.toList.toArray := by simp
  have e1 : ByteArray.mk #[32] = ByteArray.mk [32].toArray := rfl
  rw [e, e1, ByteArray.mk_append_mk, ByteArray.mk_append_mk]
  simp

set_option maxHeartbeats 2000000 in
theorem walk_FnFieldsAgain (a : Option Addr) (len cap : Nat) (zs : List Int) (w : World) (hrow : IsRow .u8 w a len cap zs) (ht : Tab w) :
    Calls Tryd.prog 5 #[.slice a len cap] w fun e w' => e = .returned (.bool true) ∧ Below w.heap.size w w' := by
  have Ht := Lib.hid ht
  clear ht
  by_cases hbig : len ≤ 1048576
  · go_enter Tryd.func5, Tryd.ntmps5
    go_wp2_with fail
    refine (big_no _ _ _ _ hbig).mono ?_
    rintro e w1 ⟨rfl, rfl⟩
    go_wp2_with fail
    refine (drawSplit_any _ _ _ _ zs hrow).mono ?_
    rintro e w1 ⟨s, rfl, hs, hb1⟩
    have Hb1 := Lib.hid hb1
    clear hrow hb1
    go_wp2_with fail
    refine (splitI s (by omega) _).mono ?_
    rintro e w2 ⟨v1, l1, ok1, rfl, hok1, hl1, hown1, hb2⟩
    have Hb2 := Lib.hid (Hb1.out.trans (hb2.mono Hb1.out.size))
    have Hok1 := Lib.hid hok1
    have Hl1 := Lib.hid hl1
    have Ho1 := Lib.hid hown1
    clear hok1 hl1 hown1 hb2
    go_wp2_with fail
    refine (splitS s (by omega) _).mono ?_
    rintro e w3 ⟨v2, l2, ok2, rfl, hok2, hl2, hown2, hb3⟩
    obtain rfl : ok2 = ok1 := hok2.trans Hok1.out.symm
    have Hb3 := Lib.hid (Hb2.out.trans (hb3.mono Hb2.out.size))
    have Ho13 := Lib.hid (own_below Ho1.out hb3 (Nat.le_refl _))
    clear hok2 hl2 hown2 hb3
    cases hf : fieldsOf s with
    | none =>
      have e1 : ok2 = false := by rw [Hok1.out, hf]; rfl
      have e2 : l1 = [] := by rw [Hl1.out, hf]; rfl
      subst e1
      subst e2
      obtain ⟨A, c, hv⟩ : ∃ A c, v1 = .slice A 0 c := by
        rcases Ho13.out.2 with ⟨rfl, -⟩ | ⟨g, cap, cur, rfl, -⟩
        · exact ⟨none, 0, rfl⟩
        · exact ⟨_, _, rfl⟩
      subst hv
      have h3 : dec (-3) = ⟨#[45, 51]⟩ := by
        unfold dec Lib.itoa
        rw [if_pos (by omega), show (-3 : Int).natAbs = 3 from rfl, Lib.decDigits_one (by omega)]; rfl
      have H3 := Lib.hid h3
      clear h3 hf
      go_wp2_with fail
      refine (fmtI (-3) (by omega) (by omega) _ (Ht.out.on Hb3.out)).mono ?_
      rintro e w4 ⟨rfl, hb4⟩
      rw [H3.out]
      have Hb4 := Lib.hid (Hb3.out.trans (hb4.mono Hb3.out.size))
      clear hb4
      go_wp2_with fail
      go_ret
      exact ⟨rfl, Hb4.out⟩
    | some fs =>
      have e1 : ok2 = true := by rw [Hok1.out, hf]; rfl
      have e2 : l1 = fs := by rw [Hl1.out, hf]; rfl
      subst e1
      subst e2
      obtain ⟨hfa, hn24⟩ := fields_are hf
      have Hfa := Lib.hid hfa
      clear hfa hf
      obtain ⟨n, hn⟩ : ∃ n, n = l1.length := ⟨_, rfl⟩
      rw [← hn] at hn24
      have hrd := Rd.of_own Ho13.out
      rw [← hn] at hrd
      obtain ⟨A, c, rfl⟩ := hrd.form
      have Hn := Lib.hid hn
      have Hrd := Lib.hid hrd
      have hjl : (join l1).length ≤ 20000 := by have := join_le l1 Hfa.out; rw [← Hn.out] at this; omega
      clear hn hrd
      have hpre : ∀ k, (join (l1.take k)).length ≤ (join l1).length := fun k => by
        conv => rhs; rw [← List.take_append_drop k l1, join_append, List.length_append]
        omega
      have Hpre := Lib.hid hpre
      clear hpre
      go_wp2_with fail
      go_loop [8, 9] (fun t i => ∃ (k : Nat) (x : ByteArray), k ≤ n ∧ i = .int .i64 k ∧ t = .string x ∧ Hid (x = ⟨(join (l1.take k)).toArray⟩)) (fun _ i => n - (intOf i).toNat)
      case atStart => exact ⟨0, ByteArray.empty, Nat.zero_le _, rfl, rfl, Lib.hid (by simp [join]; rfl)⟩
      case round =>
        obtain ⟨k, x, hk, rfl, rfl, Hx⟩ := hrel
        have hxl : x.size ≤ 20000 := by
          have e : x.size = (join (l1.take k)).length := by rw [Hx.out]; rfl
          have := Hpre.out k
          omega
        by_cases hlt : k < n
        · obtain ⟨ad, u, rfl, hu, hc⟩ := Hrd.out.at_ hlt
          simp only [strCells, List.getElem?_map] at hu
          obtain ⟨p, hp, rfl⟩ := Option.map_eq_some_iff.1 hu
          have hpl : p.size ≤ 600 := (Hfa.out p (List.mem_of_getElem? hp)).le
          have htk : l1.take (k + 1) = l1.take k ++ [p] := by rw [List.take_add_one, hp]; rfl
          have Htk := Lib.hid htk
          have k0 : (0 : Int) ≤ (k : Int) := by omega
          have k1 : (k : Int) < (n : Int) := by omega
          clear hu hp htk
          go_wp2_with fail
          go_round
          case rel => exact ⟨k + 1, _, by omega, by go_num, rfl, Lib.hid (by rw [Hx.out, Htk.out, join_snoc]; exact ba_join _ _)⟩
          case measure => simp [intOf]; omega
        · obtain rfl : k = n := by omega
          have hx2 : x.data.toList = join l1 := by
            rw [Hx.out, List.take_of_length_le (by rw [← Hn.out]; exact Nat.le_refl _)]
          have Hx2 := Lib.hid hx2
          clear hx2
          go_wp2_with fail
          refine (splitI x (by omega) _).mono ?_
          rintro e w4 ⟨v3, l3, ok3, rfl, hok3, hl3, hown3, hb4⟩
          have Hb4 := Lib.hid (Hb3.out.trans (hb4.mono Hb3.out.size))
          have Ho14 := Lib.hid (own_below Ho13.out hb4 (Nat.le_refl _))
          clear hb4
          by_cases h600 : 600 < x.size
          · have Ho3 := Lib.hid hown3
            clear hok3 hl3 hown3
            go_wp2_with fail
            go_ret
            exact ⟨rfl, Hb4.out⟩
          · have hfj := fields_join Hx2.out Hfa.out (by rw [← Hn.out]; exact hn24) (by omega)
            have e3 : ok3 = true := by rw [hok3, hfj]; rfl
            have e4 : l3 = l1 := by rw [hl3, hfj]; rfl
            subst e3
            subst e4
            have Ho3 := Lib.hid hown3
            clear hok3 hl3 hown3 hfj
            have heqt : Calls Tryd.prog 18 #[.slice A k c, v3] w4 fun e w' => e = .returned (.bool true) ∧ ∃ q, w' = w4.drewN q := (sameTextsL (.slice A k c) v3 l3 l3 w4 (Rd.of_own Ho14.out) (Rd.of_own Ho3.out)).mono fun e w' h => ⟨h.1.trans (ret_bool (by simp)), h.2⟩
            have Heqt := Lib.hid heqt
            clear heqt
            go_wp2_with fail
            refine Heqt.out.mono ?_
            rintro e w5 ⟨rfl, q, rfl⟩
            go_wp2_with fail
            go_ret
            exact ⟨rfl, below_drewN Hb4.out q⟩
  · go_enter Tryd.func5, Tryd.ntmps5
    go_wp2_with fail
    refine (big_yes _ _ _ _ (by omega)).mono ?_
    rintro e w1 ⟨rfl, rfl⟩
    go_wp2_with fail
    go_ret
    exact ⟨rfl, Below.refl _ _⟩
end Go.Proofs.YteichodalcdbcaaDoor
