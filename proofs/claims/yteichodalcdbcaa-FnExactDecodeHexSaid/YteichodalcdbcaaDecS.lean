/- The contracts of spec.l01Value and spec.DecodeHex. No statement is proved here. -/
import Derived.Test.YteichodalcdbcaaDecP
import Derived.Test.YteichodalcdbcaaHexS
namespace Go.Proofs.Yteichodalcdbcaa
open Go.RowKit

theorem valS (c : UInt8) (w : World) : Calls Try.prog 26 #[.int .u8 c.toNat] w fun e w' => e = .returned (.int .i64 (hv c)) ∧ w = w' := by
  have h : c.toNat < 256 := c.toNat_lt
  obtain ⟨x, hx⟩ : ∃ x, hv c = x := ⟨_, rfl⟩
  rw [hx]
  have Hx := Lib.hid hx
  clear hx
  by_cases h1 : 48 ≤ c.toNat
  · by_cases h2 : c.toNat ≤ 57
    · go_enter Try.func26, Try.ntmps26
      go_wp2
      go_ret
      exact ⟨ret_int (by rw [← Hx.out]; unfold hv; rw [if_pos ⟨h1, h2⟩]), rfl⟩
    · by_cases h3 : 97 ≤ c.toNat
      · by_cases h4 : c.toNat ≤ 102
        · go_enter Try.func26, Try.ntmps26
          go_wp2
          go_ret
          exact ⟨ret_int (by rw [← Hx.out]; unfold hv; rw [if_neg (by omega), if_pos ⟨h3, h4⟩]; omega), rfl⟩
        · go_enter Try.func26, Try.ntmps26
          go_wp2
          go_ret
          exact ⟨ret_int (by rw [← Hx.out]; unfold hv; rw [if_neg (by omega), if_neg (by omega)]), rfl⟩
      · go_enter Try.func26, Try.ntmps26
        go_wp2
        go_ret
        exact ⟨ret_int (by rw [← Hx.out]; unfold hv; rw [if_neg (by omega), if_neg (by omega)]), rfl⟩
  · go_enter Try.func26, Try.ntmps26
    go_wp2
    go_ret
    exact ⟨ret_int (by rw [← Hx.out]; unfold hv; rw [if_neg (by omega), if_neg (by omega)]), rfl⟩

theorem decS_no (s : ByteArray) (hs : 40000 < s.size ∨ s.size % 2 = 1) (hm : s.size ≤ 9223372036854775807) (w : World) :
    Calls Try.prog 13 #[.string s] w fun e w' => e = .returned (.tuple #[.string ByteArray.empty, .bool false]) ∧ w = w' := by
  by_cases h : 40000 < s.size
  · go_enter Try.func13, Try.ntmps13
    go_wp2_with fail
    go_ret2
    exact ⟨rfl, rfl⟩
  · have h1 : s.size % 2 = 1 := by omega
    have e1 : ((s.size : Int) % 2 != 0) = true := by rw [bne_iff_ne]; omega
    clear hs h1
    go_enter Try.func13, Try.ntmps13
    go_wp2_with fail
    go_ret2
    exact ⟨rfl, rfl⟩

set_option maxHeartbeats 1000000 in
set_option maxRecDepth 100000 in
theorem decS (s : ByteArray) (hs : s.size ≤ 40000) (h2 : s.size % 2 = 0) (w : World) :
    Calls Try.prog 13 #[.string s] w (DecOut s w) := by
  obtain ⟨i0, hi, hz0, hz1, hz2⟩ := info_parts infoByte
  have e1 : ((s.size : Int) % 2 != 0) = false := by rw [bne_eq_false_iff_eq]; omega
  obtain ⟨n, hn⟩ : ∃ n, s.size = 2 * n := ⟨s.size / 2, by omega⟩
  have Hn := Lib.hid hn
  clear hn h2
  go_enter Try.func13, Try.ntmps13
  go_wp2_with fail
  go_loopw [4, 5] (fun v i wr => ∃ k : Nat, k ≤ n ∧ i = .int .i64 (2 * k : Nat) ∧ (∀ j, j < k → good s.data.toList j) ∧ wr.ownsRow w.heap.size 5 1 v k (Lib.byteCells (decOf s.data.toList k)) ∧ Below w.heap.size w wr) (fun _ i _ => s.size - (intOf i).toNat)
  case atStart => exact ⟨0, Nat.zero_le _, rfl, fun j hj => by omega, World.ownsRow_made w #[] 0 (Nat.le_refl _) (by unfold maxLen; omega) rfl, (Below.refl _ _).alloc (Nat.le_refl _) _⟩
  case round =>
    obtain ⟨k, hk, rfl, hgood, hown, hb⟩ := hrel
    have Hgood := Lib.hid hgood
    have Hown := Lib.hid hown
    have Hb := Lib.hid hb
    clear hgood hown hb
    by_cases hlt : k < n
    · have i0' : (0 : Int) ≤ ((2 * k : Nat) : Int) := by omega
      have i1' : ((2 * k : Nat) : Int) < (s.size : Int) := by have := Hn.out; omega
      have i2' : ((2 * k : Nat) : Int) + 1 < (s.size : Int) := by have := Hn.out; omega
      have hk1 : 2 * k < s.size := by have := Hn.out; omega
      have hk2 : 2 * k + 1 < s.size := by have := Hn.out; omega
      have ex := getD_byte s (2 * k) hk1
      have ey := getD_byte s (2 * k + 1) hk2
      have hx := hv_bd (s[2 * k]'hk1)
      have hy := hv_bd (s[2 * k + 1]'hk2)
      have hgk : good s.data.toList k ↔ 0 ≤ hv (s[2 * k]'hk1) ∧ 0 ≤ hv (s[2 * k + 1]'hk2) := by unfold good; rw [ex, ey]
      have hcell : good s.data.toList k → ((decAt s.data.toList k).toNat : Int) = 16 * hv (s[2 * k]'hk1) + hv (s[2 * k + 1]'hk2) := fun h => by
        have := decAt_cell h
        rw [ex, ey] at this
        unfold decAt
        rw [ex, ey]
        exact this
      have Hgk := Lib.hid hgk
      have Hcell := Lib.hid hcell
      clear hgk hcell ex ey
      have c1 := fun W => valS (s[2 * k]'hk1) W
      have c2 := fun W => valS (s[2 * k + 1]'hk2) W
      have C1 := Lib.hid c1
      have C2 := Lib.hid c2
      clear c1 c2
      obtain ⟨x, hxx⟩ : ∃ x, x = hv (s[2 * k]'hk1) := ⟨_, rfl⟩
      obtain ⟨y, hyy⟩ : ∃ y, y = hv (s[2 * k + 1]'hk2) := ⟨_, rfl⟩
      rw [← hxx] at hx C1 Hgk Hcell
      rw [← hyy] at hy C2 Hgk Hcell
      clear hxx hyy
      go_wp2_with fail
      refine (C1.out _).mono ?_
      rintro e w1 ⟨rfl, rfl⟩
      go_wp2_with fail
      refine (C2.out _).mono ?_
      rintro e w1 ⟨rfl, rfl⟩
      by_cases hg : 0 ≤ x ∧ 0 ≤ y
      · obtain ⟨hx0, hy0⟩ := hg
        have hgd : good s.data.toList k := Hgk.out.2 ⟨hx0, hy0⟩
        have hcl := Hcell.out hgd
        have Hcl := Lib.hid hcl
        have Hgd := Lib.hid hgd
        clear hcl hgd
        have hsz := Hb.out.size
        have hkn : k ≤ 20000 := by have := Hn.out; omega
        go_wp2_with (at_builtin; refine wpList_append_own _ rfl _ _ 22 rfl w.heap.size 5 i0 (.int .u8 0) 1 1 Try.underlying22 hi hz0 hz1 hz2 rfl (by decide) _ _ _ rfl (Hown.out.alloc _) ⟨_, 0, none⟩ 1 1 _ rfl rfl (World.news_of_block (cs := #[.int .u8 (16 * x + y)]) (fr := (0, 0)) (heap_alloc_new _ _)) (by intro u' hu'; simp at hu'; subst hu'; rfl) (by unfold maxLen; omega) (by omega) (by simp; omega) ?_)
        intro v2 w2 hown2 hgrow _
        have hb2 := (Hb.out.alloc hsz _).grown hgrow (by simp; omega) (fun g hg => (Hown.out.lt g hg).1)
        have Hown2 := Lib.hid hown2
        have Hb2 := Lib.hid hb2
        clear hown2 hgrow hb2
        go_wp2_with fail
        go_roundw
        case rel =>
          refine ⟨k + 1, by omega, by go_num, fun j hj => ?_, ?_, Hb2.out⟩
          · by_cases e : j < k
            · exact Hgood.out j e
            · obtain rfl : j = k := by omega
              exact Hgd.out
          · have h := Hown2.out
            rw [decOf_succ, Lib.byteCells, List.map_append]
            simp only [List.map_cons, List.map_nil]
            rw [Hcl.out]
            exact h
        case measure => simp [intOf]; omega
      · have hr := decR_bad (l := s.data.toList) (k := k) (by have := Hn.out; have e : s.data.toList.length = s.size := by { rw [Array.length_toList]; rfl }; omega) (fun h => hg (Hgk.out.1 h))
        have Hr := Lib.hid hr
        clear hr
        by_cases hx0 : 0 ≤ x
        · have hy0 : y < 0 := by omega
          clear hg
          go_wp2_with fail
          go_ret2
          exact ⟨by rw [Hr.out]; rfl, Hb.out⟩
        · clear hg
          go_wp2_with fail
          go_ret2
          exact ⟨by rw [Hr.out]; rfl, Hb.out⟩
    · obtain rfl : k = n := by omega
      have hl : s.data.toList.length / 2 = k := by have := Hn.out; have e : s.data.toList.length = s.size := by { rw [Array.length_toList]; rfl }; omega
      have hr := decR_good (l := s.data.toList) (fun i hi => Hgood.out i (by omega))
      rw [hl] at hr
      have Hr := Lib.hid hr
      have hcv := conv_own (P := Try.prog) wr 22 9 5 Try.underlying22 Try.underlying5 Try.underlying9 Hown.out (decOf_length _ _)
      have i1' : (s.size : Int) ≤ ((2 * k : Nat) : Int) := by have := Hn.out; omega
      clear hl hr
      go_wp2_with fail
      go_ret2
      exact ⟨by rw [Hr.out]; rfl, Hb.out⟩
end Go.Proofs.Yteichodalcdbcaa
