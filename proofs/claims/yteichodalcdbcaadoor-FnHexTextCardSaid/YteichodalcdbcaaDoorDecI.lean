/- The contracts of impl.hexValue and impl.DecodeHex. No statement is proved here. -/
import Derived.Test.YteichodalcdbcaaDoorDecP
import Derived.Test.YteichodalcdbcaaDoorStrP
import Derived.Test.YteichodalcdbcaaDoorShelf
import Derived.Deep.OwnRows
namespace Go.Proofs.YteichodalcdbcaaDoor
open Go.RowKit

theorem index_hv (c : UInt8) : Lib.indexByte [48, 49, 50, 51, 52, 53, 54, 55, 56, 57, 97, 98, 99, 100, 101, 102] c = hv c := by
  have h : ∀ n, n < 256 → Lib.indexByte [48, 49, 50, 51, 52, 53, 54, 55, 56, 57, 97, 98, 99, 100, 101, 102] (UInt8.ofNat n) = hv (UInt8.ofNat n) := by decide +kernel
  have := h c.toNat c.toNat_lt
  simpa using this

theorem valI (c : UInt8) (w : World) : Calls Tryd.prog 27 #[.int .u8 c.toNat] w fun e w' => e = .returned (.int .i64 (hv c)) ∧ w = w' := by
  have hx := index_hv c
  obtain ⟨x, hxx⟩ : ∃ x, x = hv c := ⟨_, rfl⟩
  rw [← hxx] at hx ⊢
  have Hx := Lib.hid hx
  clear hx hxx
  go_enter Tryd.func27, Tryd.ntmps27
  go_wp2_with fail
  refine (Tryd.strings_IndexByte _ _ _).mono ?_
  rintro e w1 ⟨rfl, rfl⟩
  have e1 : ((c.toNat : Int).toNat).toUInt8 = c := by simp
  rw [e1, Hx.out]
  go_wp2_with fail
  go_ret
  exact ⟨rfl, rfl⟩

theorem decI_no (s : ByteArray) (hs : 40000 < s.size ∨ s.size % 2 = 1) (hm : s.size ≤ 9223372036854775807) (w : World) :
    Calls Tryd.prog 12 #[.string s] w fun e w' => e = .returned (.tuple #[.string ByteArray.empty, .bool false]) ∧ w = w' := by
  by_cases h : s.size % 2 = 1
  · have e1 : ((s.size : Int) % 2 != 0) = true := by rw [bne_iff_ne]; omega
    clear hs h
    go_enter Tryd.func12, Tryd.ntmps12
    go_wp2_with fail
    go_ret2
    exact ⟨rfl, rfl⟩
  · have e1 : ((s.size : Int) % 2 != 0) = false := by rw [bne_eq_false_iff_eq]; omega
    by_cases h2 : (20000 : Int) < (s.size : Int) / 2
    · clear hs
      go_enter Tryd.func12, Tryd.ntmps12
      go_wp2_with fail
      go_ret2
      exact ⟨rfl, rfl⟩
    · omega

set_option maxHeartbeats 1000000 in
set_option maxRecDepth 100000 in
theorem decI (s : ByteArray) (hs : s.size ≤ 40000) (h2 : s.size % 2 = 0) (w : World) :
    Calls Tryd.prog 12 #[.string s] w (DecOut s w) := by
  obtain ⟨i0, hi, hz0, hz1, hz2⟩ := info_parts infoByte
  have e1 : ((s.size : Int) % 2 != 0) = false := by rw [bne_eq_false_iff_eq]; omega
  obtain ⟨n, hn⟩ : ∃ n, s.size = 2 * n := ⟨s.size / 2, by omega⟩
  have hdiv : (s.size : Int) / 2 = (n : Int) := by omega
  have hn2 : n ≤ 20000 := by omega
  have Hn := Lib.hid hn
  clear hn h2
  have hmk := fun W => run_make_row' (P := Tryd.prog) 22 5 (.int .u8 0) 1 Tryd.underlying22 infoByte rfl .i64 .i64 n (by omega) (by omega) W
  go_enter Tryd.func12, Tryd.ntmps12
  go_wp2_with fail
  go_loopw [24] (fun i wr => ∃ k : Nat, k ≤ n ∧ i = .int .i64 k ∧ (∀ j, j < k → good s.data.toList j) ∧ wr.rowIs w.heap.size 5 n (fun j => if j < k then .int .u8 (decAt s.data.toList j).toNat else .int .u8 0) ∧ Below w.heap.size w wr) (fun i _ => n - (intOf i).toNat)
  case atStart => exact ⟨0, Nat.zero_le _, rfl, fun j hj => by omega, (World.rowIs_made _ _ _ _).congr (fun j hj => by simp), (Below.refl _ _).alloc (Nat.le_refl _) _⟩
  case round =>
    obtain ⟨k, hk, rfl, hgood, hrow, hb⟩ := hrel
    have Hgood := Lib.hid hgood
    have Hrow := Lib.hid hrow
    have Hb := Lib.hid hb
    clear hgood hrow hb
    by_cases hlt : k < n
    · have i0' : (0 : Int) ≤ 2 * (k : Int) := by omega
      have i1' : 2 * (k : Int) < (s.size : Int) := by have := Hn.out; omega
      have i2' : 2 * (k : Int) + 1 < (s.size : Int) := by have := Hn.out; omega
      have hk1 : 2 * k < s.size := by have := Hn.out; omega
      have hk2 : 2 * k + 1 < s.size := by have := Hn.out; omega
      have ex := getD_byte s (2 * k) hk1
      have ey := getD_byte s (2 * k + 1) hk2
      have hx := hv_bd (s[2 * k]'hk1)
      have hy := hv_bd (s[2 * k + 1]'hk2)
      have hgk : good s.data.toList k ↔ 0 ≤ hv (s[2 * k]'hk1) ∧ 0 ≤ hv (s[2 * k + 1]'hk2) := by unfold good; rw [ex, ey]
      have hcell : good s.data.toList k → ((decAt s.data.toList k).toNat : Int) = 16 * hv (s[2 * k]'hk1) + hv (s[2 * k + 1]'hk2) := fun h => by
        have := decAt_cell h
        rw [ex, ey] at this
        unfold decAt
        rw [ex, ey]
        exact this
      have hcl0 : wr.cell? ⟨w.heap.size, k, none⟩ = some (.int .u8 0) := by have := Hrow.out.cell hlt; simpa using this
      have hfz0 : wr.frozen? ⟨w.heap.size, k, none⟩ = false := Hrow.out.frozen k
      have Hgk := Lib.hid hgk
      have Hcell := Lib.hid hcell
      clear hgk hcell ex ey
      have c1 := fun W => valI (s[2 * k]'hk1) W
      have c2 := fun W => valI (s[2 * k + 1]'hk2) W
      have C1 := Lib.hid c1
      have C2 := Lib.hid c2
      clear c1 c2
      obtain ⟨x, hxx⟩ : ∃ x, x = hv (s[2 * k]'hk1) := ⟨_, rfl⟩
      obtain ⟨y, hyy⟩ : ∃ y, y = hv (s[2 * k + 1]'hk2) := ⟨_, rfl⟩
      rw [← hxx] at hx C1 Hgk Hcell
      rw [← hyy] at hy C2 Hgk Hcell
      clear hxx hyy
      go_wp2_with fail
      refine (C1.out _).mono ?_
      rintro e w1 ⟨rfl, rfl⟩
      go_wp2_with fail
      refine (C2.out _).mono ?_
      rintro e w1 ⟨rfl, rfl⟩
      by_cases hg : 0 ≤ x ∧ 0 ≤ y
      · obtain ⟨hx0, hy0⟩ := hg
        have hgd : good s.data.toList k := Hgk.out.2 ⟨hx0, hy0⟩
        have hcl := Hcell.out hgd
        have Hcl := Lib.hid hcl
        have Hgd := Lib.hid hgd
        clear hcl hgd
        go_wp2_with fail
        go_roundw
        case rel =>
          refine ⟨k + 1, by omega, by go_num, fun j hj => ?_, ?_, Hb.out.setCell (by simp) _⟩
          · by_cases e : j < k
            · exact Hgood.out j e
            · obtain rfl : j = k := by omega
              exact Hgd.out
          · refine (Hrow.out.set k _).congr fun j hj => ?_
            by_cases e : j = k
            · subst e
              rw [if_pos rfl, if_pos (by omega), Hcl.out]
            · rw [if_neg e]
              by_cases e2 : j < k
              · rw [if_pos e2, if_pos (by omega)]
              · rw [if_neg e2, if_neg (by omega)]
        case measure => simp [intOf]; omega
      · have hr := decR_bad (l := s.data.toList) (k := k) (by have := Hn.out; have e : s.data.toList.length = s.size := by { rw [Array.length_toList]; rfl }; omega) (fun h => hg (Hgk.out.1 h))
        have Hr := Lib.hid hr
        clear hr
        by_cases hx0 : 0 ≤ x
        · have hy0 : y < 0 := by omega
          clear hg
          go_wp2_with fail
          go_ret2
          exact ⟨by rw [Hr.out]; rfl, Hb.out⟩
        · clear hg
          go_wp2_with fail
          go_ret2
          exact ⟨by rw [Hr.out]; rfl, Hb.out⟩
    · obtain rfl : k = n := by omega
      have hl : s.data.toList.length / 2 = k := by have := Hn.out; have e : s.data.toList.length = s.size := by { rw [Array.length_toList]; rfl }; omega
      have hr := decR_good (l := s.data.toList) (fun i hi => Hgood.out i (by omega))
      rw [hl] at hr
      have Hr := Lib.hid hr
      have hcv := conv_row (P := Tryd.prog) wr 22 9 5 (cap := k) Tryd.underlying22 Tryd.underlying5 Tryd.underlying9 Hrow.out (decOf_length s.data.toList k) (fun i hi => by rw [decOf_length] at hi; rw [if_pos hi]; simp [decOf])
      clear hl hr
      go_wp2_with fail
      go_ret2
      exact ⟨by rw [Hr.out]; rfl, Hb.out⟩
end Go.Proofs.YteichodalcdbcaaDoor
