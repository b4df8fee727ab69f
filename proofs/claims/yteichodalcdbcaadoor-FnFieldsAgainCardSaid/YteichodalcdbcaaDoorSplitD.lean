/- The contracts of spec.l01Pick and spec.DrawSplitFields. No statement is proved here. -/
import Derived.Test.YteichodalcdbcaaDoorHexD
import Derived.Deep.LoopGhost
import Derived.Deep.DeepCutAuto
namespace Go.Proofs.YteichodalcdbcaaDoor
open Go.RowKit

def CurPickS (ss : List ByteArray) (w : World) (g : Nat) (e : Ending) (w' : World) : Prop :=
  ∃ x : ByteArray, e = .returned (.string x) ∧ x ∈ ss ∧ Cur w' g ∧ w.grownBy w' (some g)

set_option maxHeartbeats 400000 in
theorem pick_any (w : World) (g b len cap : Nat) (zs : List ByteArray) (hc : Cur w g) (hgb : g < b) (hb : w.heap[b]? = some (.cells (zs.map Value.string).toArray 9 (0, 0))) (hl : zs.length = len) (hpos : 0 < len) (hm : len ≤ 9223372036854775807) :
    Calls Tryd.prog 30 #[.pointer (some ⟨g, 0, none⟩), .slice (some ⟨b, 0, none⟩) len cap] w (CurPickS zs w g) := by
  have Hb := Lib.hid hb
  have Hl := Lib.hid hl
  clear hb hl
  go_enter Tryd.func30, Tryd.ntmps30
  go_wp2_with fail
  refine (below_any _ _ _ (by omega) hc).mono ?_
  rintro e w1 ⟨x, rfl, hx0, hx1, hx2, hc1, hg1⟩
  obtain ⟨k, rfl⟩ := Int.eq_ofNat_of_zero_le hx0
  have hk : k < len := by have := hx1 (by omega); omega
  have hb1 : w1.heap[b]? = some (.cells (zs.map Value.string).toArray 9 (0, 0)) := (hg1.block b (Array.getElem?_eq_some_iff.1 Hb.out).1 (by simp; omega)).trans Hb.out
  have hcell : w1.cell? ⟨b, k, none⟩ = some (.string (zs.getD k ByteArray.empty)) := by
    have := Hl.out
    simp [World.cell?, hb1, List.getD_eq_getElem?_getD, List.getElem?_eq_getElem (show k < zs.length by omega)]
  have hwz : zs.getD k ByteArray.empty ∈ zs := by have := Hl.out; rw [List.getD_eq_getElem?_getD, List.getElem?_eq_getElem (show k < zs.length by omega)]; exact List.getElem_mem _
  obtain ⟨z, hzz⟩ : ∃ z, z = zs.getD k ByteArray.empty := ⟨_, rfl⟩
  rw [← hzz] at hcell hwz
  have Hwz := Lib.hid hwz
  have Hg1 := Lib.hid hg1
  clear hzz hwz hb1 hx1 hx2 hg1
  go_wp2_with fail
  go_ret
  exact ⟨z, rfl, Hwz.out, hc1, Hg1.out⟩

set_option maxHeartbeats 4000000 in
set_option maxRecDepth 100000 in
theorem drawSplit_any (w : World) (a : Option Addr) (len cap : Nat) (zs : List Int) (hrow : IsRow .u8 w a len cap zs) :
    Calls Tryd.prog 15 #[.slice a len cap] w (DrawText 3000 w) := by
  go_enter Tryd.func15, Tryd.ntmps15
  go_wp2_with fail
  refine (new_any _ _ _ _ zs hrow).mono ?_
  rintro e w1 ⟨g, rfl, hg, hc1, hb1⟩
  clear hrow
  go_wp2_with fail
  refine (below_any _ _ _ (by omega) hc1).mono ?_
  rintro e w2 ⟨x, rfl, hx0, hx1, hx2, hc2, hg2⟩
  have hb2 := hb1.grown hg2 hb1.size (fun k hk => by simp at hk; omega)
  have hx4 : x < 9 := hx1 (by omega)
  clear hg2 hb1 hx1 hx2
  go_wp2_with fail
  refine (once_any _ _ _ (by omega) hc2).mono ?_
  rintro e w3 ⟨b, rfl, hc3, hg3⟩
  have hb3 := hb2.grown hg3 hb2.size (fun k hk => by simp at hk; omega)
  clear hg3 hb2
  go_upto_if 13 with fail
  go_cut [4] (fun s4 wx => ∃ N : Int, s4 = .int .i64 N ∧ 0 ≤ N ∧ N ≤ 25 ∧ Cur wx g ∧ Below w.heap.size w wx)
  case first =>
    cases b
    · go_wp2_with fail
      go_meet
      case rel => exact ⟨x, rfl, hx0, by omega, hc3, hb3⟩
    · go_wp2_with fail
      refine (below_any _ _ _ (by omega) hc3).mono ?_
      rintro e w4 ⟨y, rfl, hy0, hy1, hy2, hc4, hg4⟩
      have hb4 := hb3.grown hg4 hb3.size (fun k hk => by simp at hk; omega)
      have hy4 : y < 2 := hy1 (by omega)
      clear hg4 hb3 hy1 hy2
      go_wp2_with fail
      go_meet
      case rel => exact ⟨_, rfl, by omega, by omega, hc4, hb4⟩
  case rest =>
    obtain ⟨N, rfl, hN0, hN1, hcx, hbx⟩ := hcut
    clear hb3 hc3
    go_wp2_with fail
    go_loopg [5, 6] 30 (fun q s i wr => ∃ (k : Nat) (t : ByteArray), Hid (q = 30 - k) ∧ k ≤ 25 ∧ i = .int .i64 k ∧ s = .string t ∧ t.size ≤ 10 * k ∧ Cur wr g ∧ Below w.heap.size w wr)
    case atStart => exact ⟨0, ByteArray.empty, Lib.hid rfl, by omega, rfl, rfl, by simp, hcx, hbx⟩
    case round =>
      obtain ⟨k, t, Hq, hk, rfl, rfl, ht, hc, hb⟩ := hrel
      by_cases hlt : (k : Int) < N
      · clear hcx hbx
        go_upto_region 9 with fail
        go_cut [27] (fun s wx => ∃ b : Bool, s = .bool b ∧ Cur wx g ∧ Below w.heap.size w wx)
        case first =>
          by_cases hk0 : 0 < k
          · go_wp2_with fail
            go_meet
            case rel => exact ⟨true, rfl, hc, hb⟩
          · go_wp2_with fail
            refine (once_any _ _ _ (by omega) hc).mono ?_
            rintro e w4 ⟨b4, rfl, hc4, hg4⟩
            have hb4 := hb.grown hg4 hb.size (fun k hk => by simp at hk; omega)
            clear hg4 hb hc
            go_wp2_with fail
            go_meet
            case rel => exact ⟨b4, rfl, hc4, hb4⟩
        case rest =>
          obtain ⟨b4, rfl, hc4, hb4⟩ := hcut
          clear hc hb
          go_upto_if 27 with fail
          go_cut [5] (fun s wx => ∃ t : ByteArray, s = .string t ∧ t.size ≤ 10 * k + 3 ∧ Cur wx g ∧ Below w.heap.size w wx)
          case first =>
            cases b4
            · go_wp2_with fail
              go_meet
              case rel => exact ⟨t, rfl, by omega, hc4, hb4⟩
            · go_wp2_with fail
              refine (below_any _ _ _ (by omega) hc4).mono ?_
              rintro e w5 ⟨x5, rfl, hx50, hx51, hx52, hc5, hg5⟩
              have hb5 := hb4.grown hg5 hb4.size (fun k hk => by simp at hk; omega)
              have hx5 : x5 < 2 := hx51 (by omega)
              clear hg5 hb4 hc4 hx51 hx52
              go_wp2_with fail
              refine (below_any _ _ _ (by omega) hc5).mono ?_
              rintro e w6 ⟨x6, rfl, hx60, hx61, hx62, hc6, hg6⟩
              have hb6 := hb5.grown hg6 hb5.size (fun k hk => by simp at hk; omega)
              have hx6 : x6 < 3 := hx61 (by omega)
              clear hg6 hb5 hc5 hx61 hx62
              have h01 : x5 = 0 ∨ x5 = 1 := by omega
              rcases h01 with rfl | rfl
              all_goals
                go_wp2_with fail
                refine (long_int _ _ _ (by omega) (by omega) (by omega) (by omega)).mono ?_
                rintro e w7 ⟨t7, rfl, ht7, hb7⟩
                have hc7 := hc6.below hb7 hc6.lt
                have Hb7 := Lib.hid (hb6.trans (hb7.mono hb6.size))
                have ht8 : t7.size ≤ 3 := by omega
                have Ht7 := Lib.hid ht7
                clear hb7 ht7 hc6 hb6
                go_wp2_with fail
                go_meet
                case rel => exact ⟨_, rfl, by rw [ByteArray.size_append]; omega, hc7, Hb7.out⟩
          case rest =>
            obtain ⟨t5, rfl, ht5, hc5, hb5⟩ := hcut
            clear hc4 hb4
            go_wp2_with fail
            obtain ⟨wo, rfl⟩ : ∃ wo : World, wo = wc := ⟨_, rfl⟩
            go_loopg [5, 7] 8 (fun q s i wr => ∃ (j : Nat) (t : ByteArray), Hid (q = 8 - j) ∧ j ≤ 5 ∧ i = .int .i64 j ∧ s = .string t ∧ t.size ≤ 10 * k + 3 + j ∧ Cur wr g ∧ Below w.heap.size w wr)
            case atStart => exact ⟨0, t5, Lib.hid rfl, by omega, rfl, rfl, by omega, hc5, hb5⟩
            case round =>
              obtain ⟨j, t6, Hq6, hj, rfl, rfl, ht6, hc6, hb6⟩ := hrel
              clear hc5 hb5
              go_wp2_with fail
              refine (below_any _ _ _ (by omega) hc6).mono ?_
              rintro e w7 ⟨x7, rfl, hx70, hx71, hx72, hc7, hg7⟩
              have hb7 := hb6.grown hg7 hb6.size (fun k hk => by simp at hk; omega)
              have hx7 : x7 < 5 := hx71 (by omega)
              clear hg7 hb6 hc6 hx71 hx72
              by_cases hjx : (j : Int) ≤ x7
              · go_wp2_with fail
                refine (below_any _ _ _ (by omega) hc7).mono ?_
                rintro e w8 ⟨x8, rfl, hx80, hx81, hx82, hc8, hg8⟩
                have hb8 := hb7.grown hg8 hb7.size (fun k hk => by simp at hk; omega)
                have hx8 : x8 < 94 := hx81 (by omega)
                clear hg8 hb7 hc7 hx81 hx82
                obtain ⟨d, hd⟩ : ∃ d : UInt8, (d.toNat : Int) = 33 + x8 := ⟨UInt8.ofNat (33 + x8.toNat), by simp; omega⟩
                have hcv := conv_one w8 (33 + x8) d hd
                have hd1 : (ByteArray.mk #[d]).size = 1 := rfl
                obtain ⟨td, htd⟩ : ∃ td, td = ByteArray.mk #[d] := ⟨_, rfl⟩
                rw [← htd] at hcv hd1
                have Hd := Lib.hid hd
                clear hd htd
                go_wp2_with fail
                go_roundg (8 - (j + 1))
                case measure => have := Hq6.out; omega
                case rel => exact ⟨j + 1, _, Lib.hid rfl, by omega, by go_num, rfl, by rw [ByteArray.size_append]; omega, hc8.alloc _, hb8.alloc hb8.size _⟩
              · go_wp2_with fail
                go_roundg (30 - (k + 1))
                case measure => have := Hq.out; omega
                case rel => exact ⟨k + 1, _, Lib.hid rfl, by omega, by go_num, rfl, by omega, hc7, hb7⟩
      · clear hcx hbx
        go_wp2_with fail
        refine (below_any _ _ _ (by omega) hc).mono ?_
        rintro e w4 ⟨x4, rfl, hx40, hx41, hx42, hc4, hg4⟩
        have hb4 := hb.grown hg4 hb.size (fun k hk => by simp at hk; omega)
        clear hg4 hb hc hx41 hx42
        by_cases h0 : x4 = 0
        · subst h0
          go_wp2_with fail
          refine (pick_any _ g _ 6 6 [⟨#[32]⟩, ⟨#[32, 32]⟩, ⟨#[9]⟩, ⟨#[10]⟩, ⟨#[127]⟩, ⟨#[233]⟩] (hc4.alloc _) hc4.lt (heap_alloc_new w4 _) rfl (by omega) (by omega)).mono ?_
          rintro e w5 ⟨y, rfl, hy, hc5, hg5⟩
          have hys : y.size ≤ 2 := by
            simp only [List.mem_cons, List.not_mem_nil, or_false] at hy
            rcases hy with rfl | rfl | rfl | rfl | rfl | rfl <;> decide
          have hb5 := (hb4.alloc hb4.size _).grown hg5 (by have := hb4.size; simp; omega) (fun k hk => by simp at hk; omega)
          clear hg5 hy hb4
          go_wp2_with fail
          go_ret
          exact ⟨_, rfl, by rw [ByteArray.size_append]; omega, hb5⟩
        · by_cases h1 : x4 = 1
          · subst h1
            have h600 : (t.size : Int) < 600 := by omega
            go_wp2_with fail
            refine (below_any _ _ _ (by omega) hc4).mono ?_
            rintro e w5 ⟨x5, rfl, hx50, hx51, hx52, hc5, hg5⟩
            have hb5 := hb4.grown hg5 hb4.size (fun k hk => by simp at hk; omega)
            have hx5 : x5 < 2 := hx51 (by omega)
            clear hg5 hb4 hc4 hx51 hx52
            go_wp2_with fail
            refine (long_int _ _ _ (by omega) (by omega) (by omega) (by omega)).mono ?_
            rintro e w7 ⟨t7, rfl, ht7, hb7⟩
            have Hb7 := Lib.hid (hb5.trans (hb7.mono hb5.size))
            have ht8 : t7.size ≤ 601 := by omega
            have Ht7 := Lib.hid ht7
            clear hb7 ht7 hb5
            go_wp2_with fail
            go_ret
            exact ⟨_, rfl, by rw [ByteArray.size_append]; omega, Hb7.out⟩
          · have e0 : (x4 == 0) = false := by simpa using h0
            have e1 : (x4 == 1) = false := by simpa using h1
            go_wp2_with fail
            go_ret
            exact ⟨_, rfl, by omega, hb4⟩
end Go.Proofs.YteichodalcdbcaaDoor
