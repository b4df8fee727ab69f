/- The contract of spec.SplitFields. No statement is proved here. -/
import Derived.Test.YteichodalcdbcaaDoorSplitP
import Derived.Deep.AppendLies
import Derived.OwnWalk
namespace Go.Proofs.YteichodalcdbcaaDoor
open Go.RowKit

set_option maxHeartbeats 1000000 in
set_option maxRecDepth 100000 in
theorem splitS (s : ByteArray) (hm : s.size ≤ 9223372036854775807) (w : World) :
    Calls Tryd.prog 17 #[.string s] w (SplitOut s w) := by
  obtain ⟨i0, hi, hz0, hz1, hz2⟩ := info_parts infoStr
  by_cases hlong : 600 < s.size
  · go_enter Tryd.func17, Tryd.ntmps17
    go_wp2_with fail
    go_ret2
    exact ⟨_, [], false, rfl, by rw [fields_long hlong]; rfl, by rw [fields_long hlong]; rfl, World.ownsRow_made w #[] 0 (Nat.le_refl _) (by unfold maxLen; omega) rfl, (Below.refl _ _).alloc (Nat.le_refl _) _⟩
  · have hs : s.size ≤ 600 := by omega
    clear hlong
    go_enter Tryd.func17, Tryd.ntmps17
    go_wp2_with fail
    go_loopw [4, 5, 6] (fun v b i wr => ∃ k : Nat, k ≤ s.size + 1 ∧ i = .int .i64 k ∧ b = .int .i64 (scan s k).2 ∧ (∀ j, j < k → j < s.size → okAt s j) ∧ wr.ownsRow w.heap.size 9 1 v (scan s k).1.length (strCells (scan s k).1) ∧ Below w.heap.size w wr) (fun _ _ i _ => s.size + 1 - (intOf i).toNat)
    case atStart => exact ⟨0, Nat.zero_le _, rfl, rfl, fun j hj => by omega, World.ownsRow_made w #[] 0 (Nat.le_refl _) (by unfold maxLen; omega) rfl, (Below.refl _ _).alloc (Nat.le_refl _) _⟩
    case round =>
      obtain ⟨k, hk, rfl, rfl, hok, hown, hb⟩ := hrel
      have Hok := Lib.hid hok
      have Hown := Lib.hid hown
      have Hb := Lib.hid hb
      have hsz := hb.size
      have hbd := scan_bd s k
      obtain ⟨hbd1, hbd2⟩ := hbd
      obtain ⟨b, hbb⟩ : ∃ b, b = (scan s k).2 := ⟨_, rfl⟩
      rw [← hbb] at hbd2
      rw [← hbb]
      have Hbb := Lib.hid hbb
      clear hok hown hb hbb
      by_cases hlt : k < s.size
      · have ec := chr_in s k hlt
        have Hec := Lib.hid ec
        have hc0 : (s[k]'hlt).toNat < 256 := (s[k]'hlt).toNat_lt
        clear ec
        by_cases hc1 : (s[k]'hlt).toNat < 32
        · have hr := fields_bad hlt (fun h => by unfold okAt at h; rw [Hec.out] at h; omega)
          have Hr := Lib.hid hr
          clear hr
          go_wp2_with fail
          go_ret2
          exact ⟨_, [], false, rfl, by rw [Hr.out]; rfl, by rw [Hr.out]; rfl, World.ownsRow_made wr #[] 0 hsz (by unfold maxLen; omega) rfl, Hb.out.alloc hsz _⟩
        · by_cases hc2 : 126 < (s[k]'hlt).toNat
          · have hr := fields_bad hlt (fun h => by unfold okAt at h; rw [Hec.out] at h; omega)
            have Hr := Lib.hid hr
            clear hr
            go_wp2_with fail
            go_ret2
            exact ⟨_, [], false, rfl, by rw [Hr.out]; rfl, by rw [Hr.out]; rfl, World.ownsRow_made wr #[] 0 hsz (by unfold maxLen; omega) rfl, Hb.out.alloc hsz _⟩
          · have hokk : okAt s k := by unfold okAt; rw [Hec.out]; omega
            have Hokk := Lib.hid hokk
            clear hokk
            by_cases hc3 : (s[k]'hlt).toNat = 32
            · have hsp := scan_sp s k (by rw [Hec.out]; exact UInt8.toNat_inj.1 hc3)
              rw [← Hbb.out] at hsp
              have Hsp := Lib.hid hsp
              clear hsp
              have ht : (((s[k]'hlt).toNat : Int) != 32) = false := by rw [bne_eq_false_iff_eq]; omega
              by_cases hbk : b < k
              · have hseg : seg s b k = [s.extract b k] := by unfold seg; rw [if_pos hbk]
                have Hseg := Lib.hid hseg
                clear hseg
                have b0 : (0 : Int) ≤ (b : Int) := by omega
                have b1 : (b : Int) ≤ (k : Int) := by omega
                have b2 : (k : Int) ≤ (s.size : Int) := by omega
                go_wp2_with (at_builtin; refine wpList_append_own _ rfl _ _ 31 rfl w.heap.size 9 i0 (.string ByteArray.empty) 1 16 Tryd.underlying31 hi hz0 hz1 hz2 rfl (by decide) _ _ _ rfl (Hown.out.alloc _) ⟨_, 0, none⟩ 1 1 _ rfl rfl (World.news_of_block (cs := #[.string (s.extract b k)]) (fr := (0, 0)) (heap_alloc_new _ _)) (by intro u' hu'; simp at hu'; subst hu'; rfl) (by unfold maxLen; omega) (by omega) (by simp; omega) ?_)
                intro v2 w2 hown2 hgrow _
                have hb2 := (Hb.out.alloc hsz _).grown hgrow (by simp; omega) (fun g hg => (Hown.out.lt g hg).1)
                have Hown2 := Lib.hid hown2
                have Hb2 := Lib.hid hb2
                clear hown2 hgrow hb2
                go_wp2_with fail
                go_roundw
                case rel =>
                  have hsp := Hsp.out
                  rw [Hseg.out] at hsp
                  refine ⟨k + 1, by omega, by go_num, by rw [hsp]; go_num, fun j hj hj2 => ?_, ?_, Hb2.out⟩
                  · by_cases e : j < k
                    · exact Hok.out j e hj2
                    · obtain rfl : j = k := by omega
                      exact Hokk.out
                  · rw [hsp]
                    simp only [List.length_append, strCells_append]
                    exact Hown2.out
                case measure => simp [intOf]; omega
              · have hseg : seg s b k = [] := by unfold seg; rw [if_neg hbk]
                have Hseg := Lib.hid hseg
                clear hseg
                go_wp2_with fail
                go_roundw
                case rel =>
                  have hsp := Hsp.out
                  rw [Hseg.out] at hsp
                  refine ⟨k + 1, by omega, by go_num, by rw [hsp]; go_num, fun j hj hj2 => ?_, ?_, Hb.out⟩
                  · by_cases e : j < k
                    · exact Hok.out j e hj2
                    · obtain rfl : j = k := by omega
                      exact Hokk.out
                  · rw [hsp]
                    simp only [List.append_nil]
                    exact Hown.out
                case measure => simp [intOf]; omega
            · have hsp := scan_no s k (by rw [Hec.out]; exact fun e => hc3 (by rw [e]; rfl))
              have Hsp := Lib.hid hsp
              clear hsp
              have ht : (((s[k]'hlt).toNat : Int) != 32) = true := by rw [bne_iff_ne]; omega
              go_wp2_with fail
              go_roundw
              case rel =>
                refine ⟨k + 1, by omega, by go_num, by rw [Hsp.out, Hbb.out], fun j hj hj2 => ?_, by rw [Hsp.out]; exact Hown.out, Hb.out⟩
                by_cases e : j < k
                · exact Hok.out j e hj2
                · obtain rfl : j = k := by omega
                  exact Hokk.out
              case measure => simp [intOf]; omega
      · by_cases hlt2 : k = s.size
        · subst hlt2
          have hsp := scan_sp s s.size (chr_end s s.size (Nat.le_refl _))
          rw [← Hbb.out] at hsp
          have Hsp := Lib.hid hsp
          clear hsp
          by_cases hbk : b < s.size
          · have hseg : seg s b s.size = [s.extract b s.size] := by unfold seg; rw [if_pos hbk]
            have Hseg := Lib.hid hseg
            clear hseg
            have b0 : (0 : Int) ≤ (b : Int) := by omega
            have b1 : (b : Int) ≤ (s.size : Int) := by omega
            go_wp2_with (at_builtin; refine wpList_append_own _ rfl _ _ 31 rfl w.heap.size 9 i0 (.string ByteArray.empty) 1 16 Tryd.underlying31 hi hz0 hz1 hz2 rfl (by decide) _ _ _ rfl (Hown.out.alloc _) ⟨_, 0, none⟩ 1 1 _ rfl rfl (World.news_of_block (cs := #[.string (s.extract b s.size)]) (fr := (0, 0)) (heap_alloc_new _ _)) (by intro u' hu'; simp at hu'; subst hu'; rfl) (by unfold maxLen; omega) (by omega) (by simp; omega) ?_)
            intro v2 w2 hown2 hgrow _
            have hb2 := (Hb.out.alloc hsz _).grown hgrow (by simp; omega) (fun g hg => (Hown.out.lt g hg).1)
            have Hown2 := Lib.hid hown2
            have Hb2 := Lib.hid hb2
            clear hown2 hgrow hb2
            go_wp2_with fail
            go_roundw
            case rel =>
              have hsp := Hsp.out
              rw [Hseg.out] at hsp
              refine ⟨s.size + 1, by omega, by go_num, by rw [hsp]; go_num, fun j hj hj2 => Hok.out j (by omega) hj2, ?_, Hb2.out⟩
              rw [hsp]
              simp only [List.length_append, strCells_append]
              exact Hown2.out
            case measure => simp [intOf]
          · have hseg : seg s b s.size = [] := by unfold seg; rw [if_neg hbk]
            have Hseg := Lib.hid hseg
            clear hseg
            go_wp2_with fail
            go_roundw
            case rel =>
              have hsp := Hsp.out
              rw [Hseg.out] at hsp
              refine ⟨s.size + 1, by omega, by go_num, by rw [hsp]; go_num, fun j hj hj2 => Hok.out j (by omega) hj2, ?_, Hb.out⟩
              rw [hsp]
              simp only [List.append_nil]
              exact Hown.out
            case measure => simp [intOf]
        · obtain rfl : k = s.size + 1 := by omega
          have hall : ∀ j, j < s.size → okAt s j := fun j hj => Hok.out j (by omega) hj
          have Hall := Lib.hid hall
          clear hall
          have hform : ∃ (A : Option Addr) (c : Nat), u4 = .slice A (scan s (s.size + 1)).1.length c := by
            rcases Hown.out.2 with ⟨rfl, h0⟩ | ⟨g, cap, cur, rfl, -⟩
            · exact ⟨none, 0, by rw [h0]⟩
            · exact ⟨_, _, rfl⟩
          obtain ⟨A, c, rfl⟩ := hform
          obtain ⟨n, hn⟩ : ∃ n, n = (scan s (s.size + 1)).1.length := ⟨_, rfl⟩
          rw [← hn]
          have Hn := Lib.hid hn
          clear hn
          by_cases hmany : 24 < n
          · have hr := fields_many (s := s) (by rw [← Hn.out]; exact hmany)
            have Hr := Lib.hid hr
            clear hr
            go_wp2_with fail
            go_ret2
            exact ⟨_, [], false, rfl, by rw [Hr.out]; rfl, by rw [Hr.out]; rfl, World.ownsRow_made wr #[] 0 hsz (by unfold maxLen; omega) rfl, Hb.out.alloc hsz _⟩
          · have hr := fields_good hs Hall.out (by rw [← Hn.out]; omega)
            have Hr := Lib.hid hr
            clear hr
            go_wp2_with fail
            go_ret2
            exact ⟨_, (scan s (s.size + 1)).1, true, rfl, by rw [Hr.out]; rfl, by rw [Hr.out]; rfl, by have := Hown.out; rw [← Hn.out] at this ⊢; exact this, Hb.out⟩
end Go.Proofs.YteichodalcdbcaaDoor
