/- The contracts of strings.Clone, impl.appendField and impl.SplitFields. No statement is proved here. -/
import Derived.Test.YteichodalcdbcaaDoorSplitP
import Derived.Test.YteichodalcdbcaaDoorShelf
import Derived.Deep.AppendLies
import Derived.OwnWalk
import Derived.Deep.LoopGhost
namespace Go.Proofs.YteichodalcdbcaaDoor
open Go.RowKit

theorem cloneL (s : ByteArray) (w : World) (hlim : s.size ≤ 281474976710656) :
    Calls Tryd.prog 39 #[.string s] w fun e w' => e = .returned (.string s) ∧ Below w.heap.size w w' := by
  go_enter Tryd.func39, Tryd.ntmps39
  go_wp2_with (go_at_call 47; (with_reducible refine (Tryd.stringslite_Clone s _ hlim).mono ?_); rintro e w1 ⟨rfl, hb1⟩)
  go_ret
  exact ⟨rfl, hb1⟩

theorem isEmpty_no {s : ByteArray} (h : s.size ≠ 0) : s.toList.isEmpty = false := by
  rw [ByteArray.toList_eq]
  obtain ⟨⟨l⟩⟩ := s
  cases l with
  | nil => exact absurd rfl h
  | cons a l => rfl

/-- What appendField answers: the row, with the field behind it if there is one. -/
def AppOut (B : Nat) (l : List ByteArray) (run : ByteArray) (w : World) (e : Ending) (w' : World) : Prop :=
  ∃ (v : Value) (l' : List ByteArray), e = .returned v ∧ l' = (if run.size = 0 then l else l ++ [run]) ∧ w'.ownsRow B 9 1 v l'.length (strCells l') ∧ Below B w w'

theorem empty_of_size {s : ByteArray} (h : s.size = 0) : s = ByteArray.empty := by
  obtain ⟨⟨l⟩⟩ := s
  have : l = [] := List.eq_nil_of_length_eq_zero h
  subst this; rfl

set_option maxHeartbeats 400000 in
theorem appendF (B : Nat) (v : Value) (l : List ByteArray) (run : ByteArray) (w : World) (hl : l.length ≤ 1000000) (hr : run.size ≤ 1000000) (hB : B ≤ w.heap.size)
    (hown : w.ownsRow B 9 1 v l.length (strCells l)) :
    Calls Tryd.prog 31 #[v, .string run] w (AppOut B l run w) := by
  obtain ⟨i0, hi, hz0, hz1, hz2⟩ := info_parts infoStr
  have Hown := Lib.hid hown
  clear hown
  by_cases h0 : run.size = 0
  · have e0 := empty_of_size h0
    subst e0
    go_enter Tryd.func31, Tryd.ntmps31
    go_wp2_with fail
    go_ret
    exact ⟨_, _, rfl, rfl, by rw [if_pos h0]; exact Hown.out, Below.refl _ _⟩
  · have hne := isEmpty_no h0
    go_enter Tryd.func31, Tryd.ntmps31
    go_wp2_with fail
    refine (cloneL run _ (by omega)).mono ?_
    rintro e w1 ⟨rfl, hb1⟩
    have hsz := hb1.size
    have hown1 : w1.ownsRow B 9 1 v l.length (strCells l) := Hown.out.kept (row := none) ⟨hb1.os, hb1.tape, hb1.output, hb1.size, fun k hk _ => hb1.block k hk⟩ (by cases hv : v.ownBlock <;> simp)
    have Hb1 := Lib.hid hb1
    have Hown1 := Lib.hid hown1
    clear hb1 hown1
    go_wp2_with (at_builtin; refine wpList_append_own _ rfl _ _ 31 rfl B 9 i0 (.string ByteArray.empty) 1 16 Tryd.underlying31 hi hz0 hz1 hz2 rfl (by decide) _ _ _ rfl (Hown1.out.alloc _) ⟨_, 0, none⟩ 1 1 _ rfl rfl (World.news_of_block (cs := #[.string run]) (fr := (0, 0)) (heap_alloc_new _ _)) (by intro u' hu'; simp at hu'; subst hu'; rfl) (by unfold maxLen; omega) (by omega) (by simp; omega) ?_)
    intro v2 w2 hown2 hgrow _
    have hb2 : Below B w w2 := ((Hb1.out.mono hB).alloc (by omega) _).grown hgrow (by simp; omega) (fun g hg => (Hown1.out.lt g hg).1)
    have Hown2 := Lib.hid hown2
    have Hb2 := Lib.hid hb2
    clear hown2 hgrow hb2
    go_wp2_with fail
    go_ret
    exact ⟨_, _, rfl, rfl, by rw [if_neg h0, List.length_append, strCells_append]; exact Hown2.out, Hb2.out⟩

theorem seg_app (s : ByteArray) (a b : Nat) (h : a ≤ b) (hb : b ≤ s.size) (l : List ByteArray) : (if (s.extract a b).size = 0 then l else l ++ [s.extract a b]) = l ++ seg s a b := by
  have e : (s.extract a b).size = b - a := by rw [ByteArray.size_extract]; omega
  unfold seg
  rw [e]
  by_cases h2 : a < b
  · rw [if_neg (by omega), if_pos h2]
  · rw [if_pos (by omega), if_neg h2, List.append_nil]

set_option maxHeartbeats 1000000 in
set_option maxRecDepth 100000 in
theorem splitI (s : ByteArray) (hm : s.size ≤ 9223372036854775807) (w : World) :
    Calls Tryd.prog 16 #[.string s] w (SplitOut s w) := by
  by_cases hlong : 600 < s.size
  · go_enter Tryd.func16, Tryd.ntmps16
    go_wp2_with fail
    go_step3
    go_wp2_with fail
    try rw [Exit.noGoto_ret]
    go_ret2
    exact ⟨_, [], false, rfl, by rw [fields_long hlong]; rfl, by rw [fields_long hlong]; rfl, World.ownsRow_nil _ _ _ _, Below.refl _ _⟩
  · have hs : s.size ≤ 600 := by omega
    clear hlong
    go_enter Tryd.func16, Tryd.ntmps16
    go_wp2_with fail
    go_step3
    go_wp2_with fail
    go_step3
    go_wp2_with fail
    go_loopw [4, 5, 6] (fun v b i wr => ∃ k : Nat, k ≤ s.size ∧ i = .int .i64 k ∧ b = .int .i64 (scan s k).2 ∧ (∀ j, j < k → okAt s j) ∧ wr.ownsRow w.heap.size 9 1 v (scan s k).1.length (strCells (scan s k).1) ∧ Below w.heap.size w wr) (fun _ _ i _ => s.size - (intOf i).toNat)
    case atStart => exact ⟨0, Nat.zero_le _, rfl, rfl, fun j hj => by omega, World.ownsRow_made w #[] 0 (Nat.le_refl _) (by unfold maxLen; omega) rfl, (Below.refl _ _).alloc (Nat.le_refl _) _⟩
    case round =>
      obtain ⟨k, hk, rfl, rfl, hok, hown, hb⟩ := hrel
      have Hok := Lib.hid hok
      have Hown := Lib.hid hown
      have Hb := Lib.hid hb
      have hsz := hb.size
      have hbd := scan_bd s k
      obtain ⟨hbd1, hbd2⟩ := hbd
      obtain ⟨b, hbb⟩ : ∃ b, b = (scan s k).2 := ⟨_, rfl⟩
      rw [← hbb] at hbd2
      rw [← hbb]
      have Hbb := Lib.hid hbb
      clear hok hown hb hbb
      have b0 : (0 : Int) ≤ (b : Int) := by omega
      have b1 : (b : Int) ≤ (k : Int) := by omega
      have b2 : (k : Int) ≤ (s.size : Int) := by omega
      by_cases hlt : k < s.size
      · have ec := chr_in s k hlt
        have Hec := Lib.hid ec
        have hc0 : (s[k]'hlt).toNat < 256 := (s[k]'hlt).toNat_lt
        clear ec
        by_cases hc1 : (s[k]'hlt).toNat < 32 ∨ 126 < (s[k]'hlt).toNat
        · have hr := fields_bad hlt (fun h => by unfold okAt at h; rw [Hec.out] at h; omega)
          have Hr := Lib.hid hr
          clear hr
          rcases hc1 with hc1 | hc1
          all_goals
            go_wp2_with fail
            try rw [Exit.noGoto_ret]
            go_ret2
            exact ⟨_, [], false, rfl, by rw [Hr.out]; rfl, by rw [Hr.out]; rfl, World.ownsRow_nil _ _ _ _, Hb.out⟩
        · have hc1' : 32 ≤ (s[k]'hlt).toNat := by omega
          have hc2' : (s[k]'hlt).toNat ≤ 126 := by omega
          clear hc1
          have hokk : okAt s k := by unfold okAt; rw [Hec.out]; omega
          have Hokk := Lib.hid hokk
          clear hokk
          by_cases hc3 : (s[k]'hlt).toNat = 32
          · have hsp := scan_sp s k (by rw [Hec.out]; exact UInt8.toNat_inj.1 hc3)
            rw [← Hbb.out] at hsp
            have Hsp := Lib.hid hsp
            clear hsp
            have ht : (((s[k]'hlt).toNat : Int) == 32) = true := by rw [beq_iff_eq]; omega
            go_wp2_with fail
            refine (appendF w.heap.size u4 (scan s k).1 (s.extract b k) _ (by omega) (by rw [ByteArray.size_extract]; omega) hsz Hown.out).mono ?_
            rintro e w1 ⟨v1, l1, rfl, hl1, hown1, hb1⟩
            rw [seg_app s b k hbd2 (by omega)] at hl1
            subst hl1
            have Hown1 := Lib.hid hown1
            have Hb1 := Lib.hid hb1
            clear hown1 hb1
            go_wp2_with fail
            go_roundw
            case rel =>
              refine ⟨k + 1, by omega, by go_num, by rw [Hsp.out]; go_num, fun j hj => ?_, by rw [Hsp.out]; exact Hown1.out, Hb.out.trans Hb1.out⟩
              by_cases e : j < k
              · exact Hok.out j e
              · obtain rfl : j = k := by omega
                exact Hokk.out
            case measure => simp [intOf]; omega
          · have ht : (((s[k]'hlt).toNat : Int) == 32) = false := by rw [beq_eq_false_iff_ne]; omega
            have hsp := scan_no s k (by rw [Hec.out]; exact fun e => hc3 (by rw [e]; rfl))
            have Hsp := Lib.hid hsp
            clear hsp
            go_wp2_with fail
            go_roundw
            case rel =>
              refine ⟨k + 1, by omega, by go_num, by rw [Hsp.out, Hbb.out], fun j hj => ?_, by rw [Hsp.out]; exact Hown.out, Hb.out⟩
              by_cases e : j < k
              · exact Hok.out j e
              · obtain rfl : j = k := by omega
                exact Hokk.out
            case measure => simp [intOf]; omega
      · obtain rfl : k = s.size := by omega
        have hsp := scan_sp s s.size (chr_end s s.size (Nat.le_refl _))
        rw [← Hbb.out] at hsp
        have Hsp := Lib.hid hsp
        clear hsp
        go_wp2_with fail
        refine (appendF w.heap.size u4 (scan s s.size).1 (s.extract b s.size) _ (by omega) (by rw [ByteArray.size_extract]; omega) hsz Hown.out).mono ?_
        rintro e w1 ⟨v1, l1, rfl, hl1, hown1, hb1⟩
        rw [seg_app s b s.size hbd2 (by omega)] at hl1
        have hform : ∃ (A : Option Addr) (c : Nat), v1 = .slice A l1.length c := by
          rcases hown1.2 with ⟨rfl, h0⟩ | ⟨g, cap, cur, rfl, -⟩
          · exact ⟨none, 0, by rw [h0]⟩
          · exact ⟨_, _, rfl⟩
        obtain ⟨A, c, rfl⟩ := hform
        have hl2 : l1 = (scan s (s.size + 1)).1 := by rw [Hsp.out]; exact hl1
        have Hl2 := Lib.hid hl2
        have Hown1 := Lib.hid hown1
        have Hb1 := Lib.hid hb1
        clear hown1 hb1 hl1 hl2
        obtain ⟨n, hn⟩ : ∃ n, n = l1.length := ⟨_, rfl⟩
        rw [← hn]
        have Hn := Lib.hid hn
        clear hn
        by_cases hmany : 24 < n
        · have hr := fields_many (s := s) (by rw [← Hl2.out, ← Hn.out]; exact hmany)
          have Hr := Lib.hid hr
          clear hr
          go_wp2_with fail
          try rw [Exit.noGoto_ret]
          go_ret2
          exact ⟨_, [], false, rfl, by rw [Hr.out]; rfl, by rw [Hr.out]; rfl, World.ownsRow_nil _ _ _ _, Hb.out.trans Hb1.out⟩
        · have hr := fields_good hs (fun j hj => Hok.out j hj) (by rw [← Hl2.out, ← Hn.out]; omega)
          have Hr := Lib.hid hr
          clear hr
          go_wp2_with fail
          try rw [Exit.noGoto_ret]
          go_ret2
          exact ⟨_, l1, true, rfl, by rw [Hr.out]; rfl, by rw [Hr.out, Hl2.out]; rfl, by have := Hown1.out; rw [← Hn.out] at this ⊢; exact this, Hb.out.trans Hb1.out⟩
end Go.Proofs.YteichodalcdbcaaDoor
