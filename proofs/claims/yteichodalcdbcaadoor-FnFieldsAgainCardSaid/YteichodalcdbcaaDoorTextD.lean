/- The contracts of spec.l01Long and spec.l01Text. No statement is proved here. -/
import Derived.Test.YteichodalcdbcaaDoorCurC
import Derived.Test.YteichodalcdbcaaDoorStrP
import Derived.Maps.Range
namespace Go.Proofs.YteichodalcdbcaaDoor
open Go.RowKit

set_option maxHeartbeats 1000000 in
theorem long_any (n : Nat) (x : UInt8) (w : World) (hn : n ≤ 1000000) :
    Calls Tryd.prog 23 #[.int .i64 n, .int .u8 x.toNat] w fun e w' => e = .returned (.string ⟨(List.replicate n x).toArray⟩) ∧ Below w.heap.size w w' := by
  have hx : x.toNat < 256 := x.toNat_lt
  have hmk := fun W => run_make_row' (P := Tryd.prog) 22 5 (.int .u8 0) 1 Tryd.underlying22 infoByte rfl .i64 .i64 n (by omega) (by omega) W
  go_enter Tryd.func23, Tryd.ntmps23
  go_wp2_with fail
  go_loopw [6] (fun i wr => ∃ k : Nat, k ≤ n ∧ i = .int .i64 k ∧ wr.rowIs w.heap.size 5 n (fun j => if j < k then .int .u8 x.toNat else .int .u8 0) ∧ Below w.heap.size w wr) (fun i _ => n - (intOf i).toNat)
  case atStart => exact ⟨0, Nat.zero_le _, rfl, (World.rowIs_made _ _ _ _).congr (fun j hj => by simp), (Below.refl _ _).alloc (Nat.le_refl _) _⟩
  case round =>
    obtain ⟨k, hk, rfl, hrow, hb⟩ := hrel
    have Hrow := Lib.hid hrow
    have Hb := Lib.hid hb
    clear hrow hb
    by_cases hlt : k < n
    · have k0 : (0 : Int) ≤ (k : Int) := by omega
      have k1 : (k : Int) < (n : Int) := by omega
      have hcl0 : wr.cell? ⟨w.heap.size, k, none⟩ = some (.int .u8 0) := by have := Hrow.out.cell hlt; simpa using this
      have hfz0 : wr.frozen? ⟨w.heap.size, k, none⟩ = false := Hrow.out.frozen k
      go_wp2_with fail
      go_roundw
      case rel =>
        refine ⟨k + 1, by omega, by go_num, ?_, Hb.out.setCell (by simp) _⟩
        refine (Hrow.out.set k _).congr fun j hj => ?_
        by_cases e : j = k
        · subst e
          rw [if_pos rfl, if_pos (by omega)]
        · rw [if_neg e]
          by_cases e2 : j < k
          · rw [if_pos e2, if_pos (by omega)]
          · rw [if_neg e2, if_neg (by omega)]
      case measure => simp [intOf]; omega
    · obtain rfl : k = n := by omega
      have hcv := conv_row (P := Tryd.prog) wr 22 9 5 (cap := k) Tryd.underlying22 Tryd.underlying5 Tryd.underlying9 (l := List.replicate k x) Hrow.out (by simp) (fun i hi => by simp at hi; rw [if_pos hi]; simp)
      obtain ⟨t, ht⟩ : ∃ t, t = List.replicate k x := ⟨_, rfl⟩
      rw [← ht] at hcv
      have Ht := Lib.hid ht
      clear ht
      go_wp2_with fail
      go_ret
      exact ⟨by rw [← Ht.out]; rfl, Hb.out⟩

theorem long_int (n : Int) (x : Int) (w : World) (h0 : 0 ≤ n) (hn : n ≤ 1000000) (hx0 : 0 ≤ x) (hx1 : x ≤ 255) :
    Calls Tryd.prog 23 #[.int .i64 n, .int .u8 x] w fun e w' => ∃ s : ByteArray, e = .returned (.string s) ∧ (s.size : Int) = n ∧ Below w.heap.size w w' := by
  obtain ⟨k, rfl⟩ := Int.eq_ofNat_of_zero_le h0
  obtain ⟨y, rfl⟩ : ∃ y : UInt8, (y.toNat : Int) = x := ⟨UInt8.ofNat x.toNat, by simp; omega⟩
  refine (long_any k y w (by omega)).mono ?_
  rintro e w' ⟨rfl, hb⟩
  refine ⟨_, rfl, ?_, hb⟩
  show (((List.replicate k y).toArray.size : Nat) : Int) = k
  simp

/-- What l01Text answers: a text of n bytes. -/
def CurText (n : Nat) (w : World) (g : Nat) (e : Ending) (w' : World) : Prop :=
  ∃ s : ByteArray, e = .returned (.string s) ∧ s.size = n ∧ Cur w' g ∧ w.grownBy w' (some g)

set_option maxHeartbeats 1000000 in
theorem text_any (w : World) (g : Nat) (n : Nat) (hn : n ≤ 5000) (hc : Cur w g) :
    Calls Tryd.prog 25 #[.pointer (some ⟨g, 0, none⟩), .int .i64 n] w (CurText n w g) := by
  obtain ⟨i0, hi, hz0, hz1, hz2⟩ := info_parts infoByte
  have hgl := hc.lt
  have Hc := Lib.hid hc
  clear hc
  go_enter Tryd.func25, Tryd.ntmps25
  go_wp2_with fail
  go_loopw [5, 6] (fun v i wr => ∃ (k : Nat) (l : List UInt8), k ≤ n ∧ i = .int .i64 k ∧ l.length = k ∧ wr.ownsRow w.heap.size 5 1 v k (Lib.byteCells l) ∧ Cur wr g ∧ w.grownBy wr (some g)) (fun _ i _ => n - (intOf i).toNat)
  case atStart => exact ⟨0, [], Nat.zero_le _, rfl, rfl, World.ownsRow_made w #[] 0 (Nat.le_refl _) (by unfold maxLen; omega) rfl, Hc.out.alloc _, World.grownBy_alloc _ _ _⟩
  case round =>
    obtain ⟨k, l, hk, rfl, hl, hown, hcur, hgr⟩ := hrel
    have hsz := hgr.size
    have Hl := Lib.hid hl
    have Hown := Lib.hid hown
    have Hgr := Lib.hid hgr
    clear hl hown hgr
    by_cases hlt : k < n
    · go_wp2_with fail
      refine (byte_any _ _ hcur).mono ?_
      rintro e w1 ⟨x, rfl, hx0, hx1, hc1, hg1⟩
      have hs1 := hg1.size
      have hown1 := Hown.out.kept hg1 (by
        by_cases hv : u5.ownBlock = none
        · exact .inl hv
        · refine .inr fun e => ?_
          have := (Hown.out.lt g e).1
          omega)
      have hgr1 := Hgr.out.trans hg1
      have Hown1 := Lib.hid hown1
      have Hgr1 := Lib.hid hgr1
      have Hc1 := Lib.hid hc1
      obtain ⟨b, hbx⟩ : ∃ b : UInt8, (b.toNat : Int) = x := ⟨UInt8.ofNat x.toNat, by simp; omega⟩
      have Hbx := Lib.hid hbx
      clear hbx hown1 hgr1 hg1 hc1 hcur
      go_wp2_with (at_builtin; refine wpList_append_own _ rfl _ _ 22 rfl w.heap.size 5 i0 (.int .u8 0) 1 1 Tryd.underlying22 hi hz0 hz1 hz2 rfl (by decide) _ _ _ rfl (Hown1.out.alloc _) ⟨_, 0, none⟩ 1 1 _ rfl rfl (World.news_of_block (cs := #[.int .u8 x]) (fr := (0, 0)) (heap_alloc_new _ _)) (by intro u' hu'; simp at hu'; subst hu'; rfl) (by unfold maxLen; omega) (by omega) (by simp; omega) ?_)
      intro v2 w2 hown2 hgrow _
      have hlt2 : ∀ j, u5.ownBlock = some j → w.heap.size ≤ j := fun j hj => (Hown1.out.lt j hj).1
      have hc2 := (Hc1.out.alloc (.cells #[.int .u8 x] 5)).grown hgrow (fun j hj => by have := hlt2 j hj; omega)
      have hgr2 := (Hgr1.out.trans (World.grownBy_alloc w1 (.cells #[.int .u8 x] 5) _)).andThen hgrow (fun j hj => .inl (hlt2 j hj))
      have Hown2 := Lib.hid hown2
      have Hgr2 := Lib.hid hgr2
      have Hc2 := Lib.hid hc2
      clear hown2 hgrow hc2 hgr2 hlt2
      go_wp2_with fail
      go_roundw
      case rel =>
        refine ⟨k + 1, l ++ [b], by omega, by go_num, by simp [Hl.out], ?_, Hc2.out, Hgr2.out⟩
        have := Hown2.out
        rw [← Hbx.out] at this
        simpa [Lib.byteCells] using this
      case measure => simp [intOf]; omega
    · obtain rfl : k = n := by omega
      have hcv := conv_own (P := Tryd.prog) wr 22 9 5 Tryd.underlying22 Tryd.underlying5 Tryd.underlying9 Hown.out Hl.out
      have hsz2 : (ByteArray.mk l.toArray).size = k := by rw [← Hl.out]; rfl
      obtain ⟨s, hs⟩ : ∃ s, s = ByteArray.mk l.toArray := ⟨_, rfl⟩
      rw [← hs] at hcv hsz2
      have Hsz2 := Lib.hid hsz2
      clear hs hsz2
      go_wp2_with fail
      go_ret
      exact ⟨s, rfl, Hsz2.out, hcur, Hgr.out⟩
end Go.Proofs.YteichodalcdbcaaDoor
