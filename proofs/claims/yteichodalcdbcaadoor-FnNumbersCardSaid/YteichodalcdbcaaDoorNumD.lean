/- The contracts of spec.l01PickInt and spec.l01Number. No statement is proved here. -/
import Derived.Test.YteichodalcdbcaaDoorCurC
namespace Go.Proofs.YteichodalcdbcaaDoor
open Go.RowKit

def CurPick (zs : List Int) (w : World) (g : Nat) (e : Ending) (w' : World) : Prop :=
  ∃ x : Int, e = .returned (.int .i64 x) ∧ x ∈ zs ∧ Cur w' g ∧ w.grownBy w' (some g)

set_option maxHeartbeats 400000 in
theorem pickInt_any (w : World) (g b len cap : Nat) (zs : List Int) (hc : Cur w g) (hgb : g < b) (hb : w.heap[b]? = some (.cells (zs.map (Value.int .i64)).toArray 3 (0, 0))) (hl : zs.length = len) (hpos : 0 < len) (hm : len ≤ 9223372036854775807) :
    Calls Tryd.prog 36 #[.pointer (some ⟨g, 0, none⟩), .slice (some ⟨b, 0, none⟩) len cap] w (CurPick zs w g) := by
  have Hb := Lib.hid hb
  have Hl := Lib.hid hl
  clear hb hl
  go_enter Tryd.func36, Tryd.ntmps36
  go_wp2_with fail
  refine (below_any _ _ _ (by omega) hc).mono ?_
  rintro e w1 ⟨x, rfl, hx0, hx1, hx2, hc1, hg1⟩
  obtain ⟨k, rfl⟩ := Int.eq_ofNat_of_zero_le hx0
  have hk : k < len := by have := hx1 (by omega); omega
  have hb1 : w1.heap[b]? = some (.cells (zs.map (Value.int .i64)).toArray 3 (0, 0)) := (hg1.block b (Array.getElem?_eq_some_iff.1 Hb.out).1 (by simp; omega)).trans Hb.out
  have hcell : w1.cell? ⟨b, k, none⟩ = some (.int .i64 (zs.getD k 0)) := by
    have := Hl.out
    simp [World.cell?, hb1, List.getD_eq_getElem?_getD, List.getElem?_eq_getElem (show k < zs.length by omega)]
  have hwz : zs.getD k 0 ∈ zs := by have := Hl.out; rw [List.getD_eq_getElem?_getD, List.getElem?_eq_getElem (show k < zs.length by omega)]; exact List.getElem_mem _
  obtain ⟨z, hzz⟩ : ∃ z, z = zs.getD k 0 := ⟨_, rfl⟩
  rw [← hzz] at hcell hwz
  have Hwz := Lib.hid hwz
  have Hg1 := Lib.hid hg1
  clear hzz hwz hb1 hx1 hx2 hg1
  go_wp2_with fail
  go_ret
  exact ⟨z, rfl, Hwz.out, hc1, Hg1.out⟩

def CurNum (w : World) (g : Nat) (e : Ending) (w' : World) : Prop :=
  ∃ x : Int, e = .returned (.int .i64 x) ∧ (Lit.int .i64 x).wf = true ∧ Cur w' g ∧ w.grownBy w' (some g)

theorem wf_of {x : Int} (h0 : -9223372036854775808 ≤ x) (h1 : x ≤ 9223372036854775807) : (Lit.int .i64 x).wf = true := WalkArith.wf_i64 ⟨h0, h1⟩

set_option maxHeartbeats 400000 in
theorem number_any (w : World) (g : Nat) (hc : Cur w g) :
    Calls Tryd.prog 28 #[.pointer (some ⟨g, 0, none⟩)] w (CurNum w g) := by
  go_enter Tryd.func28, Tryd.ntmps28
  go_wp2_with fail
  refine (below_any _ _ _ (by omega) hc).mono ?_
  rintro e w1 ⟨x, rfl, hx0, hx1, hx2, hc1, hg1⟩
  have hx4 : x < 4 := hx1 (by omega)
  have Hg1 := Lib.hid hg1
  clear hx1 hx2 hg1
  by_cases h0 : x = 0
  · subst h0
    go_wp2_with fail
    refine (pickInt_any _ g _ 10 10 [-1, 0, 127, 128, 16383, 16384, 1000000000, 1000000001, 9223372036854775807, -9223372036854775808] (hc1.alloc _) hc1.lt (heap_alloc_new w1 _) rfl (by omega) (by omega)).mono ?_
    rintro e w2 ⟨y, rfl, hy, hc2, hg2⟩
    have Hy := Lib.hid hy
    have Hg2 := Lib.hid hg2
    clear hy hg2
    go_wp2_with fail
    go_ret
    refine ⟨y, rfl, ?_, hc2, Hg1.out.trans ((World.grownBy_alloc _ _ _).trans Hg2.out)⟩
    have h := Hy.out
    simp only [List.mem_cons, List.not_mem_nil, or_false] at h
    rcases h with rfl | rfl | rfl | rfl | rfl | rfl | rfl | rfl | rfl | rfl <;> decide
  · by_cases h1 : x = 1
    · subst h1
      go_wp2_with fail
      refine (below_any _ _ _ (by omega) hc1).mono ?_
      rintro e w2 ⟨y, rfl, hy0, hy1, hy2, hc2, hg2⟩
      have hy3 : y < 1000000000 := hy1 (by omega)
      have Hg2 := Lib.hid hg2
      clear hy1 hy2 hg2
      go_wp2_with fail
      go_ret
      exact ⟨y, rfl, wf_of (by omega) (by omega), hc2, Hg1.out.trans Hg2.out⟩
    · have e0 : (x == 0) = false := by simpa using h0
      have e1 : (x == 1) = false := by simpa using h1
      go_wp2_with fail
      refine (below_any _ _ _ (by omega) hc1).mono ?_
      rintro e w2 ⟨y, rfl, hy0, hy1, hy2, hc2, hg2⟩
      have hy3 : y < 400 := hy1 (by omega)
      have Hg2 := Lib.hid hg2
      clear hy1 hy2 hg2
      go_wp2_with fail
      go_ret
      exact ⟨y, rfl, wf_of (by omega) (by omega), hc2, Hg1.out.trans Hg2.out⟩

end Go.Proofs.YteichodalcdbcaaDoor
