/- The contracts of spec.l01PickInt, spec.l01Number, spec.DrawClamp. No statement is proved here. -/
import Derived.Test.YteichodalcdbcaaCurC
namespace Go.Proofs.Yteichodalcdbcaa
open Go.RowKit

def CurPick (zs : List Int) (w : World) (g : Nat) (e : Ending) (w' : World) : Prop :=
  ∃ x : Int, e = .returned (.int .i64 x) ∧ x ∈ zs ∧ Cur w' g ∧ w.grownBy w' (some g)

set_option maxHeartbeats 400000 in
theorem pickInt_any (w : World) (g b len cap : Nat) (zs : List Int) (hc : Cur w g) (hgb : g < b) (hb : w.heap[b]? = some (.cells (zs.map (Value.int .i64)).toArray 3 (0, 0))) (hl : zs.length = len) (hpos : 0 < len) (hm : len ≤ 9223372036854775807) :
    Calls Try.prog 30 #[.pointer (some ⟨g, 0, none⟩), .slice (some ⟨b, 0, none⟩) len cap] w (CurPick zs w g) := by
  have Hb := Lib.hid hb
  have Hl := Lib.hid hl
  clear hb hl
  go_enter Try.func30, Try.ntmps30
  go_wp2_with fail
  refine (below_any _ _ _ (by omega) hc).mono ?_
  rintro e w1 ⟨x, rfl, hx0, hx1, hx2, hc1, hg1⟩
  obtain ⟨k, rfl⟩ := Int.eq_ofNat_of_zero_le hx0
  have hk : k < len := by have := hx1 (by omega); omega
  have hb1 : w1.heap[b]? = some (.cells (zs.map (Value.int .i64)).toArray 3 (0, 0)) := (hg1.block b (Array.getElem?_eq_some_iff.1 Hb.out).1 (by simp; omega)).trans Hb.out
  have hcell : w1.cell? ⟨b, k, none⟩ = some (.int .i64 (zs.getD k 0)) := by
    have := Hl.out
    simp [World.cell?, hb1, List.getD_eq_getElem?_getD, List.getElem?_eq_getElem (show k < zs.length by omega)]
  have hwz : zs.getD k 0 ∈ zs := by have := Hl.out; rw [List.getD_eq_getElem?_getD, List.getElem?_eq_getElem (show k < zs.length by omega)]; exact List.getElem_mem _
  obtain ⟨z, hzz⟩ : ∃ z, z = zs.getD k 0 := ⟨_, rfl⟩
  rw [← hzz] at hcell hwz
  have Hwz := Lib.hid hwz
  have Hg1 := Lib.hid hg1
  clear hzz hwz hb1 hx1 hx2 hg1
  go_wp2_with fail
  go_ret
  exact ⟨z, rfl, Hwz.out, hc1, Hg1.out⟩

def CurNum (w : World) (g : Nat) (e : Ending) (w' : World) : Prop :=
  ∃ x : Int, e = .returned (.int .i64 x) ∧ (Lit.int .i64 x).wf = true ∧ Cur w' g ∧ w.grownBy w' (some g)

theorem wf_of {x : Int} (h0 : -9223372036854775808 ≤ x) (h1 : x ≤ 9223372036854775807) : (Lit.int .i64 x).wf = true := WalkArith.wf_i64 ⟨h0, h1⟩

set_option maxHeartbeats 400000 in
theorem number_any (w : World) (g : Nat) (hc : Cur w g) :
    Calls Try.prog 23 #[.pointer (some ⟨g, 0, none⟩)] w (CurNum w g) := by
  go_enter Try.func23, Try.ntmps23
  go_wp2_with fail
  refine (below_any _ _ _ (by omega) hc).mono ?_
  rintro e w1 ⟨x, rfl, hx0, hx1, hx2, hc1, hg1⟩
  have hx4 : x < 4 := hx1 (by omega)
  have Hg1 := Lib.hid hg1
  clear hx1 hx2 hg1
  by_cases h0 : x = 0
  · subst h0
    go_wp2_with fail
    refine (pickInt_any _ g _ 10 10 [-1, 0, 127, 128, 16383, 16384, 1000000000, 1000000001, 9223372036854775807, -9223372036854775808] (hc1.alloc _) hc1.lt (heap_alloc_new w1 _) rfl (by omega) (by omega)).mono ?_
    rintro e w2 ⟨y, rfl, hy, hc2, hg2⟩
    have Hy := Lib.hid hy
    have Hg2 := Lib.hid hg2
    clear hy hg2
    go_wp2_with fail
    go_ret
    refine ⟨y, rfl, ?_, hc2, Hg1.out.trans ((World.grownBy_alloc _ _ _).trans Hg2.out)⟩
    have h := Hy.out
    simp only [List.mem_cons, List.not_mem_nil, or_false] at h
    rcases h with rfl | rfl | rfl | rfl | rfl | rfl | rfl | rfl | rfl | rfl <;> decide
  · by_cases h1 : x = 1
    · subst h1
      go_wp2_with fail
      refine (below_any _ _ _ (by omega) hc1).mono ?_
      rintro e w2 ⟨y, rfl, hy0, hy1, hy2, hc2, hg2⟩
      have hy3 : y < 1000000000 := hy1 (by omega)
      have Hg2 := Lib.hid hg2
      clear hy1 hy2 hg2
      go_wp2_with fail
      go_ret
      exact ⟨y, rfl, wf_of (by omega) (by omega), hc2, Hg1.out.trans Hg2.out⟩
    · have e0 : (x == 0) = false := by simpa using h0
      have e1 : (x == 1) = false := by simpa using h1
      go_wp2_with fail
      refine (below_any _ _ _ (by omega) hc1).mono ?_
      rintro e w2 ⟨y, rfl, hy0, hy1, hy2, hc2, hg2⟩
      have hy3 : y < 400 := hy1 (by omega)
      have Hg2 := Lib.hid hg2
      clear hy1 hy2 hg2
      go_wp2_with fail
      go_ret
      exact ⟨y, rfl, wf_of (by omega) (by omega), hc2, Hg1.out.trans Hg2.out⟩

/-- What DrawClamp answers: three numbers. -/
def Draw3 (w : World) (e : Ending) (w' : World) : Prop :=
  ∃ x y z : Int, e = .returned (.tuple #[.int .i64 x, .int .i64 y, .int .i64 z]) ∧ Below w.heap.size w w'

set_option maxHeartbeats 400000 in
theorem drawClamp_any (w : World) (a : Option Addr) (len cap : Nat) (zs : List Int) (hrow : IsRow .u8 w a len cap zs) :
    Calls Try.prog 9 #[.slice a len cap] w (Draw3 w) := by
  go_enter Try.func9, Try.ntmps9
  go_wp2_with fail
  refine (new_any _ _ _ _ zs hrow).mono ?_
  rintro e w1 ⟨g, rfl, hg, hc1, hb1⟩
  clear hrow
  go_wp2_with fail
  refine (once_any _ _ _ (by omega) hc1).mono ?_
  rintro e w2 ⟨b, rfl, hc2, hg2⟩
  have hb2 := hb1.grown hg2 hb1.size (fun k hk => by simp at hk; omega)
  clear hg2 hb1
  cases b
  · go_wp2_with fail
    refine (below_any _ _ _ (by omega) hc2).mono ?_
    rintro e w3 ⟨x, rfl, hx0, hx1, hx2, hc3, hg3⟩
    have hb3 := hb2.grown hg3 hb2.size (fun k hk => by simp at hk; omega)
    have hx4 : x < 40 := hx1 (by omega)
    clear hg3 hb2 hx1 hx2
    go_wp2_with fail
    refine (below_any _ _ _ (by omega) hc3).mono ?_
    rintro e w4 ⟨y, rfl, hy0, hy1, hy2, hc4, hg4⟩
    have hb4 := hb3.grown hg4 hb3.size (fun k hk => by simp at hk; omega)
    have hy4 : y < 80 := hy1 (by omega)
    clear hg4 hb3 hy1 hy2
    go_wp2_with fail
    refine (below_any _ _ _ (by omega) hc4).mono ?_
    rintro e w5 ⟨z, rfl, hz0, hz1, hz2, hc5, hg5⟩
    have hb5 := hb4.grown hg5 hb4.size (fun k hk => by simp at hk; omega)
    have hz4 : z < 30 := hz1 (by omega)
    clear hg5 hb4 hz1 hz2
    go_wp2_with fail
    go_ret3
    exact ⟨_, _, _, rfl, hb5⟩
  · go_wp2_with fail
    refine (number_any _ _ hc2).mono ?_
    rintro e w3 ⟨x, rfl, hx, hc3, hg3⟩
    have hb3 := hb2.grown hg3 hb2.size (fun k hk => by simp at hk; omega)
    clear hg3 hb2 hx
    go_wp2_with fail
    refine (number_any _ _ hc3).mono ?_
    rintro e w4 ⟨y, rfl, hy, hc4, hg4⟩
    have hb4 := hb3.grown hg4 hb3.size (fun k hk => by simp at hk; omega)
    clear hg4 hb3 hy
    go_wp2_with fail
    refine (number_any _ _ hc4).mono ?_
    rintro e w5 ⟨z, rfl, hz, hc5, hg5⟩
    have hb5 := hb4.grown hg5 hb4.size (fun k hk => by simp at hk; omega)
    clear hg5 hb4 hz
    go_wp2_with fail
    go_ret3
    exact ⟨_, _, _, rfl, hb5⟩
end Go.Proofs.Yteichodalcdbcaa
