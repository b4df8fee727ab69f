/- The contract of InRegion of the model. No statement is proved here. -/
import Derived.Test.YtcffeakajfbhhaaInR
namespace Go.Proofs.Ytcffeakajfbhhaa
open Go.RowKit
set_option maxHeartbeats 1000000 in
set_option maxRecDepth 10000 in
theorem inRS (v : Value) (L : List Rc) (x y : Int) (w : World) (h : RdR w v L) :
    Calls Try.prog 37 #[.agg #[v], .int .i64 x, .int .i64 y] w fun e w' => e = .returned (.bool (inR L x y)) ∧ Below w.heap.size w w' := by
  have K := (Below.refl w.heap.size w).alloc (Nat.le_refl _) (.cells #[v] 26)
  have hc := new_cell w v 26
  have h1 := h.call K
  rcases hk : okL L with _ | _
  · have Hi := Lib.hid (inR_no (x := x) (y := y) hk)
    have R := fun W hv => rokS v L W hv
    unfold RokAns at R
    rw [hk] at R
    clear hk h
    go_enter Try.func37, Try.ntmps37
    go_wp2_with fail
    refine (R _ h1).mono ?_
    rintro e w1 ⟨rfl, hb⟩
    replace K := below_call K hb
    clear hb hc R h1
    go_wp2_with fail
    go_ret
    exact ⟨ret_bool Hi.out.symm, K⟩
  · have Hk := Lib.hid hk
    have R := fun W hv => rokS v L W hv
    unfold RokAns at R
    rw [hk] at R
    clear hk h
    by_cases hx : 0 ≤ x ∧ x ≤ 15
    · obtain ⟨hx0, hx1⟩ := hx
      by_cases hy : 0 ≤ y ∧ y ≤ 15
      · obtain ⟨hy0, hy1⟩ := hy
        obtain ⟨a, rfl⟩ : ∃ a : Nat, x = (a : Int) := ⟨x.toNat, by omega⟩
        obtain ⟨b, rfl⟩ : ∃ b : Nat, y = (b : Int) := ⟨y.toNat, by omega⟩
        have Hi : Hid (inR L a b = gridOf L (b * 16 + a)) := by
          have hg := in_grid Hk.out a b (by omega) (by omega)
          rcases e : gridOf L (b * 16 + a) with _ | _
          · exact inR_out (fun k => by rw [hg.1 k] at e; cases e)
          · exact inR_yes Hk.out (hg.2 e)
        go_enter Try.func37, Try.ntmps37
        go_wp2_with fail
        refine (R _ h1).mono ?_
        rintro e w1 ⟨rfl, hb⟩
        replace hc := cell_call hb hc
        replace h1 := h1.call hb
        replace K := below_call K hb
        clear hb R
        go_wp2_with ((go_at_call 63; (with_reducible refine (inS_yes _ _ _ _ (by omega) (by omega)).mono ?_); rintro e w' ⟨rfl, rfl⟩))
        refine (gridS v L _ h1).mono ?_
        rintro e w2 ⟨g, rfl, _, hG, hb⟩
        replace K := below_call K hb
        have hcell := hG.cell (b * 16 + a) (by omega)
        have b0 : (0 : Int) ≤ (b : Int) * 16 + (a : Int) := by omega
        have b1 : (b : Int) * 16 + (a : Int) < 256 := by omega
        clear hb hG hc h1
        go_wp2_with fail
        go_ret
        exact ⟨ret_bool Hi.out.symm, K⟩
      · have Hi := Lib.hid (inR_out (in_out Hk.out (x := x) (y := y) (by omega)))
        have HY := Lib.hid (show y < 0 ∨ 15 < y by omega)
        clear hy
        go_enter Try.func37, Try.ntmps37
        go_wp2_with fail
        refine (R _ h1).mono ?_
        rintro e w1 ⟨rfl, hb⟩
        replace K := below_call K hb
        clear hb hc R h1
        go_wp2_with (first | (go_at_call 63; (with_reducible refine (inS_yes _ _ _ _ hx0 hx1).mono ?_); rintro e w' ⟨rfl, rfl⟩) | (go_at_call 63; (with_reducible refine (inS_no _ _ _ _ HY.out).mono ?_); rintro e w' ⟨rfl, rfl⟩))
        go_ret
        exact ⟨ret_bool Hi.out.symm, K⟩
    · have Hi := Lib.hid (inR_out (in_out Hk.out (x := x) (y := y) (by omega)))
      have HX := Lib.hid (show x < 0 ∨ 15 < x by omega)
      clear hx
      go_enter Try.func37, Try.ntmps37
      go_wp2_with fail
      refine (R _ h1).mono ?_
      rintro e w1 ⟨rfl, hb⟩
      replace K := below_call K hb
      clear hb hc R h1
      go_wp2_with ((go_at_call 63; (with_reducible refine (inS_no _ _ _ _ HX.out).mono ?_); rintro e w' ⟨rfl, rfl⟩))
      go_ret
      exact ⟨ret_bool Hi.out.symm, K⟩
end Go.Proofs.Ytcffeakajfbhhaa
