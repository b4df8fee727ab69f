/- The walk of the law FnClamped: it returns true for every code. -/
import Derived.Test.YteichodalcdbcaaClampC
import Derived.Test.YteichodalcdbcaaClampD
import Derived.Test.YteichodalcdbcaaBig
namespace Go.Proofs.Yteichodalcdbcaa
open Go.RowKit
set_option maxHeartbeats 400000 in
theorem walk_FnClamped (a : Option Addr) (len cap : Nat) (zs : List Int) (w : World) (hrow : IsRow .u8 w a len cap zs) :
    Calls Try.prog 3 #[.slice a len cap] w fun e w' => e = .returned (.bool true) ∧ Below w.heap.size w w' := by
  by_cases hbig : len ≤ 1048576
  · go_enter Try.func3, Try.ntmps3
    go_wp2_with fail
    refine (big_no _ _ _ _ hbig).mono ?_
    rintro e w1 ⟨rfl, rfl⟩
    go_wp2_with fail
    refine (drawClamp_any _ _ _ _ zs hrow).mono ?_
    rintro e w1 ⟨n, lo, hi, rfl, hb⟩
    clear hrow
    go_wp2_with fail
    refine (clampI _ _ _ _).mono ?_
    rintro e w2 ⟨rfl, rfl⟩
    obtain ⟨x, hx⟩ : ∃ x, x = clamp n lo hi := ⟨_, rfl⟩
    rw [← hx]
    have Hx := Lib.hid hx
    clear hx
    have h735 : clamp 7 3 5 = 5 := by decide
    have H735 := Lib.hid h735
    clear h735
    by_cases hlt : hi < lo
    · have e1 : (x == lo) = true := by have := Hx.out; unfold clamp at this; simp; omega
      go_wp2_with fail
      refine (clampI _ _ _ _).mono ?_
      rintro e w2 ⟨rfl, rfl⟩
      rw [H735.out]
      go_wp2_with fail
      go_ret
      exact ⟨rfl, hb⟩
    · have e1 : lo ≤ x := by have := Hx.out; unfold clamp at this; omega
      have e2 : x ≤ hi := by have := Hx.out; unfold clamp at this; omega
      have hcx : clamp x lo hi = x := by unfold clamp; omega
      have Hcx := Lib.hid hcx
      clear hcx
      by_cases hn1 : n < lo
      · go_wp2_with fail
        refine (clampI _ _ _ _).mono ?_
        rintro e w2 ⟨rfl, rfl⟩
        rw [Hcx.out]
        go_wp2_with fail
        refine (clampI _ _ _ _).mono ?_
        rintro e w2 ⟨rfl, rfl⟩
        rw [H735.out]
        go_wp2_with fail
        go_ret
        exact ⟨rfl, hb⟩
      · by_cases hn2 : hi < n
        · go_wp2_with fail
          refine (clampI _ _ _ _).mono ?_
          rintro e w2 ⟨rfl, rfl⟩
          rw [Hcx.out]
          go_wp2_with fail
          refine (clampI _ _ _ _).mono ?_
          rintro e w2 ⟨rfl, rfl⟩
          rw [H735.out]
          go_wp2_with fail
          go_ret
          exact ⟨rfl, hb⟩
        · have hxn : (x == n) = true := by have := Hx.out; unfold clamp at this; simp; omega
          go_wp2_with fail
          refine (clampI _ _ _ _).mono ?_
          rintro e w2 ⟨rfl, rfl⟩
          rw [Hcx.out]
          go_wp2_with fail
          refine (clampI _ _ _ _).mono ?_
          rintro e w2 ⟨rfl, rfl⟩
          rw [H735.out]
          go_wp2_with fail
          go_ret
          exact ⟨rfl, hb⟩
  · go_enter Try.func3, Try.ntmps3
    go_wp2_with fail
    refine (big_yes _ _ _ _ (by omega)).mono ?_
    rintro e w1 ⟨rfl, rfl⟩
    go_wp2_with fail
    go_ret
    exact ⟨rfl, Below.refl _ _⟩
end Go.Proofs.Yteichodalcdbcaa
