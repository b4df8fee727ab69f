/- The walk of the law FnExactBlend: it returns true for every list of integers and every integer. -/
import Derived.Test.YtjkencblbegpoaaBlend
import Derived.Test.YtjkencblbegpoaaFrame
namespace Go.Proofs.Ytjkencblbegpoaa
open Go.RowKit
theorem walk_FnExactBlend (a : Option Addr) (len cap : Nat) (zs : List Int) (q : Int) (_ : (Lit.int .i64 q).wf = true) (w : World) (h : IsRow .i64 w a len cap zs) :
    Calls Try.prog 9 #[.slice a len cap, .int .i64 q] w fun e w' => e = .returned (.bool true) ∧ Below w.heap.size w w' := by
  have hR := Rd.of_row h
  have hlen : (zs.take len).length = len := by
    rcases h with ⟨rfl, rfl, rfl, rfl⟩ | ⟨x, rfl, h1, h2, h3, h4, h5⟩
    · rfl
    · rw [List.length_take]; omega
  have hm : len ≤ 9223372036854775807 := by have := hR.len.2; rw [hlen] at this; unfold maxLen at this; omega
  obtain ⟨L, hL⟩ : ∃ L, L = zs.take len := ⟨_, rfl⟩
  rw [← hL] at hR hlen
  clear h hL
  by_cases hbig : (1048576 : Int) < (len : Int)
  · clear hR hlen
    go_enter Try.func9, Try.ntmps9
    go_wp2_with fail
    go_ret
    exact ⟨rfl, Below.refl _ _⟩
  · have hlm : L.length ≤ 1048576 := by omega
    have HR := Lib.hid hR
    have HL := Lib.hid hlm
    obtain ⟨v, hv⟩ : ∃ v, v = blend L q := ⟨_, rfl⟩
    have hS := fun u W H => blendS_any u L q W H
    have hI := fun u W H => blendI_any u L q W H
    rw [← hv] at hS hI
    have HS := Lib.hid hS
    have HI := Lib.hid hI
    clear hS hI hv hR hlm hlen
    go_enter Try.func9, Try.ntmps9
    go_wp2_with fail
    refine (toIS _ L _ HL.out HR.out).mono ?_
    rintro e w1 ⟨v1, rfl, R1, b1⟩
    have K := b1
    go_wp2_with fail
    refine (HS.out _ _ R1).mono ?_
    rintro e w' ⟨rfl, rfl⟩
    clear R1 b1
    go_wp2_with fail
    refine (toIS _ L _ HL.out (HR.out.call K)).mono ?_
    rintro e w2 ⟨v2, rfl, R2, b2⟩
    replace K := px_call K b2
    clear b2
    go_wp2_with fail
    refine (HI.out _ _ R2).mono ?_
    rintro e w3 ⟨rfl, b3⟩
    replace K := px_call K b3
    replace R2 := R2.call b3
    clear b3
    go_wp2_with fail
    refine (toIS _ L _ HL.out (HR.out.call K)).mono ?_
    rintro e w4 ⟨v4, rfl, R4, b4⟩
    replace K := px_call K b4
    replace R2 := R2.call b4
    clear b4
    go_wp2_with fail
    refine (eqIS_same _ _ L _ R2 R4).mono ?_
    rintro e w5 ⟨rfl, k, rfl⟩
    go_wp2_with fail
    go_ret
    exact ⟨rfl, below_drewN K k⟩
end Go.Proofs.Ytjkencblbegpoaa
