/- The walk of the law FnExactNewImage: it returns true for every three integers. -/
import Derived.Test.YtnhalmfljefliaaImV
import Derived.Test.YtnhalmfljefliaaImN
namespace Go.Proofs.Ytnhalmfljefliaa
open Go.RowKit
theorem newIm_len (W H p : Int) : (newIm W H p).d.length ≤ 256 := by
  by_cases h : szOk W H ∧ pixOk p
  · obtain ⟨n, _, n2, _, hd⟩ := flat_size h.1 p
    rw [new_yes h.1 h.2, hd]
    show (tabI n (fun _ => p)).length ≤ 256
    rw [tabI_length]; exact n2
  · rw [new_no h]; decide
set_option maxHeartbeats 600000 in
set_option maxRecDepth 10000 in
theorem walk_FnExactNewImage (a : Int) (_ : (Lit.int .i64 a).wf = true) (b : Int) (_ : (Lit.int .i64 b).wf = true) (p : Int) (_ : (Lit.int .i64 p).wf = true) (w : World) :
    Calls Try.prog 5 #[.int .i64 a, .int .i64 b, .int .i64 p] w fun e w' => e = .returned (.bool true) ∧ Below w.heap.size w w' := by
  obtain ⟨X, Y, L, hI, hl⟩ : ∃ X Y L, newIm a b p = ⟨X, Y, L⟩ ∧ L.length ≤ 256 := ⟨_, _, _, rfl, newIm_len a b p⟩
  have PS := fun W => newS a b p W
  have PI := fun W => newI a b p W
  rw [hI] at PS PI
  unfold AnsIm at PS PI
  have HS := Lib.hid PS
  have HI := Lib.hid PI
  have c1 : ¬ ((1 + L.length : Nat) : Int) < 0 := by omega
  have Hl := Lib.hid hl
  clear hI PS PI hl
  go_enter Try.func5, Try.ntmps5
  go_wp2_with fail
  refine (HS.out _).mono ?_
  rintro e w1 ⟨vr, rfl, hown, hb⟩
  obtain ⟨Ar, cr, hv⟩ := ownI_shape hown
  subst hv
  have hR := ImV.born (X := X) (Y := Y) hb hown
  have K := belI_call hb (belI_box w1 (.cells #[.int .i64 X, .int .i64 Y, .slice Ar L.length cr] 26))
  clear hb hown
  go_wp2_with fail
  refine (HI.out _).mono ?_
  rintro e w2 ⟨vg, rfl, hown, hb⟩
  obtain ⟨Ag, cg, hv⟩ := ownI_shape hown
  subst hv
  have S1 := Lib.hid hR.hs
  have S0 := Lib.hid K.size
  have hG := ImV.born (X := X) (Y := Y) hb hown
  have hb := belI_call hb (belI_box w2 (.cells #[.int .i64 X, .int .i64 Y, .slice Ag L.length cg] 26))
  have K := belI_call K hb
  have hR := hR.call hb
  clear hb hown
  obtain ⟨g0, g1, g2⟩ := hG.cells
  obtain ⟨r0, r1, r2⟩ := hR.cells
  go_wp2_with fail
  refine (eqIm_same _ _ _ _ L _ hG.rd hR.rd).mono ?_
  rintro e w3 ⟨rfl, hb⟩
  have K := belI_call K hb
  have hR := hR.call hb
  have hG := hG.call hb
  clear hb g0 g1 g2 r0 r1 r2
  obtain ⟨g0, g1, g2⟩ := hG.cells
  go_wp2_with fail
  refine (markIm _ X Y _ L 1 _ (by have := Hl.out; omega) hG.own).mono ?_
  rintro e w4 ⟨rfl, hown, hg⟩
  have K := belI_mark K hG S0.out hg
  have hR := hR.other hg (fun k hk => by have := hG.row k hk; have := S1.out; omega)
  have hG := hG.mark hown (marksI_length _ _) hg
  clear hown hg g0 g1 g2
  obtain ⟨g0, g1, g2⟩ := hG.cells
  go_wp2_with fail
  refine (heldIm X Y _ 1 L.length _ (by have := Hl.out; omega) hG.rd).mono ?_
  rintro e w5 ⟨rfl, hb⟩
  have K := belI_call K hb
  have hR := hR.call hb
  have hG := hG.call hb
  clear hb g0 g1 g2
  go_wp2_with fail
  refine (HI.out _).mono ?_
  rintro e w6 ⟨vh, rfl, hown, hb⟩
  obtain ⟨Ah, ch, hv⟩ := ownI_shape hown
  subst hv
  have hH := ImV.born (X := X) (Y := Y) hb hown
  have hb := belI_call hb (belI_box w6 (.cells #[.int .i64 X, .int .i64 Y, .slice Ah L.length ch] 26))
  have K := belI_call K hb
  have hR := hR.call hb
  have hG := hG.call hb
  clear hb hown
  obtain ⟨h0, h1, h2⟩ := hH.cells
  obtain ⟨r0, r1, r2⟩ := hR.cells
  go_wp2_with fail
  refine (eqIm_same _ _ _ _ L _ hH.rd hR.rd).mono ?_
  rintro e w7 ⟨rfl, hb⟩
  have K := belI_call K hb
  have hG := hG.call hb
  clear hb h0 h1 h2 r0 r1 r2 hR hH
  obtain ⟨g0, g1, g2⟩ := hG.cells
  go_wp2_with fail
  refine (heldIm X Y _ 1 L.length _ (by have := Hl.out; omega) hG.rd).mono ?_
  rintro e w8 ⟨rfl, hb⟩
  have K := belI_call K hb
  clear hb g0 g1 g2 hG
  go_wp2_with fail
  go_ret
  exact ⟨rfl, K⟩
end Go.Proofs.Ytnhalmfljefliaa
