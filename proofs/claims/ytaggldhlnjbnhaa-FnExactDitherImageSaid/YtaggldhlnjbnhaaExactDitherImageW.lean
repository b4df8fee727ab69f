/- The walk of the law FnExactDitherImage: it returns true for every image. -/
import Derived.Test.YtaggldhlnjbnhaaRd
import Derived.Test.YtaggldhlnjbnhaaIntR
import Derived.Test.YtaggldhlnjbnhaaImR
import Derived.Test.YtaggldhlnjbnhaaPixM
import Derived.Test.YtaggldhlnjbnhaaDitM
import Derived.Test.YtaggldhlnjbnhaaImL
import Derived.Test.YtaggldhlnjbnhaaImV
import Derived.Test.YtaggldhlnjbnhaaBlk4
import Derived.Test.YtaggldhlnjbnhaaRectEq
import Derived.Test.YtaggldhlnjbnhaaLaw
import Derived.Test.YtaggldhlnjbnhaaThr
import Derived.Test.YtaggldhlnjbnhaaPixA
import Derived.Test.YtaggldhlnjbnhaaBk
import Derived.Test.YtaggldhlnjbnhaaHasC
import Derived.Test.YtaggldhlnjbnhaaRds
import Derived.Test.YtaggldhlnjbnhaaFilB
import Derived.Test.YtaggldhlnjbnhaaCrpB
import Derived.Test.YtaggldhlnjbnhaaDitI
import Derived.Test.YtaggldhlnjbnhaaLawS
import Derived.Test.YtaggldhlnjbnhaaProg
import Derived.WalkKit
import Derived.ProofKit
import Derived.OpenShut
import Derived.WalkLawsBesides
import Derived.WalkSpells
import Derived.ShutString
import Derived.ChangeOld
import Derived.Below
import Derived.Lib.Hide
import Derived.BigQuiet
import Derived.Deep.QuietTactic
import Derived.Maps.AppendAt
import Derived.Deep.OwnRows
import Derived.Handy
import Derived.Deep.Draws
import Derived.OwnWalk
import Derived.Deep.AppendLies
import Derived.Deep.LoopGhost
import Derived.Deep.Onto
import Derived.Deep.RegionHeld3
import Derived.Deep.DeepCutAuto
import Derived.Laws.BitsAllLaws
import Derived.Lib.QuoteBits
import Derived.Test.YtaggldhlnjbnhaaShelf
import Derived.Laws.CopyOwn
import Derived.Deep.RegionLaw
import Derived.Great.BuildSlice
import Derived.Deep.MidRow
import Derived.Deep.WholeRow
import Derived.Carry
import Derived.Maps.Own
import Derived.Laws.AppendOwn
namespace Go.Proofs.Ytaggldhlnjbnhaa
open Go.RowKit
set_option maxHeartbeats 4000000 in
set_option maxRecDepth 10000 in
theorem walk_FnExactDitherImage (X0 Y0 : Int) (v0 : Value) (L0 : List Int) (w : World) (h0 : Rd w v0 L0.length (intCells L0)) :
    Calls Try.prog 8 #[.agg #[.int .i64 X0, .int .i64 Y0, v0]] w fun e w' => e = .returned (.bool true) ∧ Below w.heap.size w w' := by
  obtain ⟨A0, c0, rfl⟩ := h0.form
  have hm0 : L0.length ≤ maxLen := h0.len.2
  have O0 := Lib.hid h0
  have Kw := Below.refl w.heap.size w
  have hb0 := belI_box w (.cells #[.int .i64 X0, .int .i64 Y0, .slice A0 L0.length c0] 35)
  have a0 : ImA (w.heap.size) X0 Y0 (.slice A0 L0.length c0) L0 (w.alloc (.cells #[.int .i64 X0, .int .i64 Y0, .slice A0 L0.length c0] 35)) := ⟨ImAt.newAt (w := w) (by simp) _ _ _ _, (h0.call Kw).call hb0⟩
  replace Kw := belI_call Kw hb0
  clear hb0
  obtain ⟨w0, hw0⟩ : ∃ w0, w0 = (w.alloc (.cells #[.int .i64 X0, .int .i64 Y0, .slice A0 L0.length c0] 35)) := ⟨_, rfl⟩
  rw [← hw0] at Kw a0
  have Hw := Lib.hid hw0
  clear hw0 h0
  by_cases g0 : L0.length ≤ 1048576
  rotate_left
  · have g' : ¬ L0.length ≤ 1048576 := g0
    obtain ⟨a0_0, a0_1, a0_2⟩ := a0.cells
    go_enter Try.func8, Try.ntmps8
    go_wp2_with fail
    rw [← Hw.out]
    clear a0_0 a0_1 a0_2
    have q0 : (0 : Int) ≤ (1048576 : Int) := by omega
    have q1 : (1048576 : Int) < (L0.length : Int) := by omega
    refine (szIm_no X0 Y0 L0.length A0 c0 hm0 _ q0 q1 _).mono ?_
    rintro e w1 ⟨rfl, hb⟩
    replace a0 := a0.call hb
    replace Kw := belI_call Kw hb
    clear hb
    go_wp2_with fail
    go_ret
    exact ⟨rfl, Kw⟩
  have n0 : L0.length ≤ 1048576 := by omega
  have Hn0 := Lib.hid n0
  obtain ⟨LR, hR, hlR⟩ : ∃ L, ditA X0 Y0 L0 = L ∧ L.length ≤ 4194304 := ⟨_, rfl, (by have := ditA_len X0 Y0 L0; omega)⟩
  have PS := fun (W : World) u0 k0 => dimS X0 Y0 u0 L0 W k0
  have PI := fun (W : World) u0 k0 => dimI X0 Y0 u0 L0 W k0
  unfold AnsIs at PS PI
  rw [hR] at PS PI
  have HS := Lib.hid PS
  have HI := Lib.hid PI
  clear PS PI hR
  obtain ⟨a0_0, a0_1, a0_2⟩ := a0.cells
  go_enter Try.func8, Try.ntmps8
  go_wp2_with fail
  rw [← Hw.out]
  clear a0_0 a0_1 a0_2
  refine (szIm_yes X0 Y0 L0.length A0 c0 _ (by omega) (by omega) _).mono ?_
  rintro e w1 ⟨rfl, hb⟩
  replace a0 := a0.call hb
  replace Kw := belI_call Kw hb
  clear hb
  have z0 : ¬ ((1048576 : Int) - (L0.length : Int)) < 0 := by omega
  have neg1 : ¬ ((1 + LR.length : Nat) : Int) < 0 := by omega
  obtain ⟨a0_0, a0_1, a0_2⟩ := a0.cells
  go_wp2_with fail
  clear a0_0 a0_1 a0_2
  refine (toIm X0 Y0 _ L0 _ Hn0.out a0.rd).mono ?_
  rintro e w2 ⟨vo, rfl, u1, hb⟩
  obtain ⟨A_u1, c_u1, he⟩ := ownI_shape u1
  subst he
  replace a0 := a0.call hb
  replace Kw := belI_call Kw hb
  clear hb
  obtain ⟨a0_0, a0_1, a0_2⟩ := a0.cells
  go_wp2_with fail
  clear a0_0 a0_1 a0_2
  refine (HS.out _ _ (RdI.of_own u1)).mono ?_
  rintro e w3 ⟨vw, rfl, u2, hb⟩
  obtain ⟨A_w, c_w, he⟩ := ownI_shape u2
  subst he
  have hlo_Z := Lib.hid Kw.size
  have hl_Z := Lib.hid a0.lt
  have Z := IsV.born u2
  replace a0 := a0.call hb
  replace Kw := belI_call Kw hb
  clear hb u1 u2
  obtain ⟨a0_0, a0_1, a0_2⟩ := a0.cells
  go_wp2_with fail
  clear a0_0 a0_1 a0_2
  refine (toIm X0 Y0 _ L0 _ Hn0.out a0.rd).mono ?_
  rintro e w4 ⟨vo, rfl, u4, hb⟩
  obtain ⟨A_u4, c_u4, he⟩ := ownI_shape u4
  subst he
  have hs_Z_V := Lib.hid Z.hs
  have hlo_V := Lib.hid Kw.size
  have hl_V := Lib.hid a0.lt
  have V := ImV.born (X := X0) (Y := Y0) hb u4
  replace hb := belI_call hb (belI_box w4 (.cells #[.int .i64 X0, .int .i64 Y0, .slice A_u4 L0.length c_u4] 28))
  replace a0 := a0.call hb
  replace Z := Z.call hb
  replace Kw := belI_call Kw hb
  clear hb u4
  obtain ⟨a0_0, a0_1, a0_2⟩ := a0.cells
  obtain ⟨V_0, V_1, V_2⟩ := V.cells
  go_wp2_with fail
  clear a0_0 a0_1 a0_2 V_0 V_1 V_2
  refine (HI.out _ _ V.rd).mono ?_
  rintro e w5 ⟨vg, rfl, u6, hb⟩
  obtain ⟨A_g, c_g, he⟩ := ownI_shape u6
  subst he
  have hs_Z_G := Lib.hid Z.hs
  have hs_V_G := Lib.hid V.hs
  have hlo_G := Lib.hid Kw.size
  have hl_G := Lib.hid a0.lt
  have G := IsV.born u6
  replace a0 := a0.call hb
  replace Z := Z.call hb
  replace V := V.call hb
  replace Kw := belI_call Kw hb
  clear hb u6
  obtain ⟨a0_0, a0_1, a0_2⟩ := a0.cells
  obtain ⟨V_0, V_1, V_2⟩ := V.cells
  go_wp2_with fail
  clear a0_0 a0_1 a0_2 V_0 V_1 V_2
  refine (eqIS_own _ _ LR _ G.rd Z.rd).mono ?_
  rintro e w6 ⟨rfl, hb⟩
  replace a0 := a0.call hb
  replace Z := Z.call hb
  replace V := V.call hb
  replace G := G.call hb
  replace Kw := belI_call Kw hb
  clear hb
  obtain ⟨a0_0, a0_1, a0_2⟩ := a0.cells
  obtain ⟨V_0, V_1, V_2⟩ := V.cells
  go_upto_region 10 with fail
  clear a0_0 a0_1 a0_2 V_0 V_1 V_2
  refine wp_region_held_drew (S := fun W => Below w6.heap.size w6 W) (by kernel_rfl) (Below.refl _ _).drew (fun hS => ?_)
  refine wpAnyH_take (i := 0) (v := .agg #[.int .i64 X0, .int .i64 Y0, .slice A_u4 L0.length c_u4]) rfl (by kernel_rfl) (by kernel_rfl) (by kernel_rfl) (fun _ _ _ h => h) (Or.inl ⟨by kernel_rfl, by intro w' hSw; (try dsimp only at hSw); (obtain ⟨a0_0, a0_1, a0_2⟩ := (a0.call hSw).cells); (obtain ⟨V_0, V_1, V_2⟩ := (V.call hSw).cells); go_simp⟩) (by assumption) ?_
  refine wpAnyH_take (i := 1) (v := .agg #[.int .i64 X0, .int .i64 Y0, .slice A0 L0.length c0]) rfl (by kernel_rfl) (by kernel_rfl) (by kernel_rfl) (fun _ _ _ h => h) (Or.inl ⟨by kernel_rfl, by intro w' hSw; (try dsimp only at hSw); (obtain ⟨a0_0, a0_1, a0_2⟩ := (a0.call hSw).cells); (obtain ⟨V_0, V_1, V_2⟩ := (V.call hSw).cells); go_simp⟩) (by assumption) ?_
  (try simp only [Act.put]); (try simp only [List.setIfInBounds_toArray]); (try simp only [List.set_cons_zero, List.set_cons_succ])
  refine wpAnyH_ready (rs := [2]) (by kernel_rfl) (by simp) ?_
  refine (AllReadyH.cons rfl (fun K hK => ?_) AllReadyH.nil)
  · rw [if_pos (by kernel_rfl)]
    (try simp only [List.getElem_toArray]); (try simp only [List.getElem_cons_succ]); (try simp only [List.getElem_cons_zero])
    go_simp
    with_reducible refine (toIm X0 Y0 _ L0 _ Hn0.out (a0.call hS).rd).mono ?_
    rintro e W' ⟨vo, rfl, u8, hb⟩
    obtain ⟨A_u8, c_u8, he⟩ := ownI_shape u8
    subst he
    dsimp only
    refine hK.out _ _ (belI_call hS hb) (fun hS => ?_)
    clear hK
    (try simp only [Act.put]); (try simp only [List.setIfInBounds_toArray]); (try simp only [List.set_cons_zero, List.set_cons_succ])
    refine wpAnyH_ready (rs := [3]) (by kernel_rfl) (by simp) ?_
    refine (AllReadyH.cons rfl (fun K hK => ?_) AllReadyH.nil)
    · rw [if_pos (by kernel_rfl)]
      (try simp only [List.getElem_toArray]); (try simp only [List.getElem_cons_succ]); (try simp only [List.getElem_cons_zero])
      go_simp
      with_reducible refine (eqIm_same _ _ _ _ L0 _ (V.call hS).rd (RdI.of_own u8)).mono ?_
      rintro e W' ⟨rfl, hb⟩
      dsimp only
      have u8 := ownI_call u8 hb
      refine hK.out _ _ (belI_call hS hb) (fun hS => ?_)
      clear hK
      (try simp only [Act.put]); (try simp only [List.setIfInBounds_toArray]); (try simp only [List.set_cons_zero, List.set_cons_succ])
      refine wpAnyH_take (i := 4) (v := .bool false) rfl (by kernel_rfl) (by kernel_rfl) (by kernel_rfl) (fun _ _ _ h => h) (Or.inl ⟨by kernel_rfl, by intro w' hSw; (try dsimp only at hSw); (obtain ⟨a0_0, a0_1, a0_2⟩ := (a0.call hSw).cells); (obtain ⟨V_0, V_1, V_2⟩ := (V.call hSw).cells); go_simp⟩) (by assumption) ?_
      refine wpAnyH_done (by kernel_rfl) ?_ _
      have hb := hS
      replace a0 := a0.call hb
      replace Z := Z.call hb
      replace V := V.call hb
      replace G := G.call hb
      replace Kw := belI_call Kw hb
      clear hb hS
      clear u8
      obtain ⟨w7, hWy⟩ : ∃ w7, w7 = W' := ⟨_, rfl⟩
      subst hWy
      obtain ⟨a0_0, a0_1, a0_2⟩ := a0.cells
      obtain ⟨V_0, V_1, V_2⟩ := V.cells
      go_wp2_with fail
      clear a0_0 a0_1 a0_2 V_0 V_1 V_2
      refine (markImI _ X0 Y0 _ L0 (1) _ _ (by omega) (by omega) V.own).mono ?_
      rintro e w8 ⟨rfl, hown, hg⟩
      replace Kw := belI_mark Kw V (by have := hlo_V.out; omega) hg
      replace a0 : ImA _ _ _ _ _ _ := ⟨a0.at_.grown hg (fun e => by have := (V.row _ e.symm).1; have := hl_V.out; omega), O0.out.call Kw⟩
      replace Z := Z.other hg (fun k hk => by have := V.row k hk; have := hs_Z_V.out; omega)
      replace G := G.other hg (fun k hk => by have := V.row k hk; have := hs_V_G.out; omega)
      replace V := V.mark hown (marksI_length _ _) hg
      clear hown hg
      have hk1 : ¬ ((1 + L0.length : Nat) : Int) < 0 := by omega
      obtain ⟨a0_0, a0_1, a0_2⟩ := a0.cells
      obtain ⟨V_0, V_1, V_2⟩ := V.cells
      go_wp2_with fail
      clear a0_0 a0_1 a0_2 V_0 V_1 V_2
      refine (eqIS_own _ _ LR _ G.rd Z.rd).mono ?_
      rintro e w9 ⟨rfl, hb⟩
      replace a0 := a0.call hb
      replace Z := Z.call hb
      replace V := V.call hb
      replace G := G.call hb
      replace Kw := belI_call Kw hb
      clear hb
      obtain ⟨a0_0, a0_1, a0_2⟩ := a0.cells
      obtain ⟨V_0, V_1, V_2⟩ := V.cells
      go_wp2_with fail
      clear a0_0 a0_1 a0_2 V_0 V_1 V_2
      refine (markISI _ _ LR (1) _ _ (by omega) (by omega) G.own).mono ?_
      rintro e w10 ⟨rfl, hown, hg⟩
      replace Kw := belS_mark Kw G (by have := hlo_G.out; omega) hg
      replace a0 : ImA _ _ _ _ _ _ := ⟨a0.at_.grown hg (fun e => by have := (G.row _ e.symm).1; have := hl_G.out; omega), O0.out.call Kw⟩
      replace Z := Z.other hg (fun k hk => by have := G.row k hk; have := hs_Z_G.out; omega)
      replace V := V.other hg (fun k hk => by have := G.row k hk; have := hs_V_G.out; omega)
      replace G := G.mark hown (marksI_length _ _) hg
      clear hown hg
      obtain ⟨a0_0, a0_1, a0_2⟩ := a0.cells
      obtain ⟨V_0, V_1, V_2⟩ := V.cells
      go_wp2_with fail
      clear a0_0 a0_1 a0_2 V_0 V_1 V_2
      refine (heldIS _ 1 LR.length _ (by omega) G.rd).mono ?_
      rintro e w11 ⟨rfl, rfl⟩
      obtain ⟨a0_0, a0_1, a0_2⟩ := a0.cells
      obtain ⟨V_0, V_1, V_2⟩ := V.cells
      go_wp2_with fail
      clear a0_0 a0_1 a0_2 V_0 V_1 V_2
      refine (toIm X0 Y0 _ L0 _ Hn0.out a0.rd).mono ?_
      rintro e w12 ⟨vo, rfl, u9, hb⟩
      obtain ⟨A_u9, c_u9, he⟩ := ownI_shape u9
      subst he
      replace a0 := a0.call hb
      replace Z := Z.call hb
      replace V := V.call hb
      replace G := G.call hb
      replace Kw := belI_call Kw hb
      clear hb
      obtain ⟨a0_0, a0_1, a0_2⟩ := a0.cells
      obtain ⟨V_0, V_1, V_2⟩ := V.cells
      go_wp2_with fail
      clear a0_0 a0_1 a0_2 V_0 V_1 V_2
      refine (HI.out _ _ (RdI.of_own u9)).mono ?_
      rintro e w13 ⟨vh, rfl, u10, hb⟩
      obtain ⟨A_h, c_h, he⟩ := ownI_shape u10
      subst he
      have HV := IsV.born u10
      replace a0 := a0.call hb
      replace Z := Z.call hb
      replace V := V.call hb
      replace G := G.call hb
      replace Kw := belI_call Kw hb
      clear hb u9 u10
      obtain ⟨a0_0, a0_1, a0_2⟩ := a0.cells
      obtain ⟨V_0, V_1, V_2⟩ := V.cells
      go_wp2_with fail
      clear a0_0 a0_1 a0_2 V_0 V_1 V_2
      refine (eqIS_own _ _ LR _ HV.rd Z.rd).mono ?_
      rintro e w14 ⟨rfl, hb⟩
      replace a0 := a0.call hb
      replace Z := Z.call hb
      replace V := V.call hb
      replace G := G.call hb
      replace HV := HV.call hb
      replace Kw := belI_call Kw hb
      clear hb
      obtain ⟨a0_0, a0_1, a0_2⟩ := a0.cells
      obtain ⟨V_0, V_1, V_2⟩ := V.cells
      go_wp2_with fail
      clear a0_0 a0_1 a0_2 V_0 V_1 V_2
      refine (heldIS _ 1 LR.length _ (by omega) G.rd).mono ?_
      rintro e w15 ⟨rfl, rfl⟩
      go_wp2_with fail
      go_ret
      exact ⟨rfl, Kw⟩
end Go.Proofs.Ytaggldhlnjbnhaa
