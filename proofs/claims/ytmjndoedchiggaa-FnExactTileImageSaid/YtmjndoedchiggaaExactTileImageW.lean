/- The walk of the law FnExactTileImage: it returns true for every image and two numbers. -/
import Derived.Test.YtmjndoedchiggaaMA
import Derived.Test.YtmjndoedchiggaaImR
import Derived.Test.YtmjndoedchiggaaImL
import Derived.Test.YtmjndoedchiggaaImN
import Derived.Test.YtmjndoedchiggaaImV
import Derived.Test.YtmjndoedchiggaaCpyB
import Derived.Test.YtmjndoedchiggaaCpyI
import Derived.Test.YtmjndoedchiggaaFilB
import Derived.Test.YtmjndoedchiggaaDifB
import Derived.Test.YtmjndoedchiggaaCrpB
import Derived.Test.YtmjndoedchiggaaLaw
import Derived.Test.YtmjndoedchiggaaOriC
import Derived.Test.YtmjndoedchiggaaOriQ
import Derived.Test.YtmjndoedchiggaaOrdB
import Derived.Test.YtmjndoedchiggaaOrdS
import Derived.Test.YtmjndoedchiggaaOrdI
import Derived.Test.YtmjndoedchiggaaOrdA
import Derived.Test.YtmjndoedchiggaaSclB
import Derived.Test.YtmjndoedchiggaaSclI
import Derived.Test.YtmjndoedchiggaaSclS
import Derived.Test.YtmjndoedchiggaaProg
import Derived.WalkKit
import Derived.ProofKit
import Derived.OpenShut
import Derived.WalkLawsBesides
import Derived.WalkSpells
import Derived.ShutString
import Derived.ChangeOld
import Derived.Below
import Derived.Lib.Hide
import Derived.BigQuiet
import Derived.Deep.QuietTactic
import Derived.Maps.AppendAt
import Derived.Deep.OwnRows
import Derived.Handy
import Derived.Deep.Draws
import Derived.OwnWalk
import Derived.Deep.AppendLies
import Derived.Deep.LoopGhost
import Derived.Deep.Onto
import Derived.Deep.RegionHeld3
import Derived.Deep.DeepCutAuto
import Derived.Laws.BitsAllLaws
import Derived.Lib.QuoteBits
import Derived.Test.YtmjndoedchiggaaShelf
import Derived.Laws.CopyOwn
import Derived.Deep.RegionLaw
import Derived.Great.BuildSlice
import Derived.Deep.MidRow
import Derived.Deep.WholeRow
import Derived.Laws.AppendOwn
namespace Go.Proofs.Ytmjndoedchiggaa
open Go.RowKit
set_option maxHeartbeats 4000000 in
set_option maxRecDepth 10000 in
theorem walk_FnExactTileImage (X0 Y0 : Int) (v0 : Value) (L0 : List Int) (p1 : Int) (_ : (Lit.int .i64 p1).wf = true) (p2 : Int) (_ : (Lit.int .i64 p2).wf = true) (w : World) (h0 : Rd w v0 L0.length (intCells L0)) :
    Calls Try.prog 11 #[.agg #[.int .i64 X0, .int .i64 Y0, v0], .int .i64 p1, .int .i64 p2] w fun e w' => e = .returned (.bool true) ∧ Below w.heap.size w w' := by
  obtain ⟨A0, c0, rfl⟩ := h0.form
  have hm0 : L0.length ≤ maxLen := h0.len.2
  have O0 := Lib.hid h0
  have Kw := Below.refl w.heap.size w
  have hb0 := belI_box w (.cells #[.int .i64 X0, .int .i64 Y0, .slice A0 L0.length c0] 41)
  have a0 : ImA (w.heap.size) X0 Y0 (.slice A0 L0.length c0) L0 (w.alloc (.cells #[.int .i64 X0, .int .i64 Y0, .slice A0 L0.length c0] 41)) := ⟨ImAt.newAt (w := w) (by simp) _ _ _ _, (h0.call Kw).call hb0⟩
  replace Kw := belI_call Kw hb0
  clear hb0
  obtain ⟨w0, hw0⟩ : ∃ w0, w0 = (w.alloc (.cells #[.int .i64 X0, .int .i64 Y0, .slice A0 L0.length c0] 41)) := ⟨_, rfl⟩
  rw [← hw0] at Kw a0
  have Hw := Lib.hid hw0
  clear hw0 h0
  by_cases g0 : L0.length ≤ 1048576
  rotate_left
  · have g' : ¬ L0.length ≤ 1048576 := g0
    obtain ⟨a0_0, a0_1, a0_2⟩ := a0.cells
    go_enter Try.func11, Try.ntmps11
    go_wp2_with fail
    rw [← Hw.out]
    clear a0_0 a0_1 a0_2
    have q0 : (0 : Int) ≤ (1048576 : Int) := by omega
    have q1 : (1048576 : Int) < (L0.length : Int) := by omega
    refine (szIm_no X0 Y0 L0.length A0 c0 hm0 _ q0 q1 _).mono ?_
    rintro e w1 ⟨rfl, hb⟩
    replace a0 := a0.call hb
    replace Kw := belI_call Kw hb
    clear hb
    go_wp2_with fail
    go_ret
    exact ⟨rfl, Kw⟩
  have n0 : L0.length ≤ 1048576 := by omega
  have Hn0 := Lib.hid n0
  obtain ⟨XR, YR, LR, hR, hlR⟩ : ∃ X Y L, rsIm tilN X0 Y0 L0 p1 p2 = ⟨X, Y, L⟩ ∧ L.length ≤ 4194304 := ⟨_, _, _, rfl, (by have := rs_len tilN X0 Y0 L0 p1 p2; show (rsIm tilN X0 Y0 L0 p1 p2).d.length ≤ _; omega)⟩
  have PS := fun (W : World) u0 k0 => tilS_any X0 Y0 p1 p2 u0 L0 W k0
  have PI := fun (W : World) u0 k0 => tilI_any X0 Y0 p1 p2 u0 L0 W k0
  unfold AnsIm at PS PI
  rw [hR] at PS PI
  dsimp only at PS PI
  have HS := Lib.hid PS
  have HI := Lib.hid PI
  clear PS PI hR
  obtain ⟨a0_0, a0_1, a0_2⟩ := a0.cells
  go_enter Try.func11, Try.ntmps11
  go_wp2_with fail
  rw [← Hw.out]
  clear a0_0 a0_1 a0_2
  refine (szIm_yes X0 Y0 L0.length A0 c0 _ (by omega) (by omega) _).mono ?_
  rintro e w2 ⟨rfl, hb⟩
  replace a0 := a0.call hb
  replace Kw := belI_call Kw hb
  clear hb
  have z0 : ¬ ((1048576 : Int) - (L0.length : Int)) < 0 := by omega
  have neg1 : ¬ ((1 + LR.length : Nat) : Int) < 0 := by omega
  obtain ⟨a0_0, a0_1, a0_2⟩ := a0.cells
  go_wp2_with fail
  clear a0_0 a0_1 a0_2
  refine (toIm X0 Y0 _ L0 _ Hn0.out a0.rd).mono ?_
  rintro e w3 ⟨vo, rfl, u1, hb⟩
  obtain ⟨A_u1, c_u1, he⟩ := ownI_shape u1
  subst he
  replace a0 := a0.call hb
  replace Kw := belI_call Kw hb
  clear hb
  obtain ⟨a0_0, a0_1, a0_2⟩ := a0.cells
  go_wp2_with fail
  clear a0_0 a0_1 a0_2
  refine (HS.out _ _ (RdI.of_own u1)).mono ?_
  rintro e w4 ⟨vo, rfl, u2, hb⟩
  obtain ⟨A_u2, c_u2, he⟩ := ownI_shape u2
  subst he
  have hlo_V3 := Lib.hid Kw.size
  have hl_a0_V3 := Lib.hid a0.lt
  have V3 := ImV.born (X := XR) (Y := YR) hb u2
  replace hb := belI_call hb (belI_box w4 (.cells #[.int .i64 XR, .int .i64 YR, .slice A_u2 LR.length c_u2] 26))
  replace a0 := a0.call hb
  replace u1 := ownI_call u1 hb
  replace Kw := belI_call Kw hb
  clear hb u2
  clear u1
  obtain ⟨a0_0, a0_1, a0_2⟩ := a0.cells
  obtain ⟨V3_0, V3_1, V3_2⟩ := V3.cells
  go_wp2_with fail
  clear a0_0 a0_1 a0_2 V3_0 V3_1 V3_2
  refine (toIm X0 Y0 _ L0 _ Hn0.out a0.rd).mono ?_
  rintro e w5 ⟨vo, rfl, u4, hb⟩
  obtain ⟨A_u4, c_u4, he⟩ := ownI_shape u4
  subst he
  have hs_V3_V5 := Lib.hid V3.hs
  have hlo_V5 := Lib.hid Kw.size
  have hl_a0_V5 := Lib.hid a0.lt
  have V5 := ImV.born (X := X0) (Y := Y0) hb u4
  replace hb := belI_call hb (belI_box w5 (.cells #[.int .i64 X0, .int .i64 Y0, .slice A_u4 L0.length c_u4] 26))
  replace a0 := a0.call hb
  replace V3 := V3.call hb
  replace Kw := belI_call Kw hb
  clear hb u4
  obtain ⟨a0_0, a0_1, a0_2⟩ := a0.cells
  obtain ⟨V3_0, V3_1, V3_2⟩ := V3.cells
  obtain ⟨V5_0, V5_1, V5_2⟩ := V5.cells
  go_wp2_with fail
  clear a0_0 a0_1 a0_2 V3_0 V3_1 V3_2 V5_0 V5_1 V5_2
  refine (HI.out _ _ V5.rd).mono ?_
  rintro e w6 ⟨vo, rfl, u6, hb⟩
  obtain ⟨A_u6, c_u6, he⟩ := ownI_shape u6
  subst he
  have hs_V3_V7 := Lib.hid V3.hs
  have hs_V5_V7 := Lib.hid V5.hs
  have hlo_V7 := Lib.hid Kw.size
  have hl_a0_V7 := Lib.hid a0.lt
  have V7 := ImV.born (X := XR) (Y := YR) hb u6
  replace hb := belI_call hb (belI_box w6 (.cells #[.int .i64 XR, .int .i64 YR, .slice A_u6 LR.length c_u6] 26))
  replace a0 := a0.call hb
  replace V3 := V3.call hb
  replace V5 := V5.call hb
  replace Kw := belI_call Kw hb
  clear hb u6
  obtain ⟨a0_0, a0_1, a0_2⟩ := a0.cells
  obtain ⟨V3_0, V3_1, V3_2⟩ := V3.cells
  obtain ⟨V5_0, V5_1, V5_2⟩ := V5.cells
  obtain ⟨V7_0, V7_1, V7_2⟩ := V7.cells
  go_wp2_with fail
  clear a0_0 a0_1 a0_2 V3_0 V3_1 V3_2 V5_0 V5_1 V5_2 V7_0 V7_1 V7_2
  refine (eqIm_same _ _ _ _ LR _ V7.rd V3.rd).mono ?_
  rintro e w7 ⟨rfl, hb⟩
  replace a0 := a0.call hb
  replace V3 := V3.call hb
  replace V5 := V5.call hb
  replace V7 := V7.call hb
  replace Kw := belI_call Kw hb
  clear hb
  obtain ⟨a0_0, a0_1, a0_2⟩ := a0.cells
  obtain ⟨V3_0, V3_1, V3_2⟩ := V3.cells
  obtain ⟨V5_0, V5_1, V5_2⟩ := V5.cells
  obtain ⟨V7_0, V7_1, V7_2⟩ := V7.cells
  go_upto_region 10 with fail
  clear a0_0 a0_1 a0_2 V3_0 V3_1 V3_2 V5_0 V5_1 V5_2 V7_0 V7_1 V7_2
  refine wp_region_held_drew (S := fun W => Below w7.heap.size w7 W) (by kernel_rfl) (Below.refl _ _).drew (fun hS => ?_)
  refine wpAnyH_take (i := 0) (v := .agg #[.int .i64 X0, .int .i64 Y0, .slice A_u4 L0.length c_u4]) rfl (by kernel_rfl) (by kernel_rfl) (by kernel_rfl) (fun _ _ _ h => h) (Or.inl ⟨by kernel_rfl, by intro w' hSw; (try dsimp only at hSw); (obtain ⟨a0_0, a0_1, a0_2⟩ := (a0.call hSw).cells); (obtain ⟨V3_0, V3_1, V3_2⟩ := (V3.call hSw).cells); (obtain ⟨V5_0, V5_1, V5_2⟩ := (V5.call hSw).cells); (obtain ⟨V7_0, V7_1, V7_2⟩ := (V7.call hSw).cells); go_simp⟩) (by assumption) ?_
  refine wpAnyH_take (i := 1) (v := .agg #[.int .i64 X0, .int .i64 Y0, .slice A0 L0.length c0]) rfl (by kernel_rfl) (by kernel_rfl) (by kernel_rfl) (fun _ _ _ h => h) (Or.inl ⟨by kernel_rfl, by intro w' hSw; (try dsimp only at hSw); (obtain ⟨a0_0, a0_1, a0_2⟩ := (a0.call hSw).cells); (obtain ⟨V3_0, V3_1, V3_2⟩ := (V3.call hSw).cells); (obtain ⟨V5_0, V5_1, V5_2⟩ := (V5.call hSw).cells); (obtain ⟨V7_0, V7_1, V7_2⟩ := (V7.call hSw).cells); go_simp⟩) (by assumption) ?_
  (try simp only [Act.put]); (try simp only [List.setIfInBounds_toArray]); (try simp only [List.set_cons_zero, List.set_cons_succ])
  refine wpAnyH_ready (rs := [2]) (by kernel_rfl) (by simp) ?_
  refine (AllReadyH.cons rfl (fun K hK => ?_) AllReadyH.nil)
  · rw [if_pos (by kernel_rfl)]
    (try simp only [List.getElem_toArray]); (try simp only [List.getElem_cons_succ]); (try simp only [List.getElem_cons_zero])
    go_simp
    with_reducible refine (toIm X0 Y0 _ L0 _ Hn0.out (a0.call hS).rd).mono ?_
    rintro e W' ⟨vo, rfl, u8, hb⟩
    obtain ⟨A_u8, c_u8, he⟩ := ownI_shape u8
    subst he
    dsimp only
    refine hK.out _ _ (belI_call hS hb) (fun hS => ?_)
    clear hK
    (try simp only [Act.put]); (try simp only [List.setIfInBounds_toArray]); (try simp only [List.set_cons_zero, List.set_cons_succ])
    refine wpAnyH_ready (rs := [3]) (by kernel_rfl) (by simp) ?_
    refine (AllReadyH.cons rfl (fun K hK => ?_) AllReadyH.nil)
    · rw [if_pos (by kernel_rfl)]
      (try simp only [List.getElem_toArray]); (try simp only [List.getElem_cons_succ]); (try simp only [List.getElem_cons_zero])
      go_simp
      with_reducible refine (eqIm_same _ _ _ _ L0 _ (V5.call hS).rd (RdI.of_own u8)).mono ?_
      rintro e W' ⟨rfl, hb⟩
      dsimp only
      have u8 := ownI_call u8 hb
      refine hK.out _ _ (belI_call hS hb) (fun hS => ?_)
      clear hK
      (try simp only [Act.put]); (try simp only [List.setIfInBounds_toArray]); (try simp only [List.set_cons_zero, List.set_cons_succ])
      refine wpAnyH_take (i := 4) (v := .bool false) rfl (by kernel_rfl) (by kernel_rfl) (by kernel_rfl) (fun _ _ _ h => h) (Or.inl ⟨by kernel_rfl, by intro w' hSw; (try dsimp only at hSw); (obtain ⟨a0_0, a0_1, a0_2⟩ := (a0.call hSw).cells); (obtain ⟨V3_0, V3_1, V3_2⟩ := (V3.call hSw).cells); (obtain ⟨V5_0, V5_1, V5_2⟩ := (V5.call hSw).cells); (obtain ⟨V7_0, V7_1, V7_2⟩ := (V7.call hSw).cells); go_simp⟩) (by assumption) ?_
      refine wpAnyH_done (by kernel_rfl) ?_ _
      have hb := hS
      replace a0 := a0.call hb
      replace V3 := V3.call hb
      replace V5 := V5.call hb
      replace V7 := V7.call hb
      replace Kw := belI_call Kw hb
      clear hb hS
      clear u8
      obtain ⟨w8, hWy⟩ : ∃ w8, w8 = W' := ⟨_, rfl⟩
      subst hWy
      obtain ⟨a0_0, a0_1, a0_2⟩ := a0.cells
      obtain ⟨V3_0, V3_1, V3_2⟩ := V3.cells
      obtain ⟨V5_0, V5_1, V5_2⟩ := V5.cells
      obtain ⟨V7_0, V7_1, V7_2⟩ := V7.cells
      go_wp2_with fail
      clear a0_0 a0_1 a0_2 V3_0 V3_1 V3_2 V5_0 V5_1 V5_2 V7_0 V7_1 V7_2
      refine (markImI _ X0 Y0 _ L0 (1) _ _ (by omega) (by omega) V5.own).mono ?_
      rintro e w9 ⟨rfl, hown, hg⟩
      replace Kw := belI_mark Kw V5 (by have := hlo_V5.out; omega) hg
      replace a0 : ImA _ _ _ _ _ _ := ⟨a0.at_.grown hg (fun e => by have := (V5.row _ e.symm).1; have := hl_a0_V5.out; omega), O0.out.call Kw⟩
      replace V3 := V3.other hg (fun k hk => by have := V5.row k hk; have := hs_V3_V5.out; omega)
      replace V7 := V7.other hg (fun k hk => by have := V5.row k hk; have := hs_V5_V7.out; omega)
      replace V5 := V5.mark hown (marksI_length _ _) hg
      clear hown hg
      have hk_w9 : ¬ ((1 + L0.length : Nat) : Int) < 0 := by omega
      obtain ⟨a0_0, a0_1, a0_2⟩ := a0.cells
      obtain ⟨V3_0, V3_1, V3_2⟩ := V3.cells
      obtain ⟨V5_0, V5_1, V5_2⟩ := V5.cells
      obtain ⟨V7_0, V7_1, V7_2⟩ := V7.cells
      go_wp2_with fail
      clear a0_0 a0_1 a0_2 V3_0 V3_1 V3_2 V5_0 V5_1 V5_2 V7_0 V7_1 V7_2
      refine (eqIm_same _ _ _ _ LR _ V7.rd V3.rd).mono ?_
      rintro e w10 ⟨rfl, hb⟩
      replace a0 := a0.call hb
      replace V3 := V3.call hb
      replace V5 := V5.call hb
      replace V7 := V7.call hb
      replace Kw := belI_call Kw hb
      clear hb
      obtain ⟨a0_0, a0_1, a0_2⟩ := a0.cells
      obtain ⟨V3_0, V3_1, V3_2⟩ := V3.cells
      obtain ⟨V5_0, V5_1, V5_2⟩ := V5.cells
      obtain ⟨V7_0, V7_1, V7_2⟩ := V7.cells
      go_wp2_with fail
      clear a0_0 a0_1 a0_2 V3_0 V3_1 V3_2 V5_0 V5_1 V5_2 V7_0 V7_1 V7_2
      refine (markImI _ XR YR _ LR (1) _ _ (by omega) (by omega) V7.own).mono ?_
      rintro e w11 ⟨rfl, hown, hg⟩
      replace Kw := belI_mark Kw V7 (by have := hlo_V7.out; omega) hg
      replace a0 : ImA _ _ _ _ _ _ := ⟨a0.at_.grown hg (fun e => by have := (V7.row _ e.symm).1; have := hl_a0_V7.out; omega), O0.out.call Kw⟩
      replace V3 := V3.other hg (fun k hk => by have := V7.row k hk; have := hs_V3_V7.out; omega)
      replace V5 := V5.other hg (fun k hk => by have := V7.row k hk; have := hs_V5_V7.out; omega)
      replace V7 := V7.mark hown (marksI_length _ _) hg
      clear hown hg
      have hk_w11 : ¬ ((1 + LR.length : Nat) : Int) < 0 := by omega
      obtain ⟨a0_0, a0_1, a0_2⟩ := a0.cells
      obtain ⟨V3_0, V3_1, V3_2⟩ := V3.cells
      obtain ⟨V5_0, V5_1, V5_2⟩ := V5.cells
      obtain ⟨V7_0, V7_1, V7_2⟩ := V7.cells
      go_wp2_with fail
      clear a0_0 a0_1 a0_2 V3_0 V3_1 V3_2 V5_0 V5_1 V5_2 V7_0 V7_1 V7_2
      refine (heldIm XR YR _ 1 LR.length _ (by omega) V7.rd).mono ?_
      rintro e w12 ⟨rfl, hb⟩
      replace a0 := a0.call hb
      replace V3 := V3.call hb
      replace V5 := V5.call hb
      replace V7 := V7.call hb
      replace Kw := belI_call Kw hb
      clear hb
      obtain ⟨a0_0, a0_1, a0_2⟩ := a0.cells
      obtain ⟨V3_0, V3_1, V3_2⟩ := V3.cells
      obtain ⟨V5_0, V5_1, V5_2⟩ := V5.cells
      obtain ⟨V7_0, V7_1, V7_2⟩ := V7.cells
      go_wp2_with fail
      clear a0_0 a0_1 a0_2 V3_0 V3_1 V3_2 V5_0 V5_1 V5_2 V7_0 V7_1 V7_2
      refine (toIm X0 Y0 _ L0 _ Hn0.out a0.rd).mono ?_
      rintro e w13 ⟨vo, rfl, u9, hb⟩
      obtain ⟨A_u9, c_u9, he⟩ := ownI_shape u9
      subst he
      replace a0 := a0.call hb
      replace V3 := V3.call hb
      replace V5 := V5.call hb
      replace V7 := V7.call hb
      replace Kw := belI_call Kw hb
      clear hb
      obtain ⟨a0_0, a0_1, a0_2⟩ := a0.cells
      obtain ⟨V3_0, V3_1, V3_2⟩ := V3.cells
      obtain ⟨V5_0, V5_1, V5_2⟩ := V5.cells
      obtain ⟨V7_0, V7_1, V7_2⟩ := V7.cells
      go_wp2_with fail
      clear a0_0 a0_1 a0_2 V3_0 V3_1 V3_2 V5_0 V5_1 V5_2 V7_0 V7_1 V7_2
      refine (HI.out _ _ (RdI.of_own u9)).mono ?_
      rintro e w14 ⟨vo, rfl, u10, hb⟩
      obtain ⟨A_u10, c_u10, he⟩ := ownI_shape u10
      subst he
      have hs_V3_V11 := Lib.hid V3.hs
      have hs_V5_V11 := Lib.hid V5.hs
      have hs_V7_V11 := Lib.hid V7.hs
      have hlo_V11 := Lib.hid Kw.size
      have hl_a0_V11 := Lib.hid a0.lt
      have V11 := ImV.born (X := XR) (Y := YR) hb u10
      replace hb := belI_call hb (belI_box w14 (.cells #[.int .i64 XR, .int .i64 YR, .slice A_u10 LR.length c_u10] 26))
      replace a0 := a0.call hb
      replace V3 := V3.call hb
      replace V5 := V5.call hb
      replace V7 := V7.call hb
      replace u9 := ownI_call u9 hb
      replace Kw := belI_call Kw hb
      clear hb u10
      clear u9
      obtain ⟨a0_0, a0_1, a0_2⟩ := a0.cells
      obtain ⟨V3_0, V3_1, V3_2⟩ := V3.cells
      obtain ⟨V5_0, V5_1, V5_2⟩ := V5.cells
      obtain ⟨V7_0, V7_1, V7_2⟩ := V7.cells
      obtain ⟨V11_0, V11_1, V11_2⟩ := V11.cells
      go_wp2_with fail
      clear a0_0 a0_1 a0_2 V3_0 V3_1 V3_2 V5_0 V5_1 V5_2 V7_0 V7_1 V7_2 V11_0 V11_1 V11_2
      refine (eqIm_same _ _ _ _ LR _ V11.rd V3.rd).mono ?_
      rintro e w15 ⟨rfl, hb⟩
      replace a0 := a0.call hb
      replace V3 := V3.call hb
      replace V5 := V5.call hb
      replace V7 := V7.call hb
      replace V11 := V11.call hb
      replace Kw := belI_call Kw hb
      clear hb
      obtain ⟨a0_0, a0_1, a0_2⟩ := a0.cells
      obtain ⟨V3_0, V3_1, V3_2⟩ := V3.cells
      obtain ⟨V5_0, V5_1, V5_2⟩ := V5.cells
      obtain ⟨V7_0, V7_1, V7_2⟩ := V7.cells
      obtain ⟨V11_0, V11_1, V11_2⟩ := V11.cells
      go_wp2_with fail
      clear a0_0 a0_1 a0_2 V3_0 V3_1 V3_2 V5_0 V5_1 V5_2 V7_0 V7_1 V7_2 V11_0 V11_1 V11_2
      refine (heldIm XR YR _ 1 LR.length _ (by omega) V7.rd).mono ?_
      rintro e w16 ⟨rfl, hb⟩
      replace a0 := a0.call hb
      replace V3 := V3.call hb
      replace V5 := V5.call hb
      replace V7 := V7.call hb
      replace V11 := V11.call hb
      replace Kw := belI_call Kw hb
      clear hb
      go_wp2_with fail
      go_ret
      exact ⟨rfl, Kw⟩
end Go.Proofs.Ytmjndoedchiggaa
