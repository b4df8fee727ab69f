/- The walk of the law FnExactCopyRegion: it returns true for every two images and every region. -/
import Derived.Test.YtmjndoedchiggaaMA
import Derived.Test.YtmjndoedchiggaaImR
import Derived.Test.YtmjndoedchiggaaImL
import Derived.Test.YtmjndoedchiggaaImN
import Derived.Test.YtmjndoedchiggaaImM
import Derived.Test.YtmjndoedchiggaaImD
import Derived.Test.YtmjndoedchiggaaImV
import Derived.Test.YtmjndoedchiggaaCpyB
import Derived.Test.YtmjndoedchiggaaCpyI
import Derived.Test.YtmjndoedchiggaaCpyJ
import Derived.Test.YtmjndoedchiggaaLaw
import Derived.Test.YtmjndoedchiggaaCpyS
import Derived.Test.YtmjndoedchiggaaProg
import Derived.WalkKit
import Derived.ProofKit
import Derived.OpenShut
import Derived.WalkLawsBesides
import Derived.WalkSpells
import Derived.ShutString
import Derived.ChangeOld
import Derived.Below
import Derived.Lib.Hide
import Derived.BigQuiet
import Derived.Deep.QuietTactic
import Derived.Maps.AppendAt
import Derived.Deep.OwnRows
import Derived.Handy
import Derived.Deep.Draws
import Derived.OwnWalk
import Derived.Deep.AppendLies
import Derived.Deep.LoopGhost
import Derived.Deep.Onto
import Derived.Deep.RegionHeld3
import Derived.Deep.DeepCutAuto
import Derived.Laws.BitsAllLaws
import Derived.Lib.QuoteBits
import Derived.Test.YtmjndoedchiggaaShelf
import Derived.Laws.CopyOwn
import Derived.Deep.RegionLaw
import Derived.Great.BuildSlice
import Derived.Deep.MidRow
import Derived.Deep.WholeRow
import Derived.Laws.AppendOwn
namespace Go.Proofs.Ytmjndoedchiggaa
open Go.RowKit
set_option maxHeartbeats 1000000 in
set_option maxRecDepth 10000 in
theorem walk_FnExactCopyRegion (X0 Y0 : Int) (v0 : Value) (L0 : List Int) (X1 Y1 : Int) (v1 : Value) (L1 : List Int) (v2 : Value) (G2 : List Rc) (w : World) (h0 : Rd w v0 L0.length (intCells L0)) (h1 : Rd w v1 L1.length (intCells L1)) (h2 : LdR w v2 G2) :
    Calls Try.prog 5 #[.agg #[.int .i64 X0, .int .i64 Y0, v0], .agg #[.int .i64 X1, .int .i64 Y1, v1], .agg #[v2]] w fun e w' => e = .returned (.bool true) ∧ Below w.heap.size w w' := by
  obtain ⟨A0, c0, rfl⟩ := h0.form
  have hm0 : L0.length ≤ maxLen := h0.len.2
  obtain ⟨A1, c1, rfl⟩ := h1.form
  have hm1 : L1.length ≤ maxLen := h1.len.2
  obtain ⟨A2, c2, rfl⟩ := h2.form
  have hm2 : G2.length ≤ maxLen := h2.1
  have O0 := Lib.hid h0
  have O1 := Lib.hid h1
  have O2 := Lib.hid h2
  have Kw := Below.refl w.heap.size w
  have hb0 := belI_box w (.cells #[.int .i64 X0, .int .i64 Y0, .slice A0 L0.length c0] 41)
  have a0 : ImA (w.heap.size) X0 Y0 (.slice A0 L0.length c0) L0 (w.alloc (.cells #[.int .i64 X0, .int .i64 Y0, .slice A0 L0.length c0] 41)) := ⟨ImAt.newAt (w := w) (by simp) _ _ _ _, (h0.call Kw).call hb0⟩
  replace Kw := belI_call Kw hb0
  clear hb0
  have hb1 := belI_box (w.alloc (.cells #[.int .i64 X0, .int .i64 Y0, .slice A0 L0.length c0] 41)) (.cells #[.int .i64 X1, .int .i64 Y1, .slice A1 L1.length c1] 41)
  replace a0 := a0.call hb1
  have a1 : ImA (w.heap.size + 1) X1 Y1 (.slice A1 L1.length c1) L1 ((w.alloc (.cells #[.int .i64 X0, .int .i64 Y0, .slice A0 L0.length c0] 41)).alloc (.cells #[.int .i64 X1, .int .i64 Y1, .slice A1 L1.length c1] 41)) := ⟨ImAt.newAt (w := (w.alloc (.cells #[.int .i64 X0, .int .i64 Y0, .slice A0 L0.length c0] 41))) (by simp) _ _ _ _, (h1.call Kw).call hb1⟩
  replace Kw := belI_call Kw hb1
  clear hb1
  have hb2 := belI_box ((w.alloc (.cells #[.int .i64 X0, .int .i64 Y0, .slice A0 L0.length c0] 41)).alloc (.cells #[.int .i64 X1, .int .i64 Y1, .slice A1 L1.length c1] 41)) (.cells #[.slice A2 G2.length c2] 50)
  replace a0 := a0.call hb2
  replace a1 := a1.call hb2
  have a2 : RgA (w.heap.size + 2) (.slice A2 G2.length c2) G2 (((w.alloc (.cells #[.int .i64 X0, .int .i64 Y0, .slice A0 L0.length c0] 41)).alloc (.cells #[.int .i64 X1, .int .i64 Y1, .slice A1 L1.length c1] 41)).alloc (.cells #[.slice A2 G2.length c2] 50)) := ⟨rg_new (w := ((w.alloc (.cells #[.int .i64 X0, .int .i64 Y0, .slice A0 L0.length c0] 41)).alloc (.cells #[.int .i64 X1, .int .i64 Y1, .slice A1 L1.length c1] 41))) (by simp) _, (h2.call Kw).call hb2⟩
  replace Kw := belI_call Kw hb2
  clear hb2
  obtain ⟨w0, hw0⟩ : ∃ w0, w0 = (((w.alloc (.cells #[.int .i64 X0, .int .i64 Y0, .slice A0 L0.length c0] 41)).alloc (.cells #[.int .i64 X1, .int .i64 Y1, .slice A1 L1.length c1] 41)).alloc (.cells #[.slice A2 G2.length c2] 50)) := ⟨_, rfl⟩
  rw [← hw0] at Kw a0 a1 a2
  have Hw := Lib.hid hw0
  clear hw0 h0 h1 h2
  by_cases g0 : L0.length ≤ 1048576
  rotate_left
  · have g' : ¬ L0.length ≤ 1048576 := g0
    obtain ⟨a0_0, a0_1, a0_2⟩ := a0.cells
    obtain ⟨a1_0, a1_1, a1_2⟩ := a1.cells
    have a2_0 := a2.cell
    go_enter Try.func5, Try.ntmps5
    go_wp2_with fail
    rw [← Hw.out]
    clear a0_0 a0_1 a0_2 a1_0 a1_1 a1_2 a2_0
    have q0 : (0 : Int) ≤ (1048576 : Int) := by omega
    have q1 : (1048576 : Int) < (L0.length : Int) := by omega
    refine (szIm_no X0 Y0 L0.length A0 c0 hm0 _ q0 q1 _).mono ?_
    rintro e w1 ⟨rfl, hb⟩
    replace a0 := a0.call hb
    replace a1 := a1.call hb
    replace a2 := a2.call hb
    replace Kw := belI_call Kw hb
    clear hb
    go_wp2_with fail
    go_ret
    exact ⟨rfl, Kw⟩
  by_cases g1 : L0.length + L1.length ≤ 1048576
  rotate_left
  · have g' : ¬ L0.length + L1.length ≤ 1048576 := g1
    obtain ⟨a0_0, a0_1, a0_2⟩ := a0.cells
    obtain ⟨a1_0, a1_1, a1_2⟩ := a1.cells
    have a2_0 := a2.cell
    go_enter Try.func5, Try.ntmps5
    go_wp2_with fail
    rw [← Hw.out]
    clear a0_0 a0_1 a0_2 a1_0 a1_1 a1_2 a2_0
    refine (szIm_yes X0 Y0 L0.length A0 c0 _ (by omega) (by omega) _).mono ?_
    rintro e w2 ⟨rfl, hb⟩
    replace a0 := a0.call hb
    replace a1 := a1.call hb
    replace a2 := a2.call hb
    replace Kw := belI_call Kw hb
    clear hb
    have z0 : ¬ ((1048576 : Int) - (L0.length : Int)) < 0 := by omega
    obtain ⟨a0_0, a0_1, a0_2⟩ := a0.cells
    obtain ⟨a1_0, a1_1, a1_2⟩ := a1.cells
    have a2_0 := a2.cell
    go_wp2_with fail
    clear a0_0 a0_1 a0_2 a1_0 a1_1 a1_2 a2_0
    have q0 : (0 : Int) ≤ ((1048576 : Int) - (L0.length : Int)) := by omega
    have q1 : ((1048576 : Int) - (L0.length : Int)) < (L1.length : Int) := by omega
    refine (szIm_no X1 Y1 L1.length A1 c1 hm1 _ q0 q1 _).mono ?_
    rintro e w3 ⟨rfl, hb⟩
    replace a0 := a0.call hb
    replace a1 := a1.call hb
    replace a2 := a2.call hb
    replace Kw := belI_call Kw hb
    clear hb
    go_wp2_with fail
    go_ret
    exact ⟨rfl, Kw⟩
  by_cases g2 : L0.length + L1.length + G2.length ≤ 1048576
  rotate_left
  · have g' : ¬ L0.length + L1.length + G2.length ≤ 1048576 := g2
    obtain ⟨a0_0, a0_1, a0_2⟩ := a0.cells
    obtain ⟨a1_0, a1_1, a1_2⟩ := a1.cells
    have a2_0 := a2.cell
    go_enter Try.func5, Try.ntmps5
    go_wp2_with fail
    rw [← Hw.out]
    clear a0_0 a0_1 a0_2 a1_0 a1_1 a1_2 a2_0
    refine (szIm_yes X0 Y0 L0.length A0 c0 _ (by omega) (by omega) _).mono ?_
    rintro e w4 ⟨rfl, hb⟩
    replace a0 := a0.call hb
    replace a1 := a1.call hb
    replace a2 := a2.call hb
    replace Kw := belI_call Kw hb
    clear hb
    have z0 : ¬ ((1048576 : Int) - (L0.length : Int)) < 0 := by omega
    obtain ⟨a0_0, a0_1, a0_2⟩ := a0.cells
    obtain ⟨a1_0, a1_1, a1_2⟩ := a1.cells
    have a2_0 := a2.cell
    go_wp2_with fail
    clear a0_0 a0_1 a0_2 a1_0 a1_1 a1_2 a2_0
    refine (szIm_yes X1 Y1 L1.length A1 c1 _ (by omega) (by omega) _).mono ?_
    rintro e w5 ⟨rfl, hb⟩
    replace a0 := a0.call hb
    replace a1 := a1.call hb
    replace a2 := a2.call hb
    replace Kw := belI_call Kw hb
    clear hb
    have z1 : ¬ (((1048576 : Int) - (L0.length : Int)) - (L1.length : Int)) < 0 := by omega
    obtain ⟨a0_0, a0_1, a0_2⟩ := a0.cells
    obtain ⟨a1_0, a1_1, a1_2⟩ := a1.cells
    have a2_0 := a2.cell
    go_wp2_with fail
    clear a0_0 a0_1 a0_2 a1_0 a1_1 a1_2 a2_0
    have q0 : (0 : Int) ≤ (((1048576 : Int) - (L0.length : Int)) - (L1.length : Int)) := by omega
    have q1 : (((1048576 : Int) - (L0.length : Int)) - (L1.length : Int)) < (G2.length : Int) := by omega
    refine (szRg_no G2.length A2 c2 hm2 _ q0 q1 _).mono ?_
    rintro e w6 ⟨rfl, hb⟩
    replace a0 := a0.call hb
    replace a1 := a1.call hb
    replace a2 := a2.call hb
    replace Kw := belI_call Kw hb
    clear hb
    go_wp2_with fail
    go_ret
    exact ⟨rfl, Kw⟩
  have n0 : L0.length ≤ 1048576 := by omega
  have n1 : L1.length ≤ 1048576 := by omega
  have n2 : G2.length ≤ 1048576 := by omega
  have Hn0 := Lib.hid n0
  have Hn1 := Lib.hid n1
  have Hn2 := Lib.hid n2
  obtain ⟨XR, YR, LR, hR, hlR⟩ : ∃ X Y L, copyIm X0 Y0 L0 X1 Y1 L1 G2 = ⟨X, Y, L⟩ ∧ L.length ≤ 4194304 := ⟨_, _, _, rfl, (by show (copyIm X0 Y0 L0 X1 Y1 L1 G2).d.length ≤ _; rw [copy_len]; omega)⟩
  have PS := fun (W : World) u0 k0 u1 k1 u2 k2 => copyS_any X0 Y0 u0 L0 X1 Y1 u1 L1 u2 G2 W (Nat.le_trans n0 (by omega)) k0 k1 k2
  have PI := fun (W : World) u0 k0 u1 k1 u2 k2 => copyI_any X0 Y0 u0 L0 X1 Y1 u1 L1 u2 G2 W (Nat.le_trans n0 (by omega)) k0 k1 k2
  unfold AnsIm at PS PI
  rw [hR] at PS PI
  dsimp only at PS PI
  have HS := Lib.hid PS
  have HI := Lib.hid PI
  clear PS PI hR
  obtain ⟨a0_0, a0_1, a0_2⟩ := a0.cells
  obtain ⟨a1_0, a1_1, a1_2⟩ := a1.cells
  have a2_0 := a2.cell
  go_enter Try.func5, Try.ntmps5
  go_wp2_with fail
  rw [← Hw.out]
  clear a0_0 a0_1 a0_2 a1_0 a1_1 a1_2 a2_0
  refine (szIm_yes X0 Y0 L0.length A0 c0 _ (by omega) (by omega) _).mono ?_
  rintro e w7 ⟨rfl, hb⟩
  replace a0 := a0.call hb
  replace a1 := a1.call hb
  replace a2 := a2.call hb
  replace Kw := belI_call Kw hb
  clear hb
  have z0 : ¬ ((1048576 : Int) - (L0.length : Int)) < 0 := by omega
  obtain ⟨a0_0, a0_1, a0_2⟩ := a0.cells
  obtain ⟨a1_0, a1_1, a1_2⟩ := a1.cells
  have a2_0 := a2.cell
  go_wp2_with fail
  clear a0_0 a0_1 a0_2 a1_0 a1_1 a1_2 a2_0
  refine (szIm_yes X1 Y1 L1.length A1 c1 _ (by omega) (by omega) _).mono ?_
  rintro e w8 ⟨rfl, hb⟩
  replace a0 := a0.call hb
  replace a1 := a1.call hb
  replace a2 := a2.call hb
  replace Kw := belI_call Kw hb
  clear hb
  have z1 : ¬ (((1048576 : Int) - (L0.length : Int)) - (L1.length : Int)) < 0 := by omega
  obtain ⟨a0_0, a0_1, a0_2⟩ := a0.cells
  obtain ⟨a1_0, a1_1, a1_2⟩ := a1.cells
  have a2_0 := a2.cell
  go_wp2_with fail
  clear a0_0 a0_1 a0_2 a1_0 a1_1 a1_2 a2_0
  refine (szRg_yes G2.length A2 c2 _ (by omega) (by omega) _).mono ?_
  rintro e w9 ⟨rfl, hb⟩
  replace a0 := a0.call hb
  replace a1 := a1.call hb
  replace a2 := a2.call hb
  replace Kw := belI_call Kw hb
  clear hb
  have z2 : ¬ ((((1048576 : Int) - (L0.length : Int)) - (L1.length : Int)) - (G2.length : Int)) < 0 := by omega
  have neg1 : ¬ ((1 + LR.length : Nat) : Int) < 0 := by omega
  obtain ⟨a0_0, a0_1, a0_2⟩ := a0.cells
  obtain ⟨a1_0, a1_1, a1_2⟩ := a1.cells
  have a2_0 := a2.cell
  go_upto_region 11 with fail
  clear a0_0 a0_1 a0_2 a1_0 a1_1 a1_2 a2_0
  go_cut [8] (fun s8 wx => ∃ (b hi : Nat) (A : Option Addr) (c : Nat), s8 = .pointer (some ⟨b, 0, none⟩) ∧ ImV w9.heap.size hi b XR YR (.slice A LR.length c) LR wx ∧ Below w9.heap.size w9 wx)
  case first =>
    refine wp_region_held_drew (S := fun W => Below w9.heap.size w9 W) (by kernel_rfl) (Below.refl _ _).drew (fun hS => ?_)
    refine wpAnyH_take (i := 0) (v := .agg #[.int .i64 X0, .int .i64 Y0, .slice A0 L0.length c0]) rfl (by kernel_rfl) (by kernel_rfl) (by kernel_rfl) (fun _ _ _ h => h) (Or.inl ⟨by kernel_rfl, by intro w' hSw; (try dsimp only at hSw); (obtain ⟨a0_0, a0_1, a0_2⟩ := (a0.call hSw).cells); (obtain ⟨a1_0, a1_1, a1_2⟩ := (a1.call hSw).cells); (have a2_0 := (a2.call hSw).cell); go_simp⟩) (by assumption) ?_
    refine wpAnyH_take (i := 2) (v := .agg #[.int .i64 X1, .int .i64 Y1, .slice A1 L1.length c1]) rfl (by kernel_rfl) (by kernel_rfl) (by kernel_rfl) (fun _ _ _ h => h) (Or.inl ⟨by kernel_rfl, by intro w' hSw; (try dsimp only at hSw); (obtain ⟨a0_0, a0_1, a0_2⟩ := (a0.call hSw).cells); (obtain ⟨a1_0, a1_1, a1_2⟩ := (a1.call hSw).cells); (have a2_0 := (a2.call hSw).cell); go_simp⟩) (by assumption) ?_
    refine wpAnyH_take (i := 4) (v := .agg #[.slice A2 G2.length c2]) rfl (by kernel_rfl) (by kernel_rfl) (by kernel_rfl) (fun _ _ _ h => h) (Or.inl ⟨by kernel_rfl, by intro w' hSw; (try dsimp only at hSw); (obtain ⟨a0_0, a0_1, a0_2⟩ := (a0.call hSw).cells); (obtain ⟨a1_0, a1_1, a1_2⟩ := (a1.call hSw).cells); (have a2_0 := (a2.call hSw).cell); go_simp⟩) (by assumption) ?_
    (try simp only [Act.put]); (try simp only [List.setIfInBounds_toArray]); (try simp only [List.set_cons_zero, List.set_cons_succ])
    refine wpAnyH_ready (rs := [1, 7]) (by kernel_rfl) (by simp) ?_
    refine (AllReadyH.cons rfl (fun K hK => ?_) (AllReadyH.cons rfl (fun K hK => ?_) AllReadyH.nil))
    · rw [if_pos (by kernel_rfl)]
      (try simp only [List.getElem_toArray]); (try simp only [List.getElem_cons_succ]); (try simp only [List.getElem_cons_zero])
      go_simp
      with_reducible refine (toIm X0 Y0 _ L0 _ Hn0.out (a0.call hS).rd).mono ?_
      rintro e W' ⟨vo, rfl, u1, hb⟩
      obtain ⟨A_u1, c_u1, he⟩ := ownI_shape u1
      subst he
      dsimp only
      refine hK.out _ _ (belI_call hS hb) (fun hS => ?_)
      clear hK
      (try simp only [Act.put]); (try simp only [List.setIfInBounds_toArray]); (try simp only [List.set_cons_zero, List.set_cons_succ])
      refine wpAnyH_ready (rs := [3, 7]) (by kernel_rfl) (by simp) ?_
      refine (AllReadyH.cons rfl (fun K hK => ?_) (AllReadyH.cons rfl (fun K hK => ?_) AllReadyH.nil))
      · rw [if_pos (by kernel_rfl)]
        (try simp only [List.getElem_toArray]); (try simp only [List.getElem_cons_succ]); (try simp only [List.getElem_cons_zero])
        go_simp
        with_reducible refine (toIm X1 Y1 _ L1 _ Hn1.out (a1.call hS).rd).mono ?_
        rintro e W' ⟨vo, rfl, u2, hb⟩
        obtain ⟨A_u2, c_u2, he⟩ := ownI_shape u2
        subst he
        dsimp only
        have u1 := ownI_call u1 hb
        refine hK.out _ _ (belI_call hS hb) (fun hS => ?_)
        clear hK
        (try simp only [Act.put]); (try simp only [List.setIfInBounds_toArray]); (try simp only [List.set_cons_zero, List.set_cons_succ])
        refine wpAnyH_ready (rs := [5, 7]) (by kernel_rfl) (by simp) ?_
        refine (AllReadyH.cons rfl (fun K hK => ?_) (AllReadyH.cons rfl (fun K hK => ?_) AllReadyH.nil))
        · rw [if_pos (by kernel_rfl)]
          (try simp only [List.getElem_toArray]); (try simp only [List.getElem_cons_succ]); (try simp only [List.getElem_cons_zero])
          go_simp
          with_reducible refine (toRg _ G2 _ Hn2.out (a2.call hS).rd).mono ?_
          rintro e W' ⟨vo, rfl, u3, hb⟩
          obtain ⟨A_u3, c_u3, he⟩ := own_shape u3
          subst he
          dsimp only
          have u1 := ownI_call u1 hb
          have u2 := ownI_call u2 hb
          refine hK.out _ _ (belI_call hS hb) (fun hS => ?_)
          clear hK
          (try simp only [Act.put]); (try simp only [List.setIfInBounds_toArray]); (try simp only [List.set_cons_zero, List.set_cons_succ])
          refine wpAnyH_ready (rs := [6, 7]) (by kernel_rfl) (by simp) ?_
          refine (AllReadyH.cons rfl (fun K hK => ?_) (AllReadyH.cons rfl (fun K hK => ?_) AllReadyH.nil))
          · rw [if_pos (by kernel_rfl)]
            (try simp only [List.getElem_toArray]); (try simp only [List.getElem_cons_succ]); (try simp only [List.getElem_cons_zero])
            go_simp
            with_reducible refine (HS.out _ _ (RdI.of_own u1) _ (RdI.of_own u2) _ (RdR.of_own u3)).mono ?_
            rintro e W' ⟨vo, rfl, u4, hb⟩
            obtain ⟨A_u4, c_u4, he⟩ := ownI_shape u4
            subst he
            replace u4 := u4.mono hS.size
            dsimp only
            have u1 := ownI_call u1 hb
            have u2 := ownI_call u2 hb
            have u3 := ownI_call u3 hb
            refine hK.out _ _ (belI_call hS hb) (fun hS => ?_)
            clear hK
            (try simp only [Act.put]); (try simp only [List.setIfInBounds_toArray]); (try simp only [List.set_cons_zero, List.set_cons_succ])
            refine wpAnyH_ready (rs := [7]) (by kernel_rfl) (by simp) ?_
            refine (AllReadyH.cons rfl (fun K hK => ?_) AllReadyH.nil)
            · rw [if_pos (by kernel_rfl)]
              (try simp only [List.getElem_toArray]); (try simp only [List.getElem_cons_succ]); (try simp only [List.getElem_cons_zero])
              refine wp_alloc_im 26 zero26 8 rfl rfl ?_
              intro bB W' hb GB lB
              have kB := Nat.le_trans hS.size lB
              have nB : ∀ k, (Value.slice A_u4 LR.length c_u4).ownBlock = some k → k ≠ bB := fun k hk => by have := (u4.lt k hk).2; omega
              have u1 := ownI_call u1 hb
              have u2 := ownI_call u2 hb
              have u3 := ownI_call u3 hb
              have u4 := ownI_call u4 hb
              refine hK.out _ _ (belI_call hS hb) (fun hS => ?_)
              clear hK
              (try simp only [Act.put]); (try simp only [List.setIfInBounds_toArray]); (try simp only [List.set_cons_zero, List.set_cons_succ])
              refine wpAnyH_ready (rs := [8]) (by kernel_rfl) (by simp) ?_
              refine (AllReadyH.cons rfl (fun K hK => ?_) AllReadyH.nil)
              · rw [if_pos (by kernel_rfl)]
                (try simp only [List.getElem_toArray]); (try simp only [List.getElem_cons_succ]); (try simp only [List.getElem_cons_zero])
                refine wp_store_im 26 size26 (.tmp 8) (.tmp 38) rfl bB 0 0 (.slice none 0 0) XR YR A_u4 LR.length c_u4 rfl rfl GB ?_
                intro W3 IB hgB
                skip
                skip
                skip
                replace u4 := u4.kept hgB (ownA_ne nB)
                skip
                refine hK.out _ _ (hS.grown hgB hS.size (fun k hk => by injection hk with hk; omega)) (fun hS => ?_)
                clear hK
                (try simp only [Act.put]); (try simp only [List.setIfInBounds_toArray]); (try simp only [List.set_cons_zero, List.set_cons_succ])
                refine wpAnyH_done (by kernel_rfl) ?_ _
                go_wp2_with fail
                go_meet
                case rel => exact ⟨bB, _, _, _, rfl, ImV.made IB u4 kB nB, hS⟩
          · rw [if_pos (by kernel_rfl)]
            (try simp only [List.getElem_toArray]); (try simp only [List.getElem_cons_succ]); (try simp only [List.getElem_cons_zero])
            refine wp_alloc_im 26 zero26 8 rfl rfl ?_
            intro bB W' hb GB lB
            have kB := Nat.le_trans hS.size lB
            have u1 := ownI_call u1 hb
            have u2 := ownI_call u2 hb
            have u3 := ownI_call u3 hb
            refine hK.out _ _ (belI_call hS hb) (fun hS => ?_)
            clear hK
            (try simp only [Act.put]); (try simp only [List.setIfInBounds_toArray]); (try simp only [List.set_cons_zero, List.set_cons_succ])
            refine wpAnyH_ready (rs := [6]) (by kernel_rfl) (by simp) ?_
            refine (AllReadyH.cons rfl (fun K hK => ?_) AllReadyH.nil)
            · rw [if_pos (by kernel_rfl)]
              (try simp only [List.getElem_toArray]); (try simp only [List.getElem_cons_succ]); (try simp only [List.getElem_cons_zero])
              go_simp
              with_reducible refine (HS.out _ _ (RdI.of_own u1) _ (RdI.of_own u2) _ (RdR.of_own u3)).mono ?_
              rintro e W' ⟨vo, rfl, u4, hb⟩
              obtain ⟨A_u4, c_u4, he⟩ := ownI_shape u4
              subst he
              have nB : ∀ k, (Value.slice A_u4 LR.length c_u4).ownBlock = some k → k ≠ bB := fun k hk => by have := (u4.lt k hk).1; have := (Array.getElem?_eq_some_iff.1 GB).1; omega
              replace u4 := u4.mono hS.size
              dsimp only
              have u1 := ownI_call u1 hb
              have u2 := ownI_call u2 hb
              have u3 := ownI_call u3 hb
              have GB := blk_call GB hb
              refine hK.out _ _ (belI_call hS hb) (fun hS => ?_)
              clear hK
              (try simp only [Act.put]); (try simp only [List.setIfInBounds_toArray]); (try simp only [List.set_cons_zero, List.set_cons_succ])
              refine wpAnyH_ready (rs := [8]) (by kernel_rfl) (by simp) ?_
              refine (AllReadyH.cons rfl (fun K hK => ?_) AllReadyH.nil)
              · rw [if_pos (by kernel_rfl)]
                (try simp only [List.getElem_toArray]); (try simp only [List.getElem_cons_succ]); (try simp only [List.getElem_cons_zero])
                refine wp_store_im 26 size26 (.tmp 8) (.tmp 38) rfl bB 0 0 (.slice none 0 0) XR YR A_u4 LR.length c_u4 rfl rfl GB ?_
                intro W3 IB hgB
                skip
                skip
                skip
                skip
                replace u4 := u4.kept hgB (ownA_ne nB)
                refine hK.out _ _ (hS.grown hgB hS.size (fun k hk => by injection hk with hk; omega)) (fun hS => ?_)
                clear hK
                (try simp only [Act.put]); (try simp only [List.setIfInBounds_toArray]); (try simp only [List.set_cons_zero, List.set_cons_succ])
                refine wpAnyH_done (by kernel_rfl) ?_ _
                go_wp2_with fail
                go_meet
                case rel => exact ⟨bB, _, _, _, rfl, ImV.made IB u4 kB nB, hS⟩
        · rw [if_pos (by kernel_rfl)]
          (try simp only [List.getElem_toArray]); (try simp only [List.getElem_cons_succ]); (try simp only [List.getElem_cons_zero])
          refine wp_alloc_im 26 zero26 8 rfl rfl ?_
          intro bB W' hb GB lB
          have kB := Nat.le_trans hS.size lB
          have u1 := ownI_call u1 hb
          have u2 := ownI_call u2 hb
          refine hK.out _ _ (belI_call hS hb) (fun hS => ?_)
          clear hK
          (try simp only [Act.put]); (try simp only [List.setIfInBounds_toArray]); (try simp only [List.set_cons_zero, List.set_cons_succ])
          refine wpAnyH_ready (rs := [5]) (by kernel_rfl) (by simp) ?_
          refine (AllReadyH.cons rfl (fun K hK => ?_) AllReadyH.nil)
          · rw [if_pos (by kernel_rfl)]
            (try simp only [List.getElem_toArray]); (try simp only [List.getElem_cons_succ]); (try simp only [List.getElem_cons_zero])
            go_simp
            with_reducible refine (toRg _ G2 _ Hn2.out (a2.call hS).rd).mono ?_
            rintro e W' ⟨vo, rfl, u3, hb⟩
            obtain ⟨A_u3, c_u3, he⟩ := own_shape u3
            subst he
            dsimp only
            have u1 := ownI_call u1 hb
            have u2 := ownI_call u2 hb
            have GB := blk_call GB hb
            refine hK.out _ _ (belI_call hS hb) (fun hS => ?_)
            clear hK
            (try simp only [Act.put]); (try simp only [List.setIfInBounds_toArray]); (try simp only [List.set_cons_zero, List.set_cons_succ])
            refine wpAnyH_ready (rs := [6]) (by kernel_rfl) (by simp) ?_
            refine (AllReadyH.cons rfl (fun K hK => ?_) AllReadyH.nil)
            · rw [if_pos (by kernel_rfl)]
              (try simp only [List.getElem_toArray]); (try simp only [List.getElem_cons_succ]); (try simp only [List.getElem_cons_zero])
              go_simp
              with_reducible refine (HS.out _ _ (RdI.of_own u1) _ (RdI.of_own u2) _ (RdR.of_own u3)).mono ?_
              rintro e W' ⟨vo, rfl, u4, hb⟩
              obtain ⟨A_u4, c_u4, he⟩ := ownI_shape u4
              subst he
              have nB : ∀ k, (Value.slice A_u4 LR.length c_u4).ownBlock = some k → k ≠ bB := fun k hk => by have := (u4.lt k hk).1; have := (Array.getElem?_eq_some_iff.1 GB).1; omega
              replace u4 := u4.mono hS.size
              dsimp only
              have u1 := ownI_call u1 hb
              have u2 := ownI_call u2 hb
              have GB := blk_call GB hb
              have u3 := ownI_call u3 hb
              refine hK.out _ _ (belI_call hS hb) (fun hS => ?_)
              clear hK
              (try simp only [Act.put]); (try simp only [List.setIfInBounds_toArray]); (try simp only [List.set_cons_zero, List.set_cons_succ])
              refine wpAnyH_ready (rs := [8]) (by kernel_rfl) (by simp) ?_
              refine (AllReadyH.cons rfl (fun K hK => ?_) AllReadyH.nil)
              · rw [if_pos (by kernel_rfl)]
                (try simp only [List.getElem_toArray]); (try simp only [List.getElem_cons_succ]); (try simp only [List.getElem_cons_zero])
                refine wp_store_im 26 size26 (.tmp 8) (.tmp 38) rfl bB 0 0 (.slice none 0 0) XR YR A_u4 LR.length c_u4 rfl rfl GB ?_
                intro W3 IB hgB
                skip
                skip
                skip
                skip
                replace u4 := u4.kept hgB (ownA_ne nB)
                refine hK.out _ _ (hS.grown hgB hS.size (fun k hk => by injection hk with hk; omega)) (fun hS => ?_)
                clear hK
                (try simp only [Act.put]); (try simp only [List.setIfInBounds_toArray]); (try simp only [List.set_cons_zero, List.set_cons_succ])
                refine wpAnyH_done (by kernel_rfl) ?_ _
                go_wp2_with fail
                go_meet
                case rel => exact ⟨bB, _, _, _, rfl, ImV.made IB u4 kB nB, hS⟩
      · rw [if_pos (by kernel_rfl)]
        (try simp only [List.getElem_toArray]); (try simp only [List.getElem_cons_succ]); (try simp only [List.getElem_cons_zero])
        refine wp_alloc_im 26 zero26 8 rfl rfl ?_
        intro bB W' hb GB lB
        have kB := Nat.le_trans hS.size lB
        have u1 := ownI_call u1 hb
        refine hK.out _ _ (belI_call hS hb) (fun hS => ?_)
        clear hK
        (try simp only [Act.put]); (try simp only [List.setIfInBounds_toArray]); (try simp only [List.set_cons_zero, List.set_cons_succ])
        refine wpAnyH_ready (rs := [3]) (by kernel_rfl) (by simp) ?_
        refine (AllReadyH.cons rfl (fun K hK => ?_) AllReadyH.nil)
        · rw [if_pos (by kernel_rfl)]
          (try simp only [List.getElem_toArray]); (try simp only [List.getElem_cons_succ]); (try simp only [List.getElem_cons_zero])
          go_simp
          with_reducible refine (toIm X1 Y1 _ L1 _ Hn1.out (a1.call hS).rd).mono ?_
          rintro e W' ⟨vo, rfl, u2, hb⟩
          obtain ⟨A_u2, c_u2, he⟩ := ownI_shape u2
          subst he
          dsimp only
          have u1 := ownI_call u1 hb
          have GB := blk_call GB hb
          refine hK.out _ _ (belI_call hS hb) (fun hS => ?_)
          clear hK
          (try simp only [Act.put]); (try simp only [List.setIfInBounds_toArray]); (try simp only [List.set_cons_zero, List.set_cons_succ])
          refine wpAnyH_ready (rs := [5]) (by kernel_rfl) (by simp) ?_
          refine (AllReadyH.cons rfl (fun K hK => ?_) AllReadyH.nil)
          · rw [if_pos (by kernel_rfl)]
            (try simp only [List.getElem_toArray]); (try simp only [List.getElem_cons_succ]); (try simp only [List.getElem_cons_zero])
            go_simp
            with_reducible refine (toRg _ G2 _ Hn2.out (a2.call hS).rd).mono ?_
            rintro e W' ⟨vo, rfl, u3, hb⟩
            obtain ⟨A_u3, c_u3, he⟩ := own_shape u3
            subst he
            dsimp only
            have u1 := ownI_call u1 hb
            have GB := blk_call GB hb
            have u2 := ownI_call u2 hb
            refine hK.out _ _ (belI_call hS hb) (fun hS => ?_)
            clear hK
            (try simp only [Act.put]); (try simp only [List.setIfInBounds_toArray]); (try simp only [List.set_cons_zero, List.set_cons_succ])
            refine wpAnyH_ready (rs := [6]) (by kernel_rfl) (by simp) ?_
            refine (AllReadyH.cons rfl (fun K hK => ?_) AllReadyH.nil)
            · rw [if_pos (by kernel_rfl)]
              (try simp only [List.getElem_toArray]); (try simp only [List.getElem_cons_succ]); (try simp only [List.getElem_cons_zero])
              go_simp
              with_reducible refine (HS.out _ _ (RdI.of_own u1) _ (RdI.of_own u2) _ (RdR.of_own u3)).mono ?_
              rintro e W' ⟨vo, rfl, u4, hb⟩
              obtain ⟨A_u4, c_u4, he⟩ := ownI_shape u4
              subst he
              have nB : ∀ k, (Value.slice A_u4 LR.length c_u4).ownBlock = some k → k ≠ bB := fun k hk => by have := (u4.lt k hk).1; have := (Array.getElem?_eq_some_iff.1 GB).1; omega
              replace u4 := u4.mono hS.size
              dsimp only
              have u1 := ownI_call u1 hb
              have GB := blk_call GB hb
              have u2 := ownI_call u2 hb
              have u3 := ownI_call u3 hb
              refine hK.out _ _ (belI_call hS hb) (fun hS => ?_)
              clear hK
              (try simp only [Act.put]); (try simp only [List.setIfInBounds_toArray]); (try simp only [List.set_cons_zero, List.set_cons_succ])
              refine wpAnyH_ready (rs := [8]) (by kernel_rfl) (by simp) ?_
              refine (AllReadyH.cons rfl (fun K hK => ?_) AllReadyH.nil)
              · rw [if_pos (by kernel_rfl)]
                (try simp only [List.getElem_toArray]); (try simp only [List.getElem_cons_succ]); (try simp only [List.getElem_cons_zero])
                refine wp_store_im 26 size26 (.tmp 8) (.tmp 38) rfl bB 0 0 (.slice none 0 0) XR YR A_u4 LR.length c_u4 rfl rfl GB ?_
                intro W3 IB hgB
                skip
                skip
                skip
                skip
                replace u4 := u4.kept hgB (ownA_ne nB)
                refine hK.out _ _ (hS.grown hgB hS.size (fun k hk => by injection hk with hk; omega)) (fun hS => ?_)
                clear hK
                (try simp only [Act.put]); (try simp only [List.setIfInBounds_toArray]); (try simp only [List.set_cons_zero, List.set_cons_succ])
                refine wpAnyH_done (by kernel_rfl) ?_ _
                go_wp2_with fail
                go_meet
                case rel => exact ⟨bB, _, _, _, rfl, ImV.made IB u4 kB nB, hS⟩
    · rw [if_pos (by kernel_rfl)]
      (try simp only [List.getElem_toArray]); (try simp only [List.getElem_cons_succ]); (try simp only [List.getElem_cons_zero])
      refine wp_alloc_im 26 zero26 8 rfl rfl ?_
      intro bB W' hb GB lB
      have kB := Nat.le_trans hS.size lB
      refine hK.out _ _ (belI_call hS hb) (fun hS => ?_)
      clear hK
      (try simp only [Act.put]); (try simp only [List.setIfInBounds_toArray]); (try simp only [List.set_cons_zero, List.set_cons_succ])
      refine wpAnyH_ready (rs := [1]) (by kernel_rfl) (by simp) ?_
      refine (AllReadyH.cons rfl (fun K hK => ?_) AllReadyH.nil)
      · rw [if_pos (by kernel_rfl)]
        (try simp only [List.getElem_toArray]); (try simp only [List.getElem_cons_succ]); (try simp only [List.getElem_cons_zero])
        go_simp
        with_reducible refine (toIm X0 Y0 _ L0 _ Hn0.out (a0.call hS).rd).mono ?_
        rintro e W' ⟨vo, rfl, u1, hb⟩
        obtain ⟨A_u1, c_u1, he⟩ := ownI_shape u1
        subst he
        dsimp only
        have GB := blk_call GB hb
        refine hK.out _ _ (belI_call hS hb) (fun hS => ?_)
        clear hK
        (try simp only [Act.put]); (try simp only [List.setIfInBounds_toArray]); (try simp only [List.set_cons_zero, List.set_cons_succ])
        refine wpAnyH_ready (rs := [3]) (by kernel_rfl) (by simp) ?_
        refine (AllReadyH.cons rfl (fun K hK => ?_) AllReadyH.nil)
        · rw [if_pos (by kernel_rfl)]
          (try simp only [List.getElem_toArray]); (try simp only [List.getElem_cons_succ]); (try simp only [List.getElem_cons_zero])
          go_simp
          with_reducible refine (toIm X1 Y1 _ L1 _ Hn1.out (a1.call hS).rd).mono ?_
          rintro e W' ⟨vo, rfl, u2, hb⟩
          obtain ⟨A_u2, c_u2, he⟩ := ownI_shape u2
          subst he
          dsimp only
          have GB := blk_call GB hb
          have u1 := ownI_call u1 hb
          refine hK.out _ _ (belI_call hS hb) (fun hS => ?_)
          clear hK
          (try simp only [Act.put]); (try simp only [List.setIfInBounds_toArray]); (try simp only [List.set_cons_zero, List.set_cons_succ])
          refine wpAnyH_ready (rs := [5]) (by kernel_rfl) (by simp) ?_
          refine (AllReadyH.cons rfl (fun K hK => ?_) AllReadyH.nil)
          · rw [if_pos (by kernel_rfl)]
            (try simp only [List.getElem_toArray]); (try simp only [List.getElem_cons_succ]); (try simp only [List.getElem_cons_zero])
            go_simp
            with_reducible refine (toRg _ G2 _ Hn2.out (a2.call hS).rd).mono ?_
            rintro e W' ⟨vo, rfl, u3, hb⟩
            obtain ⟨A_u3, c_u3, he⟩ := own_shape u3
            subst he
            dsimp only
            have GB := blk_call GB hb
            have u1 := ownI_call u1 hb
            have u2 := ownI_call u2 hb
            refine hK.out _ _ (belI_call hS hb) (fun hS => ?_)
            clear hK
            (try simp only [Act.put]); (try simp only [List.setIfInBounds_toArray]); (try simp only [List.set_cons_zero, List.set_cons_succ])
            refine wpAnyH_ready (rs := [6]) (by kernel_rfl) (by simp) ?_
            refine (AllReadyH.cons rfl (fun K hK => ?_) AllReadyH.nil)
            · rw [if_pos (by kernel_rfl)]
              (try simp only [List.getElem_toArray]); (try simp only [List.getElem_cons_succ]); (try simp only [List.getElem_cons_zero])
              go_simp
              with_reducible refine (HS.out _ _ (RdI.of_own u1) _ (RdI.of_own u2) _ (RdR.of_own u3)).mono ?_
              rintro e W' ⟨vo, rfl, u4, hb⟩
              obtain ⟨A_u4, c_u4, he⟩ := ownI_shape u4
              subst he
              have nB : ∀ k, (Value.slice A_u4 LR.length c_u4).ownBlock = some k → k ≠ bB := fun k hk => by have := (u4.lt k hk).1; have := (Array.getElem?_eq_some_iff.1 GB).1; omega
              replace u4 := u4.mono hS.size
              dsimp only
              have GB := blk_call GB hb
              have u1 := ownI_call u1 hb
              have u2 := ownI_call u2 hb
              have u3 := ownI_call u3 hb
              refine hK.out _ _ (belI_call hS hb) (fun hS => ?_)
              clear hK
              (try simp only [Act.put]); (try simp only [List.setIfInBounds_toArray]); (try simp only [List.set_cons_zero, List.set_cons_succ])
              refine wpAnyH_ready (rs := [8]) (by kernel_rfl) (by simp) ?_
              refine (AllReadyH.cons rfl (fun K hK => ?_) AllReadyH.nil)
              · rw [if_pos (by kernel_rfl)]
                (try simp only [List.getElem_toArray]); (try simp only [List.getElem_cons_succ]); (try simp only [List.getElem_cons_zero])
                refine wp_store_im 26 size26 (.tmp 8) (.tmp 38) rfl bB 0 0 (.slice none 0 0) XR YR A_u4 LR.length c_u4 rfl rfl GB ?_
                intro W3 IB hgB
                skip
                skip
                skip
                skip
                replace u4 := u4.kept hgB (ownA_ne nB)
                refine hK.out _ _ (hS.grown hgB hS.size (fun k hk => by injection hk with hk; omega)) (fun hS => ?_)
                clear hK
                (try simp only [Act.put]); (try simp only [List.setIfInBounds_toArray]); (try simp only [List.set_cons_zero, List.set_cons_succ])
                refine wpAnyH_done (by kernel_rfl) ?_ _
                go_wp2_with fail
                go_meet
                case rel => exact ⟨bB, _, _, _, rfl, ImV.made IB u4 kB nB, hS⟩
  case rest =>
    obtain ⟨b_V5, hi_V5, A_V5, c_V5, rfl, V5, hb⟩ := hcut
    obtain ⟨w10, hWy⟩ : ∃ w10, w10 = wc := ⟨_, rfl⟩
    subst hWy
    have hlo_V5 := Lib.hid Kw.size
    have hl_a0_V5 := Lib.hid a0.lt
    have hl_a1_V5 := Lib.hid a1.lt
    have hl_a2_V5 := Lib.hid a2.lt
    replace a0 := a0.call hb
    replace a1 := a1.call hb
    replace a2 := a2.call hb
    replace Kw := belI_call Kw hb
    clear hb
    obtain ⟨a0_0, a0_1, a0_2⟩ := a0.cells
    obtain ⟨a1_0, a1_1, a1_2⟩ := a1.cells
    have a2_0 := a2.cell
    obtain ⟨V5_0, V5_1, V5_2⟩ := V5.cells
    go_wp2_with fail
    clear a0_0 a0_1 a0_2 a1_0 a1_1 a1_2 a2_0 V5_0 V5_1 V5_2
    refine (toIm X0 Y0 _ L0 _ Hn0.out a0.rd).mono ?_
    rintro e w11 ⟨vo, rfl, u6, hb⟩
    obtain ⟨A_u6, c_u6, he⟩ := ownI_shape u6
    subst he
    have hs_V5_V7 := Lib.hid V5.hs
    have hlo_V7 := Lib.hid Kw.size
    have hl_a0_V7 := Lib.hid a0.lt
    have hl_a1_V7 := Lib.hid a1.lt
    have hl_a2_V7 := Lib.hid a2.lt
    have V7 := ImV.born (X := X0) (Y := Y0) hb u6
    replace hb := belI_call hb (belI_box w11 (.cells #[.int .i64 X0, .int .i64 Y0, .slice A_u6 L0.length c_u6] 26))
    replace a0 := a0.call hb
    replace a1 := a1.call hb
    replace a2 := a2.call hb
    replace V5 := V5.call hb
    replace Kw := belI_call Kw hb
    clear hb u6
    obtain ⟨a0_0, a0_1, a0_2⟩ := a0.cells
    obtain ⟨a1_0, a1_1, a1_2⟩ := a1.cells
    have a2_0 := a2.cell
    obtain ⟨V5_0, V5_1, V5_2⟩ := V5.cells
    obtain ⟨V7_0, V7_1, V7_2⟩ := V7.cells
    go_wp2_with fail
    clear a0_0 a0_1 a0_2 a1_0 a1_1 a1_2 a2_0 V5_0 V5_1 V5_2 V7_0 V7_1 V7_2
    refine (toIm X1 Y1 _ L1 _ Hn1.out a1.rd).mono ?_
    rintro e w12 ⟨vo, rfl, u8, hb⟩
    obtain ⟨A_u8, c_u8, he⟩ := ownI_shape u8
    subst he
    have hs_V5_V9 := Lib.hid V5.hs
    have hs_V7_V9 := Lib.hid V7.hs
    have hlo_V9 := Lib.hid Kw.size
    have hl_a0_V9 := Lib.hid a0.lt
    have hl_a1_V9 := Lib.hid a1.lt
    have hl_a2_V9 := Lib.hid a2.lt
    have V9 := ImV.born (X := X1) (Y := Y1) hb u8
    replace hb := belI_call hb (belI_box w12 (.cells #[.int .i64 X1, .int .i64 Y1, .slice A_u8 L1.length c_u8] 26))
    replace a0 := a0.call hb
    replace a1 := a1.call hb
    replace a2 := a2.call hb
    replace V5 := V5.call hb
    replace V7 := V7.call hb
    replace Kw := belI_call Kw hb
    clear hb u8
    obtain ⟨a0_0, a0_1, a0_2⟩ := a0.cells
    obtain ⟨a1_0, a1_1, a1_2⟩ := a1.cells
    have a2_0 := a2.cell
    obtain ⟨V5_0, V5_1, V5_2⟩ := V5.cells
    obtain ⟨V7_0, V7_1, V7_2⟩ := V7.cells
    obtain ⟨V9_0, V9_1, V9_2⟩ := V9.cells
    go_wp2_with fail
    clear a0_0 a0_1 a0_2 a1_0 a1_1 a1_2 a2_0 V5_0 V5_1 V5_2 V7_0 V7_1 V7_2 V9_0 V9_1 V9_2
    refine (toRg _ G2 _ Hn2.out a2.rd).mono ?_
    rintro e w13 ⟨vo, rfl, u10, hb⟩
    obtain ⟨A_u10, c_u10, he⟩ := own_shape u10
    subst he
    have hs_V5_V11 := Lib.hid V5.hs
    have hs_V7_V11 := Lib.hid V7.hs
    have hs_V9_V11 := Lib.hid V9.hs
    have hlo_V11 := Lib.hid Kw.size
    have hl_a0_V11 := Lib.hid a0.lt
    have hl_a1_V11 := Lib.hid a1.lt
    have hl_a2_V11 := Lib.hid a2.lt
    have V11 := RgV.born hb u10
    replace hb := belI_call hb (belI_box w13 (.cells #[.slice A_u10 G2.length c_u10] 34))
    replace a0 := a0.call hb
    replace a1 := a1.call hb
    replace a2 := a2.call hb
    replace V5 := V5.call hb
    replace V7 := V7.call hb
    replace V9 := V9.call hb
    replace Kw := belI_call Kw hb
    clear hb u10
    obtain ⟨a0_0, a0_1, a0_2⟩ := a0.cells
    obtain ⟨a1_0, a1_1, a1_2⟩ := a1.cells
    have a2_0 := a2.cell
    obtain ⟨V5_0, V5_1, V5_2⟩ := V5.cells
    obtain ⟨V7_0, V7_1, V7_2⟩ := V7.cells
    obtain ⟨V9_0, V9_1, V9_2⟩ := V9.cells
    have V11_0 := V11.cell
    go_wp2_with fail
    clear a0_0 a0_1 a0_2 a1_0 a1_1 a1_2 a2_0 V5_0 V5_1 V5_2 V7_0 V7_1 V7_2 V9_0 V9_1 V9_2 V11_0
    refine (HI.out _ _ V7.rd _ V9.rd _ V11.rd).mono ?_
    rintro e w14 ⟨vo, rfl, u12, hb⟩
    obtain ⟨A_u12, c_u12, he⟩ := ownI_shape u12
    subst he
    have hs_V5_V13 := Lib.hid V5.hs
    have hs_V7_V13 := Lib.hid V7.hs
    have hs_V9_V13 := Lib.hid V9.hs
    have hs_V11_V13 := Lib.hid V11.hs
    have hlo_V13 := Lib.hid Kw.size
    have hl_a0_V13 := Lib.hid a0.lt
    have hl_a1_V13 := Lib.hid a1.lt
    have hl_a2_V13 := Lib.hid a2.lt
    have V13 := ImV.born (X := XR) (Y := YR) hb u12
    replace hb := belI_call hb (belI_box w14 (.cells #[.int .i64 XR, .int .i64 YR, .slice A_u12 LR.length c_u12] 26))
    replace a0 := a0.call hb
    replace a1 := a1.call hb
    replace a2 := a2.call hb
    replace V5 := V5.call hb
    replace V7 := V7.call hb
    replace V9 := V9.call hb
    replace V11 := V11.call hb
    replace Kw := belI_call Kw hb
    clear hb u12
    obtain ⟨a0_0, a0_1, a0_2⟩ := a0.cells
    obtain ⟨a1_0, a1_1, a1_2⟩ := a1.cells
    have a2_0 := a2.cell
    obtain ⟨V5_0, V5_1, V5_2⟩ := V5.cells
    obtain ⟨V7_0, V7_1, V7_2⟩ := V7.cells
    obtain ⟨V9_0, V9_1, V9_2⟩ := V9.cells
    have V11_0 := V11.cell
    obtain ⟨V13_0, V13_1, V13_2⟩ := V13.cells
    go_wp2_with fail
    clear a0_0 a0_1 a0_2 a1_0 a1_1 a1_2 a2_0 V5_0 V5_1 V5_2 V7_0 V7_1 V7_2 V9_0 V9_1 V9_2 V11_0 V13_0 V13_1 V13_2
    refine (eqIm_same _ _ _ _ LR _ V13.rd V5.rd).mono ?_
    rintro e w15 ⟨rfl, hb⟩
    replace a0 := a0.call hb
    replace a1 := a1.call hb
    replace a2 := a2.call hb
    replace V5 := V5.call hb
    replace V7 := V7.call hb
    replace V9 := V9.call hb
    replace V11 := V11.call hb
    replace V13 := V13.call hb
    replace Kw := belI_call Kw hb
    clear hb
    obtain ⟨a0_0, a0_1, a0_2⟩ := a0.cells
    obtain ⟨a1_0, a1_1, a1_2⟩ := a1.cells
    have a2_0 := a2.cell
    obtain ⟨V5_0, V5_1, V5_2⟩ := V5.cells
    obtain ⟨V7_0, V7_1, V7_2⟩ := V7.cells
    obtain ⟨V9_0, V9_1, V9_2⟩ := V9.cells
    have V11_0 := V11.cell
    obtain ⟨V13_0, V13_1, V13_2⟩ := V13.cells
    go_upto_region 18 with fail
    clear a0_0 a0_1 a0_2 a1_0 a1_1 a1_2 a2_0 V5_0 V5_1 V5_2 V7_0 V7_1 V7_2 V9_0 V9_1 V9_2 V11_0 V13_0 V13_1 V13_2
    refine wp_region_held_drew (S := fun W => Below w15.heap.size w15 W) (by kernel_rfl) (Below.refl _ _).drew (fun hS => ?_)
    refine wpAnyH_take (i := 0) (v := .agg #[.int .i64 X0, .int .i64 Y0, .slice A_u6 L0.length c_u6]) rfl (by kernel_rfl) (by kernel_rfl) (by kernel_rfl) (fun _ _ _ h => h) (Or.inl ⟨by kernel_rfl, by intro w' hSw; (try dsimp only at hSw); (obtain ⟨a0_0, a0_1, a0_2⟩ := (a0.call hSw).cells); (obtain ⟨a1_0, a1_1, a1_2⟩ := (a1.call hSw).cells); (have a2_0 := (a2.call hSw).cell); (obtain ⟨V5_0, V5_1, V5_2⟩ := (V5.call hSw).cells); (obtain ⟨V7_0, V7_1, V7_2⟩ := (V7.call hSw).cells); (obtain ⟨V9_0, V9_1, V9_2⟩ := (V9.call hSw).cells); (have V11_0 := (V11.call hSw).cell); (obtain ⟨V13_0, V13_1, V13_2⟩ := (V13.call hSw).cells); go_simp⟩) (by assumption) ?_
    refine wpAnyH_take (i := 1) (v := .agg #[.int .i64 X0, .int .i64 Y0, .slice A0 L0.length c0]) rfl (by kernel_rfl) (by kernel_rfl) (by kernel_rfl) (fun _ _ _ h => h) (Or.inl ⟨by kernel_rfl, by intro w' hSw; (try dsimp only at hSw); (obtain ⟨a0_0, a0_1, a0_2⟩ := (a0.call hSw).cells); (obtain ⟨a1_0, a1_1, a1_2⟩ := (a1.call hSw).cells); (have a2_0 := (a2.call hSw).cell); (obtain ⟨V5_0, V5_1, V5_2⟩ := (V5.call hSw).cells); (obtain ⟨V7_0, V7_1, V7_2⟩ := (V7.call hSw).cells); (obtain ⟨V9_0, V9_1, V9_2⟩ := (V9.call hSw).cells); (have V11_0 := (V11.call hSw).cell); (obtain ⟨V13_0, V13_1, V13_2⟩ := (V13.call hSw).cells); go_simp⟩) (by assumption) ?_
    (try simp only [Act.put]); (try simp only [List.setIfInBounds_toArray]); (try simp only [List.set_cons_zero, List.set_cons_succ])
    refine wpAnyH_ready (rs := [2]) (by kernel_rfl) (by simp) ?_
    refine (AllReadyH.cons rfl (fun K hK => ?_) AllReadyH.nil)
    · rw [if_pos (by kernel_rfl)]
      (try simp only [List.getElem_toArray]); (try simp only [List.getElem_cons_succ]); (try simp only [List.getElem_cons_zero])
      go_simp
      with_reducible refine (toIm X0 Y0 _ L0 _ Hn0.out (a0.call hS).rd).mono ?_
      rintro e W' ⟨vo, rfl, u14, hb⟩
      obtain ⟨A_u14, c_u14, he⟩ := ownI_shape u14
      subst he
      dsimp only
      refine hK.out _ _ (belI_call hS hb) (fun hS => ?_)
      clear hK
      (try simp only [Act.put]); (try simp only [List.setIfInBounds_toArray]); (try simp only [List.set_cons_zero, List.set_cons_succ])
      refine wpAnyH_ready (rs := [3]) (by kernel_rfl) (by simp) ?_
      refine (AllReadyH.cons rfl (fun K hK => ?_) AllReadyH.nil)
      · rw [if_pos (by kernel_rfl)]
        (try simp only [List.getElem_toArray]); (try simp only [List.getElem_cons_succ]); (try simp only [List.getElem_cons_zero])
        go_simp
        with_reducible refine (eqIm_same _ _ _ _ L0 _ (V7.call hS).rd (RdI.of_own u14)).mono ?_
        rintro e W' ⟨rfl, hb⟩
        dsimp only
        have u14 := ownI_call u14 hb
        refine hK.out _ _ (belI_call hS hb) (fun hS => ?_)
        clear hK
        (try simp only [Act.put]); (try simp only [List.setIfInBounds_toArray]); (try simp only [List.set_cons_zero, List.set_cons_succ])
        refine wpAnyH_take (i := 4) (v := .bool false) rfl (by kernel_rfl) (by kernel_rfl) (by kernel_rfl) (fun _ _ _ h => h) (Or.inl ⟨by kernel_rfl, by intro w' hSw; (try dsimp only at hSw); (obtain ⟨a0_0, a0_1, a0_2⟩ := (a0.call hSw).cells); (obtain ⟨a1_0, a1_1, a1_2⟩ := (a1.call hSw).cells); (have a2_0 := (a2.call hSw).cell); (obtain ⟨V5_0, V5_1, V5_2⟩ := (V5.call hSw).cells); (obtain ⟨V7_0, V7_1, V7_2⟩ := (V7.call hSw).cells); (obtain ⟨V9_0, V9_1, V9_2⟩ := (V9.call hSw).cells); (have V11_0 := (V11.call hSw).cell); (obtain ⟨V13_0, V13_1, V13_2⟩ := (V13.call hSw).cells); go_simp⟩) (by assumption) ?_
        refine wpAnyH_done (by kernel_rfl) ?_ _
        have hb := hS
        replace a0 := a0.call hb
        replace a1 := a1.call hb
        replace a2 := a2.call hb
        replace V5 := V5.call hb
        replace V7 := V7.call hb
        replace V9 := V9.call hb
        replace V11 := V11.call hb
        replace V13 := V13.call hb
        replace Kw := belI_call Kw hb
        clear hb hS
        clear u14
        obtain ⟨w16, hWy⟩ : ∃ w16, w16 = W' := ⟨_, rfl⟩
        subst hWy
        obtain ⟨a0_0, a0_1, a0_2⟩ := a0.cells
        obtain ⟨a1_0, a1_1, a1_2⟩ := a1.cells
        have a2_0 := a2.cell
        obtain ⟨V5_0, V5_1, V5_2⟩ := V5.cells
        obtain ⟨V7_0, V7_1, V7_2⟩ := V7.cells
        obtain ⟨V9_0, V9_1, V9_2⟩ := V9.cells
        have V11_0 := V11.cell
        obtain ⟨V13_0, V13_1, V13_2⟩ := V13.cells
        go_upto_region 20 with fail
        clear a0_0 a0_1 a0_2 a1_0 a1_1 a1_2 a2_0 V5_0 V5_1 V5_2 V7_0 V7_1 V7_2 V9_0 V9_1 V9_2 V11_0 V13_0 V13_1 V13_2
        refine wp_region_held_drew (S := fun W => Below w16.heap.size w16 W) (by kernel_rfl) (Below.refl _ _).drew (fun hS => ?_)
        refine wpAnyH_take (i := 0) (v := .agg #[.int .i64 X1, .int .i64 Y1, .slice A_u8 L1.length c_u8]) rfl (by kernel_rfl) (by kernel_rfl) (by kernel_rfl) (fun _ _ _ h => h) (Or.inl ⟨by kernel_rfl, by intro w' hSw; (try dsimp only at hSw); (obtain ⟨a0_0, a0_1, a0_2⟩ := (a0.call hSw).cells); (obtain ⟨a1_0, a1_1, a1_2⟩ := (a1.call hSw).cells); (have a2_0 := (a2.call hSw).cell); (obtain ⟨V5_0, V5_1, V5_2⟩ := (V5.call hSw).cells); (obtain ⟨V7_0, V7_1, V7_2⟩ := (V7.call hSw).cells); (obtain ⟨V9_0, V9_1, V9_2⟩ := (V9.call hSw).cells); (have V11_0 := (V11.call hSw).cell); (obtain ⟨V13_0, V13_1, V13_2⟩ := (V13.call hSw).cells); go_simp⟩) (by assumption) ?_
        refine wpAnyH_take (i := 1) (v := .agg #[.int .i64 X1, .int .i64 Y1, .slice A1 L1.length c1]) rfl (by kernel_rfl) (by kernel_rfl) (by kernel_rfl) (fun _ _ _ h => h) (Or.inl ⟨by kernel_rfl, by intro w' hSw; (try dsimp only at hSw); (obtain ⟨a0_0, a0_1, a0_2⟩ := (a0.call hSw).cells); (obtain ⟨a1_0, a1_1, a1_2⟩ := (a1.call hSw).cells); (have a2_0 := (a2.call hSw).cell); (obtain ⟨V5_0, V5_1, V5_2⟩ := (V5.call hSw).cells); (obtain ⟨V7_0, V7_1, V7_2⟩ := (V7.call hSw).cells); (obtain ⟨V9_0, V9_1, V9_2⟩ := (V9.call hSw).cells); (have V11_0 := (V11.call hSw).cell); (obtain ⟨V13_0, V13_1, V13_2⟩ := (V13.call hSw).cells); go_simp⟩) (by assumption) ?_
        (try simp only [Act.put]); (try simp only [List.setIfInBounds_toArray]); (try simp only [List.set_cons_zero, List.set_cons_succ])
        refine wpAnyH_ready (rs := [2]) (by kernel_rfl) (by simp) ?_
        refine (AllReadyH.cons rfl (fun K hK => ?_) AllReadyH.nil)
        · rw [if_pos (by kernel_rfl)]
          (try simp only [List.getElem_toArray]); (try simp only [List.getElem_cons_succ]); (try simp only [List.getElem_cons_zero])
          go_simp
          with_reducible refine (toIm X1 Y1 _ L1 _ Hn1.out (a1.call hS).rd).mono ?_
          rintro e W' ⟨vo, rfl, u15, hb⟩
          obtain ⟨A_u15, c_u15, he⟩ := ownI_shape u15
          subst he
          dsimp only
          refine hK.out _ _ (belI_call hS hb) (fun hS => ?_)
          clear hK
          (try simp only [Act.put]); (try simp only [List.setIfInBounds_toArray]); (try simp only [List.set_cons_zero, List.set_cons_succ])
          refine wpAnyH_ready (rs := [3]) (by kernel_rfl) (by simp) ?_
          refine (AllReadyH.cons rfl (fun K hK => ?_) AllReadyH.nil)
          · rw [if_pos (by kernel_rfl)]
            (try simp only [List.getElem_toArray]); (try simp only [List.getElem_cons_succ]); (try simp only [List.getElem_cons_zero])
            go_simp
            with_reducible refine (eqIm_same _ _ _ _ L1 _ (V9.call hS).rd (RdI.of_own u15)).mono ?_
            rintro e W' ⟨rfl, hb⟩
            dsimp only
            have u15 := ownI_call u15 hb
            refine hK.out _ _ (belI_call hS hb) (fun hS => ?_)
            clear hK
            (try simp only [Act.put]); (try simp only [List.setIfInBounds_toArray]); (try simp only [List.set_cons_zero, List.set_cons_succ])
            refine wpAnyH_take (i := 4) (v := .bool false) rfl (by kernel_rfl) (by kernel_rfl) (by kernel_rfl) (fun _ _ _ h => h) (Or.inl ⟨by kernel_rfl, by intro w' hSw; (try dsimp only at hSw); (obtain ⟨a0_0, a0_1, a0_2⟩ := (a0.call hSw).cells); (obtain ⟨a1_0, a1_1, a1_2⟩ := (a1.call hSw).cells); (have a2_0 := (a2.call hSw).cell); (obtain ⟨V5_0, V5_1, V5_2⟩ := (V5.call hSw).cells); (obtain ⟨V7_0, V7_1, V7_2⟩ := (V7.call hSw).cells); (obtain ⟨V9_0, V9_1, V9_2⟩ := (V9.call hSw).cells); (have V11_0 := (V11.call hSw).cell); (obtain ⟨V13_0, V13_1, V13_2⟩ := (V13.call hSw).cells); go_simp⟩) (by assumption) ?_
            refine wpAnyH_done (by kernel_rfl) ?_ _
            have hb := hS
            replace a0 := a0.call hb
            replace a1 := a1.call hb
            replace a2 := a2.call hb
            replace V5 := V5.call hb
            replace V7 := V7.call hb
            replace V9 := V9.call hb
            replace V11 := V11.call hb
            replace V13 := V13.call hb
            replace Kw := belI_call Kw hb
            clear hb hS
            clear u15
            obtain ⟨w17, hWy⟩ : ∃ w17, w17 = W' := ⟨_, rfl⟩
            subst hWy
            obtain ⟨a0_0, a0_1, a0_2⟩ := a0.cells
            obtain ⟨a1_0, a1_1, a1_2⟩ := a1.cells
            have a2_0 := a2.cell
            obtain ⟨V5_0, V5_1, V5_2⟩ := V5.cells
            obtain ⟨V7_0, V7_1, V7_2⟩ := V7.cells
            obtain ⟨V9_0, V9_1, V9_2⟩ := V9.cells
            have V11_0 := V11.cell
            obtain ⟨V13_0, V13_1, V13_2⟩ := V13.cells
            go_upto_region 22 with fail
            clear a0_0 a0_1 a0_2 a1_0 a1_1 a1_2 a2_0 V5_0 V5_1 V5_2 V7_0 V7_1 V7_2 V9_0 V9_1 V9_2 V11_0 V13_0 V13_1 V13_2
            refine wp_region_held_drew (S := fun W => Below w17.heap.size w17 W) (by kernel_rfl) (Below.refl _ _).drew (fun hS => ?_)
            refine wpAnyH_take (i := 0) (v := .agg #[.slice A_u10 G2.length c_u10]) rfl (by kernel_rfl) (by kernel_rfl) (by kernel_rfl) (fun _ _ _ h => h) (Or.inl ⟨by kernel_rfl, by intro w' hSw; (try dsimp only at hSw); (obtain ⟨a0_0, a0_1, a0_2⟩ := (a0.call hSw).cells); (obtain ⟨a1_0, a1_1, a1_2⟩ := (a1.call hSw).cells); (have a2_0 := (a2.call hSw).cell); (obtain ⟨V5_0, V5_1, V5_2⟩ := (V5.call hSw).cells); (obtain ⟨V7_0, V7_1, V7_2⟩ := (V7.call hSw).cells); (obtain ⟨V9_0, V9_1, V9_2⟩ := (V9.call hSw).cells); (have V11_0 := (V11.call hSw).cell); (obtain ⟨V13_0, V13_1, V13_2⟩ := (V13.call hSw).cells); go_simp⟩) (by assumption) ?_
            refine wpAnyH_take (i := 1) (v := .agg #[.slice A2 G2.length c2]) rfl (by kernel_rfl) (by kernel_rfl) (by kernel_rfl) (fun _ _ _ h => h) (Or.inl ⟨by kernel_rfl, by intro w' hSw; (try dsimp only at hSw); (obtain ⟨a0_0, a0_1, a0_2⟩ := (a0.call hSw).cells); (obtain ⟨a1_0, a1_1, a1_2⟩ := (a1.call hSw).cells); (have a2_0 := (a2.call hSw).cell); (obtain ⟨V5_0, V5_1, V5_2⟩ := (V5.call hSw).cells); (obtain ⟨V7_0, V7_1, V7_2⟩ := (V7.call hSw).cells); (obtain ⟨V9_0, V9_1, V9_2⟩ := (V9.call hSw).cells); (have V11_0 := (V11.call hSw).cell); (obtain ⟨V13_0, V13_1, V13_2⟩ := (V13.call hSw).cells); go_simp⟩) (by assumption) ?_
            (try simp only [Act.put]); (try simp only [List.setIfInBounds_toArray]); (try simp only [List.set_cons_zero, List.set_cons_succ])
            refine wpAnyH_ready (rs := [2]) (by kernel_rfl) (by simp) ?_
            refine (AllReadyH.cons rfl (fun K hK => ?_) AllReadyH.nil)
            · rw [if_pos (by kernel_rfl)]
              (try simp only [List.getElem_toArray]); (try simp only [List.getElem_cons_succ]); (try simp only [List.getElem_cons_zero])
              go_simp
              with_reducible refine (toRg _ G2 _ Hn2.out (a2.call hS).rd).mono ?_
              rintro e W' ⟨vo, rfl, u16, hb⟩
              obtain ⟨A_u16, c_u16, he⟩ := own_shape u16
              subst he
              dsimp only
              refine hK.out _ _ (belI_call hS hb) (fun hS => ?_)
              clear hK
              (try simp only [Act.put]); (try simp only [List.setIfInBounds_toArray]); (try simp only [List.set_cons_zero, List.set_cons_succ])
              refine wpAnyH_ready (rs := [3]) (by kernel_rfl) (by simp) ?_
              refine (AllReadyH.cons rfl (fun K hK => ?_) AllReadyH.nil)
              · rw [if_pos (by kernel_rfl)]
                (try simp only [List.getElem_toArray]); (try simp only [List.getElem_cons_succ]); (try simp only [List.getElem_cons_zero])
                go_simp
                with_reducible refine (eqRg_same _ _ G2 _ (V11.call hS).rd (RdR.of_own u16)).mono ?_
                rintro e W' ⟨rfl, hb⟩
                dsimp only
                have u16 := ownI_call u16 hb
                refine hK.out _ _ (belI_call hS hb) (fun hS => ?_)
                clear hK
                (try simp only [Act.put]); (try simp only [List.setIfInBounds_toArray]); (try simp only [List.set_cons_zero, List.set_cons_succ])
                refine wpAnyH_take (i := 4) (v := .bool false) rfl (by kernel_rfl) (by kernel_rfl) (by kernel_rfl) (fun _ _ _ h => h) (Or.inl ⟨by kernel_rfl, by intro w' hSw; (try dsimp only at hSw); (obtain ⟨a0_0, a0_1, a0_2⟩ := (a0.call hSw).cells); (obtain ⟨a1_0, a1_1, a1_2⟩ := (a1.call hSw).cells); (have a2_0 := (a2.call hSw).cell); (obtain ⟨V5_0, V5_1, V5_2⟩ := (V5.call hSw).cells); (obtain ⟨V7_0, V7_1, V7_2⟩ := (V7.call hSw).cells); (obtain ⟨V9_0, V9_1, V9_2⟩ := (V9.call hSw).cells); (have V11_0 := (V11.call hSw).cell); (obtain ⟨V13_0, V13_1, V13_2⟩ := (V13.call hSw).cells); go_simp⟩) (by assumption) ?_
                refine wpAnyH_done (by kernel_rfl) ?_ _
                have hb := hS
                replace a0 := a0.call hb
                replace a1 := a1.call hb
                replace a2 := a2.call hb
                replace V5 := V5.call hb
                replace V7 := V7.call hb
                replace V9 := V9.call hb
                replace V11 := V11.call hb
                replace V13 := V13.call hb
                replace Kw := belI_call Kw hb
                clear hb hS
                clear u16
                obtain ⟨w18, hWy⟩ : ∃ w18, w18 = W' := ⟨_, rfl⟩
                subst hWy
                obtain ⟨a0_0, a0_1, a0_2⟩ := a0.cells
                obtain ⟨a1_0, a1_1, a1_2⟩ := a1.cells
                have a2_0 := a2.cell
                obtain ⟨V5_0, V5_1, V5_2⟩ := V5.cells
                obtain ⟨V7_0, V7_1, V7_2⟩ := V7.cells
                obtain ⟨V9_0, V9_1, V9_2⟩ := V9.cells
                have V11_0 := V11.cell
                obtain ⟨V13_0, V13_1, V13_2⟩ := V13.cells
                go_wp2_with fail
                clear a0_0 a0_1 a0_2 a1_0 a1_1 a1_2 a2_0 V5_0 V5_1 V5_2 V7_0 V7_1 V7_2 V9_0 V9_1 V9_2 V11_0 V13_0 V13_1 V13_2
                refine (markImI _ X0 Y0 _ L0 (1) _ _ (by omega) (by omega) V7.own).mono ?_
                rintro e w19 ⟨rfl, hown, hg⟩
                replace Kw := belI_mark Kw V7 (by have := hlo_V7.out; omega) hg
                replace a0 : ImA _ _ _ _ _ _ := ⟨a0.at_.grown hg (fun e => by have := (V7.row _ e.symm).1; have := hl_a0_V7.out; omega), O0.out.call Kw⟩
                replace a1 : ImA _ _ _ _ _ _ := ⟨a1.at_.grown hg (fun e => by have := (V7.row _ e.symm).1; have := hl_a1_V7.out; omega), O1.out.call Kw⟩
                replace a2 : RgA _ _ _ _ := ⟨(hg.block _ a2.lt (fun e => by have := (V7.row _ e.symm).1; have := hl_a2_V7.out; omega)).trans a2.at_, O2.out.call Kw⟩
                replace V5 := V5.other hg (fun k hk => by have := V7.row k hk; have := hs_V5_V7.out; omega)
                replace V9 := V9.other hg (fun k hk => by have := V7.row k hk; have := hs_V7_V9.out; omega)
                replace V11 := V11.other hg (fun k hk => by have := V7.row k hk; have := hs_V7_V11.out; omega)
                replace V13 := V13.other hg (fun k hk => by have := V7.row k hk; have := hs_V7_V13.out; omega)
                replace V7 := V7.mark hown (marksI_length _ _) hg
                clear hown hg
                have hk_w19 : ¬ ((1 + L0.length : Nat) : Int) < 0 := by omega
                obtain ⟨a0_0, a0_1, a0_2⟩ := a0.cells
                obtain ⟨a1_0, a1_1, a1_2⟩ := a1.cells
                have a2_0 := a2.cell
                obtain ⟨V5_0, V5_1, V5_2⟩ := V5.cells
                obtain ⟨V7_0, V7_1, V7_2⟩ := V7.cells
                obtain ⟨V9_0, V9_1, V9_2⟩ := V9.cells
                have V11_0 := V11.cell
                obtain ⟨V13_0, V13_1, V13_2⟩ := V13.cells
                go_wp2_with fail
                clear a0_0 a0_1 a0_2 a1_0 a1_1 a1_2 a2_0 V5_0 V5_1 V5_2 V7_0 V7_1 V7_2 V9_0 V9_1 V9_2 V11_0 V13_0 V13_1 V13_2
                refine (markImI _ X1 Y1 _ L1 (1 + L0.length) _ _ (by omega) (by omega) V9.own).mono ?_
                rintro e w20 ⟨rfl, hown, hg⟩
                replace Kw := belI_mark Kw V9 (by have := hlo_V9.out; omega) hg
                replace a0 : ImA _ _ _ _ _ _ := ⟨a0.at_.grown hg (fun e => by have := (V9.row _ e.symm).1; have := hl_a0_V9.out; omega), O0.out.call Kw⟩
                replace a1 : ImA _ _ _ _ _ _ := ⟨a1.at_.grown hg (fun e => by have := (V9.row _ e.symm).1; have := hl_a1_V9.out; omega), O1.out.call Kw⟩
                replace a2 : RgA _ _ _ _ := ⟨(hg.block _ a2.lt (fun e => by have := (V9.row _ e.symm).1; have := hl_a2_V9.out; omega)).trans a2.at_, O2.out.call Kw⟩
                replace V5 := V5.other hg (fun k hk => by have := V9.row k hk; have := hs_V5_V9.out; omega)
                replace V7 := V7.other hg (fun k hk => by have := V9.row k hk; have := hs_V7_V9.out; omega)
                replace V11 := V11.other hg (fun k hk => by have := V9.row k hk; have := hs_V9_V11.out; omega)
                replace V13 := V13.other hg (fun k hk => by have := V9.row k hk; have := hs_V9_V13.out; omega)
                replace V9 := V9.mark hown (marksI_length _ _) hg
                clear hown hg
                have hk_w20 : ¬ ((1 + L0.length + L1.length : Nat) : Int) < 0 := by omega
                obtain ⟨a0_0, a0_1, a0_2⟩ := a0.cells
                obtain ⟨a1_0, a1_1, a1_2⟩ := a1.cells
                have a2_0 := a2.cell
                obtain ⟨V5_0, V5_1, V5_2⟩ := V5.cells
                obtain ⟨V7_0, V7_1, V7_2⟩ := V7.cells
                obtain ⟨V9_0, V9_1, V9_2⟩ := V9.cells
                have V11_0 := V11.cell
                obtain ⟨V13_0, V13_1, V13_2⟩ := V13.cells
                go_wp2_with fail
                clear a0_0 a0_1 a0_2 a1_0 a1_1 a1_2 a2_0 V5_0 V5_1 V5_2 V7_0 V7_1 V7_2 V9_0 V9_1 V9_2 V11_0 V13_0 V13_1 V13_2
                refine (markRgI _ _ G2 (1 + L0.length + L1.length) _ _ (by omega) (by omega) V11.own).mono ?_
                rintro e w21 ⟨rfl, hown, hg⟩
                replace Kw := belR_mark Kw V11 (by have := hlo_V11.out; omega) hg
                replace a0 : ImA _ _ _ _ _ _ := ⟨a0.at_.grown hg (fun e => by have := (V11.row _ e.symm).1; have := hl_a0_V11.out; omega), O0.out.call Kw⟩
                replace a1 : ImA _ _ _ _ _ _ := ⟨a1.at_.grown hg (fun e => by have := (V11.row _ e.symm).1; have := hl_a1_V11.out; omega), O1.out.call Kw⟩
                replace a2 : RgA _ _ _ _ := ⟨(hg.block _ a2.lt (fun e => by have := (V11.row _ e.symm).1; have := hl_a2_V11.out; omega)).trans a2.at_, O2.out.call Kw⟩
                replace V5 := V5.other hg (fun k hk => by have := V11.row k hk; have := hs_V5_V11.out; omega)
                replace V7 := V7.other hg (fun k hk => by have := V11.row k hk; have := hs_V7_V11.out; omega)
                replace V9 := V9.other hg (fun k hk => by have := V11.row k hk; have := hs_V9_V11.out; omega)
                replace V13 := V13.other hg (fun k hk => by have := V11.row k hk; have := hs_V11_V13.out; omega)
                replace V11 := V11.mark hown (marksL_length _ _) hg
                clear hown hg
                have hk_w21 : ¬ ((1 + L0.length + L1.length + 4 * G2.length : Nat) : Int) < 0 := by omega
                obtain ⟨a0_0, a0_1, a0_2⟩ := a0.cells
                obtain ⟨a1_0, a1_1, a1_2⟩ := a1.cells
                have a2_0 := a2.cell
                obtain ⟨V5_0, V5_1, V5_2⟩ := V5.cells
                obtain ⟨V7_0, V7_1, V7_2⟩ := V7.cells
                obtain ⟨V9_0, V9_1, V9_2⟩ := V9.cells
                have V11_0 := V11.cell
                obtain ⟨V13_0, V13_1, V13_2⟩ := V13.cells
                go_wp2_with fail
                clear a0_0 a0_1 a0_2 a1_0 a1_1 a1_2 a2_0 V5_0 V5_1 V5_2 V7_0 V7_1 V7_2 V9_0 V9_1 V9_2 V11_0 V13_0 V13_1 V13_2
                refine (eqIm_same _ _ _ _ LR _ V13.rd V5.rd).mono ?_
                rintro e w22 ⟨rfl, hb⟩
                replace a0 := a0.call hb
                replace a1 := a1.call hb
                replace a2 := a2.call hb
                replace V5 := V5.call hb
                replace V7 := V7.call hb
                replace V9 := V9.call hb
                replace V11 := V11.call hb
                replace V13 := V13.call hb
                replace Kw := belI_call Kw hb
                clear hb
                obtain ⟨a0_0, a0_1, a0_2⟩ := a0.cells
                obtain ⟨a1_0, a1_1, a1_2⟩ := a1.cells
                have a2_0 := a2.cell
                obtain ⟨V5_0, V5_1, V5_2⟩ := V5.cells
                obtain ⟨V7_0, V7_1, V7_2⟩ := V7.cells
                obtain ⟨V9_0, V9_1, V9_2⟩ := V9.cells
                have V11_0 := V11.cell
                obtain ⟨V13_0, V13_1, V13_2⟩ := V13.cells
                go_wp2_with fail
                clear a0_0 a0_1 a0_2 a1_0 a1_1 a1_2 a2_0 V5_0 V5_1 V5_2 V7_0 V7_1 V7_2 V9_0 V9_1 V9_2 V11_0 V13_0 V13_1 V13_2
                refine (markImI _ XR YR _ LR (1) _ _ (by omega) (by omega) V13.own).mono ?_
                rintro e w23 ⟨rfl, hown, hg⟩
                replace Kw := belI_mark Kw V13 (by have := hlo_V13.out; omega) hg
                replace a0 : ImA _ _ _ _ _ _ := ⟨a0.at_.grown hg (fun e => by have := (V13.row _ e.symm).1; have := hl_a0_V13.out; omega), O0.out.call Kw⟩
                replace a1 : ImA _ _ _ _ _ _ := ⟨a1.at_.grown hg (fun e => by have := (V13.row _ e.symm).1; have := hl_a1_V13.out; omega), O1.out.call Kw⟩
                replace a2 : RgA _ _ _ _ := ⟨(hg.block _ a2.lt (fun e => by have := (V13.row _ e.symm).1; have := hl_a2_V13.out; omega)).trans a2.at_, O2.out.call Kw⟩
                replace V5 := V5.other hg (fun k hk => by have := V13.row k hk; have := hs_V5_V13.out; omega)
                replace V7 := V7.other hg (fun k hk => by have := V13.row k hk; have := hs_V7_V13.out; omega)
                replace V9 := V9.other hg (fun k hk => by have := V13.row k hk; have := hs_V9_V13.out; omega)
                replace V11 := V11.other hg (fun k hk => by have := V13.row k hk; have := hs_V11_V13.out; omega)
                replace V13 := V13.mark hown (marksI_length _ _) hg
                clear hown hg
                have hk_w23 : ¬ ((1 + LR.length : Nat) : Int) < 0 := by omega
                obtain ⟨a0_0, a0_1, a0_2⟩ := a0.cells
                obtain ⟨a1_0, a1_1, a1_2⟩ := a1.cells
                have a2_0 := a2.cell
                obtain ⟨V5_0, V5_1, V5_2⟩ := V5.cells
                obtain ⟨V7_0, V7_1, V7_2⟩ := V7.cells
                obtain ⟨V9_0, V9_1, V9_2⟩ := V9.cells
                have V11_0 := V11.cell
                obtain ⟨V13_0, V13_1, V13_2⟩ := V13.cells
                go_wp2_with fail
                clear a0_0 a0_1 a0_2 a1_0 a1_1 a1_2 a2_0 V5_0 V5_1 V5_2 V7_0 V7_1 V7_2 V9_0 V9_1 V9_2 V11_0 V13_0 V13_1 V13_2
                refine (heldIm XR YR _ 1 LR.length _ (by omega) V13.rd).mono ?_
                rintro e w24 ⟨rfl, hb⟩
                replace a0 := a0.call hb
                replace a1 := a1.call hb
                replace a2 := a2.call hb
                replace V5 := V5.call hb
                replace V7 := V7.call hb
                replace V9 := V9.call hb
                replace V11 := V11.call hb
                replace V13 := V13.call hb
                replace Kw := belI_call Kw hb
                clear hb
                obtain ⟨a0_0, a0_1, a0_2⟩ := a0.cells
                obtain ⟨a1_0, a1_1, a1_2⟩ := a1.cells
                have a2_0 := a2.cell
                obtain ⟨V5_0, V5_1, V5_2⟩ := V5.cells
                obtain ⟨V7_0, V7_1, V7_2⟩ := V7.cells
                obtain ⟨V9_0, V9_1, V9_2⟩ := V9.cells
                have V11_0 := V11.cell
                obtain ⟨V13_0, V13_1, V13_2⟩ := V13.cells
                go_upto_region 38 with fail
                clear a0_0 a0_1 a0_2 a1_0 a1_1 a1_2 a2_0 V5_0 V5_1 V5_2 V7_0 V7_1 V7_2 V9_0 V9_1 V9_2 V11_0 V13_0 V13_1 V13_2
                go_cut [16] (fun s16 wx => ∃ (b hi : Nat) (A : Option Addr) (c : Nat), s16 = .pointer (some ⟨b, 0, none⟩) ∧ ImV w24.heap.size hi b XR YR (.slice A LR.length c) LR wx ∧ Below w24.heap.size w24 wx)
                case first =>
                  refine wp_region_held_drew (S := fun W => Below w24.heap.size w24 W) (by kernel_rfl) (Below.refl _ _).drew (fun hS => ?_)
                  refine wpAnyH_take (i := 0) (v := .agg #[.int .i64 X0, .int .i64 Y0, .slice A0 L0.length c0]) rfl (by kernel_rfl) (by kernel_rfl) (by kernel_rfl) (fun _ _ _ h => h) (Or.inl ⟨by kernel_rfl, by intro w' hSw; (try dsimp only at hSw); (obtain ⟨a0_0, a0_1, a0_2⟩ := (a0.call hSw).cells); (obtain ⟨a1_0, a1_1, a1_2⟩ := (a1.call hSw).cells); (have a2_0 := (a2.call hSw).cell); (obtain ⟨V5_0, V5_1, V5_2⟩ := (V5.call hSw).cells); (obtain ⟨V7_0, V7_1, V7_2⟩ := (V7.call hSw).cells); (obtain ⟨V9_0, V9_1, V9_2⟩ := (V9.call hSw).cells); (have V11_0 := (V11.call hSw).cell); (obtain ⟨V13_0, V13_1, V13_2⟩ := (V13.call hSw).cells); go_simp⟩) (by assumption) ?_
                  refine wpAnyH_take (i := 2) (v := .agg #[.int .i64 X1, .int .i64 Y1, .slice A1 L1.length c1]) rfl (by kernel_rfl) (by kernel_rfl) (by kernel_rfl) (fun _ _ _ h => h) (Or.inl ⟨by kernel_rfl, by intro w' hSw; (try dsimp only at hSw); (obtain ⟨a0_0, a0_1, a0_2⟩ := (a0.call hSw).cells); (obtain ⟨a1_0, a1_1, a1_2⟩ := (a1.call hSw).cells); (have a2_0 := (a2.call hSw).cell); (obtain ⟨V5_0, V5_1, V5_2⟩ := (V5.call hSw).cells); (obtain ⟨V7_0, V7_1, V7_2⟩ := (V7.call hSw).cells); (obtain ⟨V9_0, V9_1, V9_2⟩ := (V9.call hSw).cells); (have V11_0 := (V11.call hSw).cell); (obtain ⟨V13_0, V13_1, V13_2⟩ := (V13.call hSw).cells); go_simp⟩) (by assumption) ?_
                  refine wpAnyH_take (i := 4) (v := .agg #[.slice A2 G2.length c2]) rfl (by kernel_rfl) (by kernel_rfl) (by kernel_rfl) (fun _ _ _ h => h) (Or.inl ⟨by kernel_rfl, by intro w' hSw; (try dsimp only at hSw); (obtain ⟨a0_0, a0_1, a0_2⟩ := (a0.call hSw).cells); (obtain ⟨a1_0, a1_1, a1_2⟩ := (a1.call hSw).cells); (have a2_0 := (a2.call hSw).cell); (obtain ⟨V5_0, V5_1, V5_2⟩ := (V5.call hSw).cells); (obtain ⟨V7_0, V7_1, V7_2⟩ := (V7.call hSw).cells); (obtain ⟨V9_0, V9_1, V9_2⟩ := (V9.call hSw).cells); (have V11_0 := (V11.call hSw).cell); (obtain ⟨V13_0, V13_1, V13_2⟩ := (V13.call hSw).cells); go_simp⟩) (by assumption) ?_
                  (try simp only [Act.put]); (try simp only [List.setIfInBounds_toArray]); (try simp only [List.set_cons_zero, List.set_cons_succ])
                  refine wpAnyH_ready (rs := [1, 7]) (by kernel_rfl) (by simp) ?_
                  refine (AllReadyH.cons rfl (fun K hK => ?_) (AllReadyH.cons rfl (fun K hK => ?_) AllReadyH.nil))
                  · rw [if_pos (by kernel_rfl)]
                    (try simp only [List.getElem_toArray]); (try simp only [List.getElem_cons_succ]); (try simp only [List.getElem_cons_zero])
                    go_simp
                    with_reducible refine (toIm X0 Y0 _ L0 _ Hn0.out (a0.call hS).rd).mono ?_
                    rintro e W' ⟨vo, rfl, u17, hb⟩
                    obtain ⟨A_u17, c_u17, he⟩ := ownI_shape u17
                    subst he
                    dsimp only
                    refine hK.out _ _ (belI_call hS hb) (fun hS => ?_)
                    clear hK
                    (try simp only [Act.put]); (try simp only [List.setIfInBounds_toArray]); (try simp only [List.set_cons_zero, List.set_cons_succ])
                    refine wpAnyH_ready (rs := [3, 7]) (by kernel_rfl) (by simp) ?_
                    refine (AllReadyH.cons rfl (fun K hK => ?_) (AllReadyH.cons rfl (fun K hK => ?_) AllReadyH.nil))
                    · rw [if_pos (by kernel_rfl)]
                      (try simp only [List.getElem_toArray]); (try simp only [List.getElem_cons_succ]); (try simp only [List.getElem_cons_zero])
                      go_simp
                      with_reducible refine (toIm X1 Y1 _ L1 _ Hn1.out (a1.call hS).rd).mono ?_
                      rintro e W' ⟨vo, rfl, u18, hb⟩
                      obtain ⟨A_u18, c_u18, he⟩ := ownI_shape u18
                      subst he
                      dsimp only
                      have u17 := ownI_call u17 hb
                      refine hK.out _ _ (belI_call hS hb) (fun hS => ?_)
                      clear hK
                      (try simp only [Act.put]); (try simp only [List.setIfInBounds_toArray]); (try simp only [List.set_cons_zero, List.set_cons_succ])
                      refine wpAnyH_ready (rs := [5, 7]) (by kernel_rfl) (by simp) ?_
                      refine (AllReadyH.cons rfl (fun K hK => ?_) (AllReadyH.cons rfl (fun K hK => ?_) AllReadyH.nil))
                      · rw [if_pos (by kernel_rfl)]
                        (try simp only [List.getElem_toArray]); (try simp only [List.getElem_cons_succ]); (try simp only [List.getElem_cons_zero])
                        go_simp
                        with_reducible refine (toRg _ G2 _ Hn2.out (a2.call hS).rd).mono ?_
                        rintro e W' ⟨vo, rfl, u19, hb⟩
                        obtain ⟨A_u19, c_u19, he⟩ := own_shape u19
                        subst he
                        dsimp only
                        have u17 := ownI_call u17 hb
                        have u18 := ownI_call u18 hb
                        refine hK.out _ _ (belI_call hS hb) (fun hS => ?_)
                        clear hK
                        (try simp only [Act.put]); (try simp only [List.setIfInBounds_toArray]); (try simp only [List.set_cons_zero, List.set_cons_succ])
                        refine wpAnyH_ready (rs := [6, 7]) (by kernel_rfl) (by simp) ?_
                        refine (AllReadyH.cons rfl (fun K hK => ?_) (AllReadyH.cons rfl (fun K hK => ?_) AllReadyH.nil))
                        · rw [if_pos (by kernel_rfl)]
                          (try simp only [List.getElem_toArray]); (try simp only [List.getElem_cons_succ]); (try simp only [List.getElem_cons_zero])
                          go_simp
                          with_reducible refine (HI.out _ _ (RdI.of_own u17) _ (RdI.of_own u18) _ (RdR.of_own u19)).mono ?_
                          rintro e W' ⟨vo, rfl, u20, hb⟩
                          obtain ⟨A_u20, c_u20, he⟩ := ownI_shape u20
                          subst he
                          replace u20 := u20.mono hS.size
                          dsimp only
                          have u17 := ownI_call u17 hb
                          have u18 := ownI_call u18 hb
                          have u19 := ownI_call u19 hb
                          refine hK.out _ _ (belI_call hS hb) (fun hS => ?_)
                          clear hK
                          (try simp only [Act.put]); (try simp only [List.setIfInBounds_toArray]); (try simp only [List.set_cons_zero, List.set_cons_succ])
                          refine wpAnyH_ready (rs := [7]) (by kernel_rfl) (by simp) ?_
                          refine (AllReadyH.cons rfl (fun K hK => ?_) AllReadyH.nil)
                          · rw [if_pos (by kernel_rfl)]
                            (try simp only [List.getElem_toArray]); (try simp only [List.getElem_cons_succ]); (try simp only [List.getElem_cons_zero])
                            refine wp_alloc_im 26 zero26 16 rfl rfl ?_
                            intro bB W' hb GB lB
                            have kB := Nat.le_trans hS.size lB
                            have nB : ∀ k, (Value.slice A_u20 LR.length c_u20).ownBlock = some k → k ≠ bB := fun k hk => by have := (u20.lt k hk).2; omega
                            have u17 := ownI_call u17 hb
                            have u18 := ownI_call u18 hb
                            have u19 := ownI_call u19 hb
                            have u20 := ownI_call u20 hb
                            refine hK.out _ _ (belI_call hS hb) (fun hS => ?_)
                            clear hK
                            (try simp only [Act.put]); (try simp only [List.setIfInBounds_toArray]); (try simp only [List.set_cons_zero, List.set_cons_succ])
                            refine wpAnyH_ready (rs := [8]) (by kernel_rfl) (by simp) ?_
                            refine (AllReadyH.cons rfl (fun K hK => ?_) AllReadyH.nil)
                            · rw [if_pos (by kernel_rfl)]
                              (try simp only [List.getElem_toArray]); (try simp only [List.getElem_cons_succ]); (try simp only [List.getElem_cons_zero])
                              refine wp_store_im 26 size26 (.tmp 16) (.tmp 102) rfl bB 0 0 (.slice none 0 0) XR YR A_u20 LR.length c_u20 rfl rfl GB ?_
                              intro W3 IB hgB
                              skip
                              skip
                              skip
                              replace u20 := u20.kept hgB (ownA_ne nB)
                              skip
                              refine hK.out _ _ (hS.grown hgB hS.size (fun k hk => by injection hk with hk; omega)) (fun hS => ?_)
                              clear hK
                              (try simp only [Act.put]); (try simp only [List.setIfInBounds_toArray]); (try simp only [List.set_cons_zero, List.set_cons_succ])
                              refine wpAnyH_done (by kernel_rfl) ?_ _
                              go_wp2_with fail
                              go_meet
                              case rel => exact ⟨bB, _, _, _, rfl, ImV.made IB u20 kB nB, hS⟩
                        · rw [if_pos (by kernel_rfl)]
                          (try simp only [List.getElem_toArray]); (try simp only [List.getElem_cons_succ]); (try simp only [List.getElem_cons_zero])
                          refine wp_alloc_im 26 zero26 16 rfl rfl ?_
                          intro bB W' hb GB lB
                          have kB := Nat.le_trans hS.size lB
                          have u17 := ownI_call u17 hb
                          have u18 := ownI_call u18 hb
                          have u19 := ownI_call u19 hb
                          refine hK.out _ _ (belI_call hS hb) (fun hS => ?_)
                          clear hK
                          (try simp only [Act.put]); (try simp only [List.setIfInBounds_toArray]); (try simp only [List.set_cons_zero, List.set_cons_succ])
                          refine wpAnyH_ready (rs := [6]) (by kernel_rfl) (by simp) ?_
                          refine (AllReadyH.cons rfl (fun K hK => ?_) AllReadyH.nil)
                          · rw [if_pos (by kernel_rfl)]
                            (try simp only [List.getElem_toArray]); (try simp only [List.getElem_cons_succ]); (try simp only [List.getElem_cons_zero])
                            go_simp
                            with_reducible refine (HI.out _ _ (RdI.of_own u17) _ (RdI.of_own u18) _ (RdR.of_own u19)).mono ?_
                            rintro e W' ⟨vo, rfl, u20, hb⟩
                            obtain ⟨A_u20, c_u20, he⟩ := ownI_shape u20
                            subst he
                            have nB : ∀ k, (Value.slice A_u20 LR.length c_u20).ownBlock = some k → k ≠ bB := fun k hk => by have := (u20.lt k hk).1; have := (Array.getElem?_eq_some_iff.1 GB).1; omega
                            replace u20 := u20.mono hS.size
                            dsimp only
                            have u17 := ownI_call u17 hb
                            have u18 := ownI_call u18 hb
                            have u19 := ownI_call u19 hb
                            have GB := blk_call GB hb
                            refine hK.out _ _ (belI_call hS hb) (fun hS => ?_)
                            clear hK
                            (try simp only [Act.put]); (try simp only [List.setIfInBounds_toArray]); (try simp only [List.set_cons_zero, List.set_cons_succ])
                            refine wpAnyH_ready (rs := [8]) (by kernel_rfl) (by simp) ?_
                            refine (AllReadyH.cons rfl (fun K hK => ?_) AllReadyH.nil)
                            · rw [if_pos (by kernel_rfl)]
                              (try simp only [List.getElem_toArray]); (try simp only [List.getElem_cons_succ]); (try simp only [List.getElem_cons_zero])
                              refine wp_store_im 26 size26 (.tmp 16) (.tmp 102) rfl bB 0 0 (.slice none 0 0) XR YR A_u20 LR.length c_u20 rfl rfl GB ?_
                              intro W3 IB hgB
                              skip
                              skip
                              skip
                              skip
                              replace u20 := u20.kept hgB (ownA_ne nB)
                              refine hK.out _ _ (hS.grown hgB hS.size (fun k hk => by injection hk with hk; omega)) (fun hS => ?_)
                              clear hK
                              (try simp only [Act.put]); (try simp only [List.setIfInBounds_toArray]); (try simp only [List.set_cons_zero, List.set_cons_succ])
                              refine wpAnyH_done (by kernel_rfl) ?_ _
                              go_wp2_with fail
                              go_meet
                              case rel => exact ⟨bB, _, _, _, rfl, ImV.made IB u20 kB nB, hS⟩
                      · rw [if_pos (by kernel_rfl)]
                        (try simp only [List.getElem_toArray]); (try simp only [List.getElem_cons_succ]); (try simp only [List.getElem_cons_zero])
                        refine wp_alloc_im 26 zero26 16 rfl rfl ?_
                        intro bB W' hb GB lB
                        have kB := Nat.le_trans hS.size lB
                        have u17 := ownI_call u17 hb
                        have u18 := ownI_call u18 hb
                        refine hK.out _ _ (belI_call hS hb) (fun hS => ?_)
                        clear hK
                        (try simp only [Act.put]); (try simp only [List.setIfInBounds_toArray]); (try simp only [List.set_cons_zero, List.set_cons_succ])
                        refine wpAnyH_ready (rs := [5]) (by kernel_rfl) (by simp) ?_
                        refine (AllReadyH.cons rfl (fun K hK => ?_) AllReadyH.nil)
                        · rw [if_pos (by kernel_rfl)]
                          (try simp only [List.getElem_toArray]); (try simp only [List.getElem_cons_succ]); (try simp only [List.getElem_cons_zero])
                          go_simp
                          with_reducible refine (toRg _ G2 _ Hn2.out (a2.call hS).rd).mono ?_
                          rintro e W' ⟨vo, rfl, u19, hb⟩
                          obtain ⟨A_u19, c_u19, he⟩ := own_shape u19
                          subst he
                          dsimp only
                          have u17 := ownI_call u17 hb
                          have u18 := ownI_call u18 hb
                          have GB := blk_call GB hb
                          refine hK.out _ _ (belI_call hS hb) (fun hS => ?_)
                          clear hK
                          (try simp only [Act.put]); (try simp only [List.setIfInBounds_toArray]); (try simp only [List.set_cons_zero, List.set_cons_succ])
                          refine wpAnyH_ready (rs := [6]) (by kernel_rfl) (by simp) ?_
                          refine (AllReadyH.cons rfl (fun K hK => ?_) AllReadyH.nil)
                          · rw [if_pos (by kernel_rfl)]
                            (try simp only [List.getElem_toArray]); (try simp only [List.getElem_cons_succ]); (try simp only [List.getElem_cons_zero])
                            go_simp
                            with_reducible refine (HI.out _ _ (RdI.of_own u17) _ (RdI.of_own u18) _ (RdR.of_own u19)).mono ?_
                            rintro e W' ⟨vo, rfl, u20, hb⟩
                            obtain ⟨A_u20, c_u20, he⟩ := ownI_shape u20
                            subst he
                            have nB : ∀ k, (Value.slice A_u20 LR.length c_u20).ownBlock = some k → k ≠ bB := fun k hk => by have := (u20.lt k hk).1; have := (Array.getElem?_eq_some_iff.1 GB).1; omega
                            replace u20 := u20.mono hS.size
                            dsimp only
                            have u17 := ownI_call u17 hb
                            have u18 := ownI_call u18 hb
                            have GB := blk_call GB hb
                            have u19 := ownI_call u19 hb
                            refine hK.out _ _ (belI_call hS hb) (fun hS => ?_)
                            clear hK
                            (try simp only [Act.put]); (try simp only [List.setIfInBounds_toArray]); (try simp only [List.set_cons_zero, List.set_cons_succ])
                            refine wpAnyH_ready (rs := [8]) (by kernel_rfl) (by simp) ?_
                            refine (AllReadyH.cons rfl (fun K hK => ?_) AllReadyH.nil)
                            · rw [if_pos (by kernel_rfl)]
                              (try simp only [List.getElem_toArray]); (try simp only [List.getElem_cons_succ]); (try simp only [List.getElem_cons_zero])
                              refine wp_store_im 26 size26 (.tmp 16) (.tmp 102) rfl bB 0 0 (.slice none 0 0) XR YR A_u20 LR.length c_u20 rfl rfl GB ?_
                              intro W3 IB hgB
                              skip
                              skip
                              skip
                              skip
                              replace u20 := u20.kept hgB (ownA_ne nB)
                              refine hK.out _ _ (hS.grown hgB hS.size (fun k hk => by injection hk with hk; omega)) (fun hS => ?_)
                              clear hK
                              (try simp only [Act.put]); (try simp only [List.setIfInBounds_toArray]); (try simp only [List.set_cons_zero, List.set_cons_succ])
                              refine wpAnyH_done (by kernel_rfl) ?_ _
                              go_wp2_with fail
                              go_meet
                              case rel => exact ⟨bB, _, _, _, rfl, ImV.made IB u20 kB nB, hS⟩
                    · rw [if_pos (by kernel_rfl)]
                      (try simp only [List.getElem_toArray]); (try simp only [List.getElem_cons_succ]); (try simp only [List.getElem_cons_zero])
                      refine wp_alloc_im 26 zero26 16 rfl rfl ?_
                      intro bB W' hb GB lB
                      have kB := Nat.le_trans hS.size lB
                      have u17 := ownI_call u17 hb
                      refine hK.out _ _ (belI_call hS hb) (fun hS => ?_)
                      clear hK
                      (try simp only [Act.put]); (try simp only [List.setIfInBounds_toArray]); (try simp only [List.set_cons_zero, List.set_cons_succ])
                      refine wpAnyH_ready (rs := [3]) (by kernel_rfl) (by simp) ?_
                      refine (AllReadyH.cons rfl (fun K hK => ?_) AllReadyH.nil)
                      · rw [if_pos (by kernel_rfl)]
                        (try simp only [List.getElem_toArray]); (try simp only [List.getElem_cons_succ]); (try simp only [List.getElem_cons_zero])
                        go_simp
                        with_reducible refine (toIm X1 Y1 _ L1 _ Hn1.out (a1.call hS).rd).mono ?_
                        rintro e W' ⟨vo, rfl, u18, hb⟩
                        obtain ⟨A_u18, c_u18, he⟩ := ownI_shape u18
                        subst he
                        dsimp only
                        have u17 := ownI_call u17 hb
                        have GB := blk_call GB hb
                        refine hK.out _ _ (belI_call hS hb) (fun hS => ?_)
                        clear hK
                        (try simp only [Act.put]); (try simp only [List.setIfInBounds_toArray]); (try simp only [List.set_cons_zero, List.set_cons_succ])
                        refine wpAnyH_ready (rs := [5]) (by kernel_rfl) (by simp) ?_
                        refine (AllReadyH.cons rfl (fun K hK => ?_) AllReadyH.nil)
                        · rw [if_pos (by kernel_rfl)]
                          (try simp only [List.getElem_toArray]); (try simp only [List.getElem_cons_succ]); (try simp only [List.getElem_cons_zero])
                          go_simp
                          with_reducible refine (toRg _ G2 _ Hn2.out (a2.call hS).rd).mono ?_
                          rintro e W' ⟨vo, rfl, u19, hb⟩
                          obtain ⟨A_u19, c_u19, he⟩ := own_shape u19
                          subst he
                          dsimp only
                          have u17 := ownI_call u17 hb
                          have GB := blk_call GB hb
                          have u18 := ownI_call u18 hb
                          refine hK.out _ _ (belI_call hS hb) (fun hS => ?_)
                          clear hK
                          (try simp only [Act.put]); (try simp only [List.setIfInBounds_toArray]); (try simp only [List.set_cons_zero, List.set_cons_succ])
                          refine wpAnyH_ready (rs := [6]) (by kernel_rfl) (by simp) ?_
                          refine (AllReadyH.cons rfl (fun K hK => ?_) AllReadyH.nil)
                          · rw [if_pos (by kernel_rfl)]
                            (try simp only [List.getElem_toArray]); (try simp only [List.getElem_cons_succ]); (try simp only [List.getElem_cons_zero])
                            go_simp
                            with_reducible refine (HI.out _ _ (RdI.of_own u17) _ (RdI.of_own u18) _ (RdR.of_own u19)).mono ?_
                            rintro e W' ⟨vo, rfl, u20, hb⟩
                            obtain ⟨A_u20, c_u20, he⟩ := ownI_shape u20
                            subst he
                            have nB : ∀ k, (Value.slice A_u20 LR.length c_u20).ownBlock = some k → k ≠ bB := fun k hk => by have := (u20.lt k hk).1; have := (Array.getElem?_eq_some_iff.1 GB).1; omega
                            replace u20 := u20.mono hS.size
                            dsimp only
                            have u17 := ownI_call u17 hb
                            have GB := blk_call GB hb
                            have u18 := ownI_call u18 hb
                            have u19 := ownI_call u19 hb
                            refine hK.out _ _ (belI_call hS hb) (fun hS => ?_)
                            clear hK
                            (try simp only [Act.put]); (try simp only [List.setIfInBounds_toArray]); (try simp only [List.set_cons_zero, List.set_cons_succ])
                            refine wpAnyH_ready (rs := [8]) (by kernel_rfl) (by simp) ?_
                            refine (AllReadyH.cons rfl (fun K hK => ?_) AllReadyH.nil)
                            · rw [if_pos (by kernel_rfl)]
                              (try simp only [List.getElem_toArray]); (try simp only [List.getElem_cons_succ]); (try simp only [List.getElem_cons_zero])
                              refine wp_store_im 26 size26 (.tmp 16) (.tmp 102) rfl bB 0 0 (.slice none 0 0) XR YR A_u20 LR.length c_u20 rfl rfl GB ?_
                              intro W3 IB hgB
                              skip
                              skip
                              skip
                              skip
                              replace u20 := u20.kept hgB (ownA_ne nB)
                              refine hK.out _ _ (hS.grown hgB hS.size (fun k hk => by injection hk with hk; omega)) (fun hS => ?_)
                              clear hK
                              (try simp only [Act.put]); (try simp only [List.setIfInBounds_toArray]); (try simp only [List.set_cons_zero, List.set_cons_succ])
                              refine wpAnyH_done (by kernel_rfl) ?_ _
                              go_wp2_with fail
                              go_meet
                              case rel => exact ⟨bB, _, _, _, rfl, ImV.made IB u20 kB nB, hS⟩
                  · rw [if_pos (by kernel_rfl)]
                    (try simp only [List.getElem_toArray]); (try simp only [List.getElem_cons_succ]); (try simp only [List.getElem_cons_zero])
                    refine wp_alloc_im 26 zero26 16 rfl rfl ?_
                    intro bB W' hb GB lB
                    have kB := Nat.le_trans hS.size lB
                    refine hK.out _ _ (belI_call hS hb) (fun hS => ?_)
                    clear hK
                    (try simp only [Act.put]); (try simp only [List.setIfInBounds_toArray]); (try simp only [List.set_cons_zero, List.set_cons_succ])
                    refine wpAnyH_ready (rs := [1]) (by kernel_rfl) (by simp) ?_
                    refine (AllReadyH.cons rfl (fun K hK => ?_) AllReadyH.nil)
                    · rw [if_pos (by kernel_rfl)]
                      (try simp only [List.getElem_toArray]); (try simp only [List.getElem_cons_succ]); (try simp only [List.getElem_cons_zero])
                      go_simp
                      with_reducible refine (toIm X0 Y0 _ L0 _ Hn0.out (a0.call hS).rd).mono ?_
                      rintro e W' ⟨vo, rfl, u17, hb⟩
                      obtain ⟨A_u17, c_u17, he⟩ := ownI_shape u17
                      subst he
                      dsimp only
                      have GB := blk_call GB hb
                      refine hK.out _ _ (belI_call hS hb) (fun hS => ?_)
                      clear hK
                      (try simp only [Act.put]); (try simp only [List.setIfInBounds_toArray]); (try simp only [List.set_cons_zero, List.set_cons_succ])
                      refine wpAnyH_ready (rs := [3]) (by kernel_rfl) (by simp) ?_
                      refine (AllReadyH.cons rfl (fun K hK => ?_) AllReadyH.nil)
                      · rw [if_pos (by kernel_rfl)]
                        (try simp only [List.getElem_toArray]); (try simp only [List.getElem_cons_succ]); (try simp only [List.getElem_cons_zero])
                        go_simp
                        with_reducible refine (toIm X1 Y1 _ L1 _ Hn1.out (a1.call hS).rd).mono ?_
                        rintro e W' ⟨vo, rfl, u18, hb⟩
                        obtain ⟨A_u18, c_u18, he⟩ := ownI_shape u18
                        subst he
                        dsimp only
                        have GB := blk_call GB hb
                        have u17 := ownI_call u17 hb
                        refine hK.out _ _ (belI_call hS hb) (fun hS => ?_)
                        clear hK
                        (try simp only [Act.put]); (try simp only [List.setIfInBounds_toArray]); (try simp only [List.set_cons_zero, List.set_cons_succ])
                        refine wpAnyH_ready (rs := [5]) (by kernel_rfl) (by simp) ?_
                        refine (AllReadyH.cons rfl (fun K hK => ?_) AllReadyH.nil)
                        · rw [if_pos (by kernel_rfl)]
                          (try simp only [List.getElem_toArray]); (try simp only [List.getElem_cons_succ]); (try simp only [List.getElem_cons_zero])
                          go_simp
                          with_reducible refine (toRg _ G2 _ Hn2.out (a2.call hS).rd).mono ?_
                          rintro e W' ⟨vo, rfl, u19, hb⟩
                          obtain ⟨A_u19, c_u19, he⟩ := own_shape u19
                          subst he
                          dsimp only
                          have GB := blk_call GB hb
                          have u17 := ownI_call u17 hb
                          have u18 := ownI_call u18 hb
                          refine hK.out _ _ (belI_call hS hb) (fun hS => ?_)
                          clear hK
                          (try simp only [Act.put]); (try simp only [List.setIfInBounds_toArray]); (try simp only [List.set_cons_zero, List.set_cons_succ])
                          refine wpAnyH_ready (rs := [6]) (by kernel_rfl) (by simp) ?_
                          refine (AllReadyH.cons rfl (fun K hK => ?_) AllReadyH.nil)
                          · rw [if_pos (by kernel_rfl)]
                            (try simp only [List.getElem_toArray]); (try simp only [List.getElem_cons_succ]); (try simp only [List.getElem_cons_zero])
                            go_simp
                            with_reducible refine (HI.out _ _ (RdI.of_own u17) _ (RdI.of_own u18) _ (RdR.of_own u19)).mono ?_
                            rintro e W' ⟨vo, rfl, u20, hb⟩
                            obtain ⟨A_u20, c_u20, he⟩ := ownI_shape u20
                            subst he
                            have nB : ∀ k, (Value.slice A_u20 LR.length c_u20).ownBlock = some k → k ≠ bB := fun k hk => by have := (u20.lt k hk).1; have := (Array.getElem?_eq_some_iff.1 GB).1; omega
                            replace u20 := u20.mono hS.size
                            dsimp only
                            have GB := blk_call GB hb
                            have u17 := ownI_call u17 hb
                            have u18 := ownI_call u18 hb
                            have u19 := ownI_call u19 hb
                            refine hK.out _ _ (belI_call hS hb) (fun hS => ?_)
                            clear hK
                            (try simp only [Act.put]); (try simp only [List.setIfInBounds_toArray]); (try simp only [List.set_cons_zero, List.set_cons_succ])
                            refine wpAnyH_ready (rs := [8]) (by kernel_rfl) (by simp) ?_
                            refine (AllReadyH.cons rfl (fun K hK => ?_) AllReadyH.nil)
                            · rw [if_pos (by kernel_rfl)]
                              (try simp only [List.getElem_toArray]); (try simp only [List.getElem_cons_succ]); (try simp only [List.getElem_cons_zero])
                              refine wp_store_im 26 size26 (.tmp 16) (.tmp 102) rfl bB 0 0 (.slice none 0 0) XR YR A_u20 LR.length c_u20 rfl rfl GB ?_
                              intro W3 IB hgB
                              skip
                              skip
                              skip
                              skip
                              replace u20 := u20.kept hgB (ownA_ne nB)
                              refine hK.out _ _ (hS.grown hgB hS.size (fun k hk => by injection hk with hk; omega)) (fun hS => ?_)
                              clear hK
                              (try simp only [Act.put]); (try simp only [List.setIfInBounds_toArray]); (try simp only [List.set_cons_zero, List.set_cons_succ])
                              refine wpAnyH_done (by kernel_rfl) ?_ _
                              go_wp2_with fail
                              go_meet
                              case rel => exact ⟨bB, _, _, _, rfl, ImV.made IB u20 kB nB, hS⟩
                case rest =>
                  obtain ⟨b_V21, hi_V21, A_V21, c_V21, rfl, V21, hb⟩ := hcut
                  obtain ⟨w25, hWy⟩ : ∃ w25, w25 = wc := ⟨_, rfl⟩
                  subst hWy
                  have hs_V5_V21 := Lib.hid V5.hs
                  have hs_V7_V21 := Lib.hid V7.hs
                  have hs_V9_V21 := Lib.hid V9.hs
                  have hs_V11_V21 := Lib.hid V11.hs
                  have hs_V13_V21 := Lib.hid V13.hs
                  have hlo_V21 := Lib.hid Kw.size
                  have hl_a0_V21 := Lib.hid a0.lt
                  have hl_a1_V21 := Lib.hid a1.lt
                  have hl_a2_V21 := Lib.hid a2.lt
                  replace a0 := a0.call hb
                  replace a1 := a1.call hb
                  replace a2 := a2.call hb
                  replace V5 := V5.call hb
                  replace V7 := V7.call hb
                  replace V9 := V9.call hb
                  replace V11 := V11.call hb
                  replace V13 := V13.call hb
                  replace Kw := belI_call Kw hb
                  clear hb
                  obtain ⟨a0_0, a0_1, a0_2⟩ := a0.cells
                  obtain ⟨a1_0, a1_1, a1_2⟩ := a1.cells
                  have a2_0 := a2.cell
                  obtain ⟨V5_0, V5_1, V5_2⟩ := V5.cells
                  obtain ⟨V7_0, V7_1, V7_2⟩ := V7.cells
                  obtain ⟨V9_0, V9_1, V9_2⟩ := V9.cells
                  have V11_0 := V11.cell
                  obtain ⟨V13_0, V13_1, V13_2⟩ := V13.cells
                  obtain ⟨V21_0, V21_1, V21_2⟩ := V21.cells
                  go_wp2_with fail
                  clear a0_0 a0_1 a0_2 a1_0 a1_1 a1_2 a2_0 V5_0 V5_1 V5_2 V7_0 V7_1 V7_2 V9_0 V9_1 V9_2 V11_0 V13_0 V13_1 V13_2 V21_0 V21_1 V21_2
                  refine (eqIm_same _ _ _ _ LR _ V21.rd V5.rd).mono ?_
                  rintro e w26 ⟨rfl, hb⟩
                  replace a0 := a0.call hb
                  replace a1 := a1.call hb
                  replace a2 := a2.call hb
                  replace V5 := V5.call hb
                  replace V7 := V7.call hb
                  replace V9 := V9.call hb
                  replace V11 := V11.call hb
                  replace V13 := V13.call hb
                  replace V21 := V21.call hb
                  replace Kw := belI_call Kw hb
                  clear hb
                  obtain ⟨a0_0, a0_1, a0_2⟩ := a0.cells
                  obtain ⟨a1_0, a1_1, a1_2⟩ := a1.cells
                  have a2_0 := a2.cell
                  obtain ⟨V5_0, V5_1, V5_2⟩ := V5.cells
                  obtain ⟨V7_0, V7_1, V7_2⟩ := V7.cells
                  obtain ⟨V9_0, V9_1, V9_2⟩ := V9.cells
                  have V11_0 := V11.cell
                  obtain ⟨V13_0, V13_1, V13_2⟩ := V13.cells
                  obtain ⟨V21_0, V21_1, V21_2⟩ := V21.cells
                  go_wp2_with fail
                  clear a0_0 a0_1 a0_2 a1_0 a1_1 a1_2 a2_0 V5_0 V5_1 V5_2 V7_0 V7_1 V7_2 V9_0 V9_1 V9_2 V11_0 V13_0 V13_1 V13_2 V21_0 V21_1 V21_2
                  refine (heldIm XR YR _ 1 LR.length _ (by omega) V13.rd).mono ?_
                  rintro e w27 ⟨rfl, hb⟩
                  replace a0 := a0.call hb
                  replace a1 := a1.call hb
                  replace a2 := a2.call hb
                  replace V5 := V5.call hb
                  replace V7 := V7.call hb
                  replace V9 := V9.call hb
                  replace V11 := V11.call hb
                  replace V13 := V13.call hb
                  replace V21 := V21.call hb
                  replace Kw := belI_call Kw hb
                  clear hb
                  go_wp2_with fail
                  go_ret
                  exact ⟨rfl, Kw⟩
end Go.Proofs.Ytmjndoedchiggaa
