/- The walk of the law FnExactSameImage: it returns true for every two images. -/
import Derived.Test.YtnhalmfljefliaaLaw
import Derived.Test.YtnhalmfljefliaaSameIm
namespace Go.Proofs.Ytnhalmfljefliaa
open Go.RowKit
set_option maxHeartbeats 1000000 in
set_option maxRecDepth 10000 in
theorem walk_FnExactSameImage (X0 Y0 : Int) (v0 : Value) (L0 : List Int) (X1 Y1 : Int) (v1 : Value) (L1 : List Int) (w : World) (h0 : Rd w v0 L0.length (intCells L0)) (h1 : Rd w v1 L1.length (intCells L1)) :
    Calls Try.prog 11 #[.agg #[.int .i64 X0, .int .i64 Y0, v0], .agg #[.int .i64 X1, .int .i64 Y1, v1]] w fun e w' => e = .returned (.bool true) ∧ Below w.heap.size w w' := by
  obtain ⟨q, hq⟩ : ∃ q, q = sameM X0 Y0 L0 X1 Y1 L1 := ⟨_, rfl⟩
  obtain ⟨A0, c0, rfl⟩ := h0.form
  have hm0 : L0.length ≤ maxLen := h0.len.2
  obtain ⟨A1, c1, rfl⟩ := h1.form
  have hm1 : L1.length ≤ maxLen := h1.len.2
  have Kw := Below.refl w.heap.size w
  have hb0 := belI_box w (.cells #[.int .i64 X0, .int .i64 Y0, .slice A0 L0.length c0] 41)
  have a0 : ImA (w.heap.size) X0 Y0 (.slice A0 L0.length c0) L0 (w.alloc (.cells #[.int .i64 X0, .int .i64 Y0, .slice A0 L0.length c0] 41)) := ⟨ImAt.newAt (w := w) (by simp) _ _ _ _, (h0.call Kw).call hb0⟩
  replace Kw := belI_call Kw hb0
  clear hb0
  have hb1 := belI_box (w.alloc (.cells #[.int .i64 X0, .int .i64 Y0, .slice A0 L0.length c0] 41)) (.cells #[.int .i64 X1, .int .i64 Y1, .slice A1 L1.length c1] 41)
  replace a0 := a0.call hb1
  have a1 : ImA (w.heap.size + 1) X1 Y1 (.slice A1 L1.length c1) L1 ((w.alloc (.cells #[.int .i64 X0, .int .i64 Y0, .slice A0 L0.length c0] 41)).alloc (.cells #[.int .i64 X1, .int .i64 Y1, .slice A1 L1.length c1] 41)) := ⟨ImAt.newAt (w := (w.alloc (.cells #[.int .i64 X0, .int .i64 Y0, .slice A0 L0.length c0] 41))) (by simp) _ _ _ _, (h1.call Kw).call hb1⟩
  replace Kw := belI_call Kw hb1
  clear hb1
  obtain ⟨w0, hw0⟩ : ∃ w0, w0 = ((w.alloc (.cells #[.int .i64 X0, .int .i64 Y0, .slice A0 L0.length c0] 41)).alloc (.cells #[.int .i64 X1, .int .i64 Y1, .slice A1 L1.length c1] 41)) := ⟨_, rfl⟩
  rw [← hw0] at Kw a0 a1
  have Hw := Lib.hid hw0
  clear hw0 h0 h1
  by_cases g0 : L0.length ≤ 1048576
  rotate_left
  · have g' : ¬ L0.length ≤ 1048576 := g0
    obtain ⟨a0_0, a0_1, a0_2⟩ := a0.cells
    obtain ⟨a1_0, a1_1, a1_2⟩ := a1.cells
    go_enter Try.func11, Try.ntmps11
    go_wp2_with fail
    rw [← Hw.out]
    clear a0_0 a0_1 a0_2 a1_0 a1_1 a1_2
    have q0 : (0 : Int) ≤ (1048576 : Int) := by omega
    have q1 : (1048576 : Int) < (L0.length : Int) := by omega
    refine (szIm_no X0 Y0 L0.length A0 c0 hm0 _ q0 q1 _).mono ?_
    rintro e w1 ⟨rfl, hb⟩
    replace a0 := a0.call hb
    replace a1 := a1.call hb
    replace Kw := belI_call Kw hb
    clear hb
    go_wp2_with fail
    go_ret
    exact ⟨rfl, Kw⟩
  by_cases g1 : L0.length + L1.length ≤ 1048576
  rotate_left
  · have g' : ¬ L0.length + L1.length ≤ 1048576 := g1
    obtain ⟨a0_0, a0_1, a0_2⟩ := a0.cells
    obtain ⟨a1_0, a1_1, a1_2⟩ := a1.cells
    go_enter Try.func11, Try.ntmps11
    go_wp2_with fail
    rw [← Hw.out]
    clear a0_0 a0_1 a0_2 a1_0 a1_1 a1_2
    refine (szIm_yes X0 Y0 L0.length A0 c0 _ (by omega) (by omega) _).mono ?_
    rintro e w2 ⟨rfl, hb⟩
    replace a0 := a0.call hb
    replace a1 := a1.call hb
    replace Kw := belI_call Kw hb
    clear hb
    have z0 : ¬ ((1048576 : Int) - (L0.length : Int)) < 0 := by omega
    obtain ⟨a0_0, a0_1, a0_2⟩ := a0.cells
    obtain ⟨a1_0, a1_1, a1_2⟩ := a1.cells
    go_wp2_with fail
    clear a0_0 a0_1 a0_2 a1_0 a1_1 a1_2
    have q0 : (0 : Int) ≤ ((1048576 : Int) - (L0.length : Int)) := by omega
    have q1 : ((1048576 : Int) - (L0.length : Int)) < (L1.length : Int) := by omega
    refine (szIm_no X1 Y1 L1.length A1 c1 hm1 _ q0 q1 _).mono ?_
    rintro e w3 ⟨rfl, hb⟩
    replace a0 := a0.call hb
    replace a1 := a1.call hb
    replace Kw := belI_call Kw hb
    clear hb
    go_wp2_with fail
    go_ret
    exact ⟨rfl, Kw⟩
  have n0 : L0.length ≤ 1048576 := by omega
  have n1 : L1.length ≤ 1048576 := by omega
  have Hn0 := Lib.hid n0
  have Hn1 := Lib.hid n1
  have PS := fun (W : World) u0 k0 u1 k1 => sameIS X0 Y0 u0 L0 X1 Y1 u1 L1 W k0 k1
  have PI := fun (W : World) u0 k0 u1 k1 => sameII X0 Y0 u0 L0 X1 Y1 u1 L1 W k0 k1
  unfold SameMAns at PS PI
  rw [← hq] at PS PI
  have HS := Lib.hid PS
  have HI := Lib.hid PI
  clear PS PI hq
  obtain ⟨a0_0, a0_1, a0_2⟩ := a0.cells
  obtain ⟨a1_0, a1_1, a1_2⟩ := a1.cells
  go_enter Try.func11, Try.ntmps11
  go_wp2_with fail
  rw [← Hw.out]
  clear a0_0 a0_1 a0_2 a1_0 a1_1 a1_2
  refine (szIm_yes X0 Y0 L0.length A0 c0 _ (by omega) (by omega) _).mono ?_
  rintro e w4 ⟨rfl, hb⟩
  replace a0 := a0.call hb
  replace a1 := a1.call hb
  replace Kw := belI_call Kw hb
  clear hb
  have z0 : ¬ ((1048576 : Int) - (L0.length : Int)) < 0 := by omega
  obtain ⟨a0_0, a0_1, a0_2⟩ := a0.cells
  obtain ⟨a1_0, a1_1, a1_2⟩ := a1.cells
  go_wp2_with fail
  clear a0_0 a0_1 a0_2 a1_0 a1_1 a1_2
  refine (szIm_yes X1 Y1 L1.length A1 c1 _ (by omega) (by omega) _).mono ?_
  rintro e w5 ⟨rfl, hb⟩
  replace a0 := a0.call hb
  replace a1 := a1.call hb
  replace Kw := belI_call Kw hb
  clear hb
  have z1 : ¬ (((1048576 : Int) - (L0.length : Int)) - (L1.length : Int)) < 0 := by omega
  obtain ⟨a0_0, a0_1, a0_2⟩ := a0.cells
  obtain ⟨a1_0, a1_1, a1_2⟩ := a1.cells
  go_upto_region 8 with fail
  clear a0_0 a0_1 a0_2 a1_0 a1_1 a1_2
  refine wp_region_held_drew (S := fun W => Below w5.heap.size w5 W) (by kernel_rfl) (Below.refl _ _).drew (fun hS => ?_)
  refine wpAnyH_take (i := 0) (v := .agg #[.int .i64 X0, .int .i64 Y0, .slice A0 L0.length c0]) rfl (by kernel_rfl) (by kernel_rfl) (by kernel_rfl) (fun _ _ _ h => h) (Or.inl ⟨by kernel_rfl, by intro w' hSw; (try dsimp only at hSw); (obtain ⟨a0_0, a0_1, a0_2⟩ := (a0.call hSw).cells); (obtain ⟨a1_0, a1_1, a1_2⟩ := (a1.call hSw).cells); go_simp⟩) (by assumption) ?_
  refine wpAnyH_take (i := 2) (v := .agg #[.int .i64 X1, .int .i64 Y1, .slice A1 L1.length c1]) rfl (by kernel_rfl) (by kernel_rfl) (by kernel_rfl) (fun _ _ _ h => h) (Or.inl ⟨by kernel_rfl, by intro w' hSw; (try dsimp only at hSw); (obtain ⟨a0_0, a0_1, a0_2⟩ := (a0.call hSw).cells); (obtain ⟨a1_0, a1_1, a1_2⟩ := (a1.call hSw).cells); go_simp⟩) (by assumption) ?_
  (try simp only [Act.put]); (try simp only [List.setIfInBounds_toArray]); (try simp only [List.set_cons_zero, List.set_cons_succ])
  refine wpAnyH_ready (rs := [1]) (by kernel_rfl) (by simp) ?_
  refine (AllReadyH.cons rfl (fun K hK => ?_) AllReadyH.nil)
  · rw [if_pos (by kernel_rfl)]
    (try simp only [List.getElem_toArray]); (try simp only [List.getElem_cons_succ]); (try simp only [List.getElem_cons_zero])
    go_simp
    with_reducible refine (toIm X0 Y0 _ L0 _ Hn0.out (a0.call hS).rd).mono ?_
    rintro e W' ⟨vo, rfl, u1, hb⟩
    obtain ⟨A_u1, c_u1, he⟩ := ownI_shape u1
    subst he
    dsimp only
    refine hK.out _ _ (belI_call hS hb) (fun hS => ?_)
    clear hK
    (try simp only [Act.put]); (try simp only [List.setIfInBounds_toArray]); (try simp only [List.set_cons_zero, List.set_cons_succ])
    refine wpAnyH_ready (rs := [3]) (by kernel_rfl) (by simp) ?_
    refine (AllReadyH.cons rfl (fun K hK => ?_) AllReadyH.nil)
    · rw [if_pos (by kernel_rfl)]
      (try simp only [List.getElem_toArray]); (try simp only [List.getElem_cons_succ]); (try simp only [List.getElem_cons_zero])
      go_simp
      with_reducible refine (toIm X1 Y1 _ L1 _ Hn1.out (a1.call hS).rd).mono ?_
      rintro e W' ⟨vo, rfl, u2, hb⟩
      obtain ⟨A_u2, c_u2, he⟩ := ownI_shape u2
      subst he
      dsimp only
      have u1 := ownI_call u1 hb
      refine hK.out _ _ (belI_call hS hb) (fun hS => ?_)
      clear hK
      (try simp only [Act.put]); (try simp only [List.setIfInBounds_toArray]); (try simp only [List.set_cons_zero, List.set_cons_succ])
      refine wpAnyH_ready (rs := [4]) (by kernel_rfl) (by simp) ?_
      refine (AllReadyH.cons rfl (fun K hK => ?_) AllReadyH.nil)
      · rw [if_pos (by kernel_rfl)]
        (try simp only [List.getElem_toArray]); (try simp only [List.getElem_cons_succ]); (try simp only [List.getElem_cons_zero])
        go_simp
        with_reducible refine (HS.out _ _ (RdI.of_own u1) _ (RdI.of_own u2)).mono ?_
        rintro e W' ⟨rfl, hb⟩
        dsimp only
        have u1 := ownI_call u1 hb
        have u2 := ownI_call u2 hb
        refine hK.out _ _ (belI_call hS hb) (fun hS => ?_)
        clear hK
        (try simp only [Act.put]); (try simp only [List.setIfInBounds_toArray]); (try simp only [List.set_cons_zero, List.set_cons_succ])
        refine wpAnyH_take (i := 5) (v := .bool q) rfl (by kernel_rfl) (by kernel_rfl) (by kernel_rfl) (fun _ _ _ h => h) (Or.inl ⟨by kernel_rfl, by intro w' hSw; (try dsimp only at hSw); (obtain ⟨a0_0, a0_1, a0_2⟩ := (a0.call hSw).cells); (obtain ⟨a1_0, a1_1, a1_2⟩ := (a1.call hSw).cells); go_simp⟩) (by assumption) ?_
        refine wpAnyH_done (by kernel_rfl) ?_ _
        have hb := hS
        replace a0 := a0.call hb
        replace a1 := a1.call hb
        replace Kw := belI_call Kw hb
        clear hb hS
        clear u1
        clear u2
        obtain ⟨w6, hWy⟩ : ∃ w6, w6 = W' := ⟨_, rfl⟩
        subst hWy
        obtain ⟨a0_0, a0_1, a0_2⟩ := a0.cells
        obtain ⟨a1_0, a1_1, a1_2⟩ := a1.cells
        go_wp2_with fail
        clear a0_0 a0_1 a0_2 a1_0 a1_1 a1_2
        refine (toIm X0 Y0 _ L0 _ Hn0.out a0.rd).mono ?_
        rintro e w7 ⟨vo, rfl, u3, hb⟩
        obtain ⟨A_u3, c_u3, he⟩ := ownI_shape u3
        subst he
        have hlo_V4 := Lib.hid Kw.size
        have V4 := ImV.born (X := X0) (Y := Y0) hb u3
        replace hb := belI_call hb (belI_box w7 (.cells #[.int .i64 X0, .int .i64 Y0, .slice A_u3 L0.length c_u3] 26))
        replace a0 := a0.call hb
        replace a1 := a1.call hb
        replace Kw := belI_call Kw hb
        clear hb u3
        obtain ⟨a0_0, a0_1, a0_2⟩ := a0.cells
        obtain ⟨a1_0, a1_1, a1_2⟩ := a1.cells
        obtain ⟨V4_0, V4_1, V4_2⟩ := V4.cells
        go_wp2_with fail
        clear a0_0 a0_1 a0_2 a1_0 a1_1 a1_2 V4_0 V4_1 V4_2
        refine (toIm X1 Y1 _ L1 _ Hn1.out a1.rd).mono ?_
        rintro e w8 ⟨vo, rfl, u5, hb⟩
        obtain ⟨A_u5, c_u5, he⟩ := ownI_shape u5
        subst he
        have hs_V4_V6 := Lib.hid V4.hs
        have hlo_V6 := Lib.hid Kw.size
        have V6 := ImV.born (X := X1) (Y := Y1) hb u5
        replace hb := belI_call hb (belI_box w8 (.cells #[.int .i64 X1, .int .i64 Y1, .slice A_u5 L1.length c_u5] 26))
        replace a0 := a0.call hb
        replace a1 := a1.call hb
        replace V4 := V4.call hb
        replace Kw := belI_call Kw hb
        clear hb u5
        obtain ⟨a0_0, a0_1, a0_2⟩ := a0.cells
        obtain ⟨a1_0, a1_1, a1_2⟩ := a1.cells
        obtain ⟨V4_0, V4_1, V4_2⟩ := V4.cells
        obtain ⟨V6_0, V6_1, V6_2⟩ := V6.cells
        go_wp2_with fail
        clear a0_0 a0_1 a0_2 a1_0 a1_1 a1_2 V4_0 V4_1 V4_2 V6_0 V6_1 V6_2
        refine (HI.out _ _ V4.rd _ V6.rd).mono ?_
        rintro e w9 ⟨rfl, hb⟩
        replace a0 := a0.call hb
        replace a1 := a1.call hb
        replace V4 := V4.call hb
        replace V6 := V6.call hb
        replace Kw := belI_call Kw hb
        clear hb
        obtain ⟨a0_0, a0_1, a0_2⟩ := a0.cells
        obtain ⟨a1_0, a1_1, a1_2⟩ := a1.cells
        obtain ⟨V4_0, V4_1, V4_2⟩ := V4.cells
        obtain ⟨V6_0, V6_1, V6_2⟩ := V6.cells
        go_upto_region 14 with fail
        clear a0_0 a0_1 a0_2 a1_0 a1_1 a1_2 V4_0 V4_1 V4_2 V6_0 V6_1 V6_2
        refine wp_region_held_drew (S := fun W => Below w9.heap.size w9 W) (by kernel_rfl) (Below.refl _ _).drew (fun hS => ?_)
        refine wpAnyH_take (i := 0) (v := .agg #[.int .i64 X0, .int .i64 Y0, .slice A_u3 L0.length c_u3]) rfl (by kernel_rfl) (by kernel_rfl) (by kernel_rfl) (fun _ _ _ h => h) (Or.inl ⟨by kernel_rfl, by intro w' hSw; (try dsimp only at hSw); (obtain ⟨a0_0, a0_1, a0_2⟩ := (a0.call hSw).cells); (obtain ⟨a1_0, a1_1, a1_2⟩ := (a1.call hSw).cells); (obtain ⟨V4_0, V4_1, V4_2⟩ := (V4.call hSw).cells); (obtain ⟨V6_0, V6_1, V6_2⟩ := (V6.call hSw).cells); go_simp⟩) (by assumption) ?_
        refine wpAnyH_take (i := 1) (v := .agg #[.int .i64 X0, .int .i64 Y0, .slice A0 L0.length c0]) rfl (by kernel_rfl) (by kernel_rfl) (by kernel_rfl) (fun _ _ _ h => h) (Or.inl ⟨by kernel_rfl, by intro w' hSw; (try dsimp only at hSw); (obtain ⟨a0_0, a0_1, a0_2⟩ := (a0.call hSw).cells); (obtain ⟨a1_0, a1_1, a1_2⟩ := (a1.call hSw).cells); (obtain ⟨V4_0, V4_1, V4_2⟩ := (V4.call hSw).cells); (obtain ⟨V6_0, V6_1, V6_2⟩ := (V6.call hSw).cells); go_simp⟩) (by assumption) ?_
        (try simp only [Act.put]); (try simp only [List.setIfInBounds_toArray]); (try simp only [List.set_cons_zero, List.set_cons_succ])
        refine wpAnyH_ready (rs := [2]) (by kernel_rfl) (by simp) ?_
        refine (AllReadyH.cons rfl (fun K hK => ?_) AllReadyH.nil)
        · rw [if_pos (by kernel_rfl)]
          (try simp only [List.getElem_toArray]); (try simp only [List.getElem_cons_succ]); (try simp only [List.getElem_cons_zero])
          go_simp
          with_reducible refine (toIm X0 Y0 _ L0 _ Hn0.out (a0.call hS).rd).mono ?_
          rintro e W' ⟨vo, rfl, u7, hb⟩
          obtain ⟨A_u7, c_u7, he⟩ := ownI_shape u7
          subst he
          dsimp only
          refine hK.out _ _ (belI_call hS hb) (fun hS => ?_)
          clear hK
          (try simp only [Act.put]); (try simp only [List.setIfInBounds_toArray]); (try simp only [List.set_cons_zero, List.set_cons_succ])
          refine wpAnyH_ready (rs := [3]) (by kernel_rfl) (by simp) ?_
          refine (AllReadyH.cons rfl (fun K hK => ?_) AllReadyH.nil)
          · rw [if_pos (by kernel_rfl)]
            (try simp only [List.getElem_toArray]); (try simp only [List.getElem_cons_succ]); (try simp only [List.getElem_cons_zero])
            go_simp
            with_reducible refine (eqIm_same _ _ _ _ L0 _ (V4.call hS).rd (RdI.of_own u7)).mono ?_
            rintro e W' ⟨rfl, hb⟩
            dsimp only
            have u7 := ownI_call u7 hb
            refine hK.out _ _ (belI_call hS hb) (fun hS => ?_)
            clear hK
            (try simp only [Act.put]); (try simp only [List.setIfInBounds_toArray]); (try simp only [List.set_cons_zero, List.set_cons_succ])
            refine wpAnyH_take (i := 4) (v := .bool false) rfl (by kernel_rfl) (by kernel_rfl) (by kernel_rfl) (fun _ _ _ h => h) (Or.inl ⟨by kernel_rfl, by intro w' hSw; (try dsimp only at hSw); (obtain ⟨a0_0, a0_1, a0_2⟩ := (a0.call hSw).cells); (obtain ⟨a1_0, a1_1, a1_2⟩ := (a1.call hSw).cells); (obtain ⟨V4_0, V4_1, V4_2⟩ := (V4.call hSw).cells); (obtain ⟨V6_0, V6_1, V6_2⟩ := (V6.call hSw).cells); go_simp⟩) (by assumption) ?_
            refine wpAnyH_done (by kernel_rfl) ?_ _
            have hb := hS
            replace a0 := a0.call hb
            replace a1 := a1.call hb
            replace V4 := V4.call hb
            replace V6 := V6.call hb
            replace Kw := belI_call Kw hb
            clear hb hS
            clear u7
            obtain ⟨w10, hWy⟩ : ∃ w10, w10 = W' := ⟨_, rfl⟩
            subst hWy
            obtain ⟨a0_0, a0_1, a0_2⟩ := a0.cells
            obtain ⟨a1_0, a1_1, a1_2⟩ := a1.cells
            obtain ⟨V4_0, V4_1, V4_2⟩ := V4.cells
            obtain ⟨V6_0, V6_1, V6_2⟩ := V6.cells
            go_upto_region 16 with fail
            clear a0_0 a0_1 a0_2 a1_0 a1_1 a1_2 V4_0 V4_1 V4_2 V6_0 V6_1 V6_2
            refine wp_region_held_drew (S := fun W => Below w10.heap.size w10 W) (by kernel_rfl) (Below.refl _ _).drew (fun hS => ?_)
            refine wpAnyH_take (i := 0) (v := .agg #[.int .i64 X1, .int .i64 Y1, .slice A_u5 L1.length c_u5]) rfl (by kernel_rfl) (by kernel_rfl) (by kernel_rfl) (fun _ _ _ h => h) (Or.inl ⟨by kernel_rfl, by intro w' hSw; (try dsimp only at hSw); (obtain ⟨a0_0, a0_1, a0_2⟩ := (a0.call hSw).cells); (obtain ⟨a1_0, a1_1, a1_2⟩ := (a1.call hSw).cells); (obtain ⟨V4_0, V4_1, V4_2⟩ := (V4.call hSw).cells); (obtain ⟨V6_0, V6_1, V6_2⟩ := (V6.call hSw).cells); go_simp⟩) (by assumption) ?_
            refine wpAnyH_take (i := 1) (v := .agg #[.int .i64 X1, .int .i64 Y1, .slice A1 L1.length c1]) rfl (by kernel_rfl) (by kernel_rfl) (by kernel_rfl) (fun _ _ _ h => h) (Or.inl ⟨by kernel_rfl, by intro w' hSw; (try dsimp only at hSw); (obtain ⟨a0_0, a0_1, a0_2⟩ := (a0.call hSw).cells); (obtain ⟨a1_0, a1_1, a1_2⟩ := (a1.call hSw).cells); (obtain ⟨V4_0, V4_1, V4_2⟩ := (V4.call hSw).cells); (obtain ⟨V6_0, V6_1, V6_2⟩ := (V6.call hSw).cells); go_simp⟩) (by assumption) ?_
            (try simp only [Act.put]); (try simp only [List.setIfInBounds_toArray]); (try simp only [List.set_cons_zero, List.set_cons_succ])
            refine wpAnyH_ready (rs := [2]) (by kernel_rfl) (by simp) ?_
            refine (AllReadyH.cons rfl (fun K hK => ?_) AllReadyH.nil)
            · rw [if_pos (by kernel_rfl)]
              (try simp only [List.getElem_toArray]); (try simp only [List.getElem_cons_succ]); (try simp only [List.getElem_cons_zero])
              go_simp
              with_reducible refine (toIm X1 Y1 _ L1 _ Hn1.out (a1.call hS).rd).mono ?_
              rintro e W' ⟨vo, rfl, u8, hb⟩
              obtain ⟨A_u8, c_u8, he⟩ := ownI_shape u8
              subst he
              dsimp only
              refine hK.out _ _ (belI_call hS hb) (fun hS => ?_)
              clear hK
              (try simp only [Act.put]); (try simp only [List.setIfInBounds_toArray]); (try simp only [List.set_cons_zero, List.set_cons_succ])
              refine wpAnyH_ready (rs := [3]) (by kernel_rfl) (by simp) ?_
              refine (AllReadyH.cons rfl (fun K hK => ?_) AllReadyH.nil)
              · rw [if_pos (by kernel_rfl)]
                (try simp only [List.getElem_toArray]); (try simp only [List.getElem_cons_succ]); (try simp only [List.getElem_cons_zero])
                go_simp
                with_reducible refine (eqIm_same _ _ _ _ L1 _ (V6.call hS).rd (RdI.of_own u8)).mono ?_
                rintro e W' ⟨rfl, hb⟩
                dsimp only
                have u8 := ownI_call u8 hb
                refine hK.out _ _ (belI_call hS hb) (fun hS => ?_)
                clear hK
                (try simp only [Act.put]); (try simp only [List.setIfInBounds_toArray]); (try simp only [List.set_cons_zero, List.set_cons_succ])
                refine wpAnyH_take (i := 4) (v := .bool false) rfl (by kernel_rfl) (by kernel_rfl) (by kernel_rfl) (fun _ _ _ h => h) (Or.inl ⟨by kernel_rfl, by intro w' hSw; (try dsimp only at hSw); (obtain ⟨a0_0, a0_1, a0_2⟩ := (a0.call hSw).cells); (obtain ⟨a1_0, a1_1, a1_2⟩ := (a1.call hSw).cells); (obtain ⟨V4_0, V4_1, V4_2⟩ := (V4.call hSw).cells); (obtain ⟨V6_0, V6_1, V6_2⟩ := (V6.call hSw).cells); go_simp⟩) (by assumption) ?_
                refine wpAnyH_done (by kernel_rfl) ?_ _
                have hb := hS
                replace a0 := a0.call hb
                replace a1 := a1.call hb
                replace V4 := V4.call hb
                replace V6 := V6.call hb
                replace Kw := belI_call Kw hb
                clear hb hS
                clear u8
                obtain ⟨w11, hWy⟩ : ∃ w11, w11 = W' := ⟨_, rfl⟩
                subst hWy
                go_wp2_with fail
                go_ret
                exact ⟨rfl, Kw⟩
end Go.Proofs.Ytnhalmfljefliaa
