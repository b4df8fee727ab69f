/- The walk of the law FnExactWithoutOf: it returns true for every pair of regions. -/
import Derived.Test.YtcffeakajfbhhaaExJ
import Derived.Test.YtcffeakajfbhhaaJn2
import Derived.Deep.DeepCutAuto
import Derived.Deep.RegionHeld3
namespace Go.Proofs.Ytcffeakajfbhhaa
open Go.RowKit
set_option maxHeartbeats 8000000 in
set_option maxRecDepth 10000 in
theorem walk_FnExactWithoutOf (va : Value) (A : List Rc) (vb : Value) (B : List Rc) (w : World) (ha : LdR w va A) (hb : LdR w vb B) :
    Calls Try.prog 10 #[.agg #[va], .agg #[vb]] w fun e w' => e = .returned (.bool true) ∧ Below w.heap.size w w' := by
  obtain ⟨Aa, ca, rfl⟩ := ha.form
  obtain ⟨Ab, cb, rfl⟩ := hb.form
  obtain ⟨n, hn⟩ : ∃ n, n = A.length := ⟨_, rfl⟩
  obtain ⟨m, hm⟩ : ∃ m, m = B.length := ⟨_, rfl⟩
  have hnm := ha.1
  have hmm := hb.1
  rw [← hn] at ha hnm ⊢
  rw [← hm] at hb hmm ⊢
  have Hn := Lib.hid hn
  have Hm := Lib.hid hm
  clear hn hm
  have hJ := ArgJ.born w (.slice Aa n ca) (.slice Ab m cb)
  obtain ⟨x1, x2⟩ := hJ.cells
  by_cases hbig : n ≤ 1048576
  · by_cases hbig2 : n + m ≤ 1048576
    · have hn1 : A.length ≤ 1048576 := by rw [← Hn.out]; exact hbig
      have hm1 : B.length ≤ 1048576 := by rw [← Hm.out]; omega
      obtain ⟨R, hR⟩ : ∃ R, R = joinL (fun p q => p && !q) A B := ⟨_, rfl⟩
      have hRl : R.length ≤ 256 := by rw [hR]; exact joinL_len _ _ _
      have JI := fun a b W h1 h2 => jnI2 a b A B W h1 h2
      have JS := fun a b W h1 h2 => jnS2 a b A B W h1 h2
      unfold JoinAns at JI JS
      rw [← hR] at JI JS
      have HI := Lib.hid JI
      have HS := Lib.hid JS
      clear hR JI JS
      have c1 : ¬ ((1048576 : Int) - (n : Int) < 0) := by omega
      have c2 : ¬ ((1048576 : Int) - (n : Int) - (m : Int) < 0) := by omega
      have c3 : ¬ ((1 + 4 * A.length + 4 * B.length : Nat) : Int) < 0 := by omega
      have c4 : ¬ ((1 + 4 * R.length : Nat) : Int) < 0 := by omega
      go_enter Try.func10, Try.ntmps10
      go_wp2_with fail
      with_reducible refine (szRg_yes n Aa ca 1048576 (by omega) (by omega) _).mono ?_
      rintro e w1 ⟨rfl, hb1⟩
      replace hJ := hJ.call hb1
      clear hb1 x1 x2
      obtain ⟨x1, x2⟩ := hJ.cells
      go_wp2_with fail
      with_reducible refine (szRg_yes m Ab cb (1048576 - (n : Int)) (by omega) (by omega) _).mono ?_
      rintro e w2 ⟨rfl, hb1⟩
      replace hJ := hJ.call hb1
      clear hb1 x1 x2
      go_upto_region 8 with fail
      go_cut [6] (fun s6 wx => ∃ b u, s6 = .pointer (some ⟨b, 0, none⟩) ∧ wx.ownsRow w.heap.size 31 4 u R.length (rcsCells R) ∧ BxAt wx b u ∧ (∃ Au cu, u = .slice Au R.length cu) ∧ Below w2.heap.size w2 wx)
      case first =>
        refine wp_region_held_drew (S := fun W => W.cell? ⟨w.heap.size, 0, none⟩ = some (.slice Aa n ca) ∧ W.cell? ⟨w.heap.size + 1, 0, none⟩ = some (.slice Ab m cb)) (by kernel_rfl) ⟨cell_drew hJ.cells.1, cell_drew hJ.cells.2⟩ (fun hHeld => ?_)
        have K : Below w2.heap.size w2 w2.drew := below_drew _
        refine wpAnyH_take (i := 0) (v := .agg #[.slice Aa n ca]) rfl (by kernel_rfl) (by kernel_rfl) (by kernel_rfl) (fun _ _ _ h => h) (Or.inl ⟨by kernel_rfl, by intro w' hSw; (try dsimp only at hSw); go_simp⟩) (by assumption) ?_
        refine wpAnyH_take (i := 2) (v := .agg #[.slice Ab m cb]) rfl (by kernel_rfl) (by kernel_rfl) (by kernel_rfl) (fun _ _ _ h => h) (Or.inl ⟨by kernel_rfl, by intro w' hSw; (try dsimp only at hSw); go_simp⟩) (by assumption) ?_
        refine wpAnyH_ready (rs := [1, 5]) (by kernel_rfl) (by simp) ?_
        refine (AllReadyH.cons rfl (fun K' hK => ?_) (AllReadyH.cons rfl (fun K' hK => ?_) AllReadyH.nil))
        · rw [if_pos (by kernel_rfl)]
          go_simp
          with_reducible refine (toRg _ A _ hn1 (ha.ofBelow (below_call hJ.bw K))).mono ?_
          rintro e W' ⟨v1, rfl, h1, hk⟩
          replace K := below_call K hk
          clear hk
          dsimp only
          refine hK.out _ _ (hJ.call K).cells (fun _ => ?_)
          clear hK
          try simp only [Act.put, List.setIfInBounds_toArray, List.set_cons_zero, List.set_cons_succ]
          refine wpAnyH_ready (rs := [3, 5]) (by kernel_rfl) (by simp) ?_
          refine (AllReadyH.cons rfl (fun K' hK => ?_) (AllReadyH.cons rfl (fun K' hK => ?_) AllReadyH.nil))
          · rw [if_pos (by kernel_rfl)]
            go_simp
            with_reducible refine (toRg _ B _ hm1 (hb.ofBelow (below_call hJ.bw K))).mono ?_
            rintro e W' ⟨v2, rfl, h2, hk⟩
            replace h1 := own_call h1 hk
            replace K := below_call K hk
            clear hk
            dsimp only
            refine hK.out _ _ (hJ.call K).cells (fun _ => ?_)
            clear hK
            try simp only [Act.put, List.setIfInBounds_toArray, List.set_cons_zero, List.set_cons_succ]
            refine wpAnyH_ready (rs := [4, 5]) (by kernel_rfl) (by simp) ?_
            refine (AllReadyH.cons rfl (fun K' hK => ?_) (AllReadyH.cons rfl (fun K' hK => ?_) AllReadyH.nil))
            · rw [if_pos (by kernel_rfl)]
              go_simp
              with_reducible refine (HS.out v1 v2 _ (RdR.of_own h1) (RdR.of_own h2)).mono ?_
              rintro e W' ⟨vr, rfl, hO, hk⟩
              obtain ⟨Ar, cr, hvr⟩ := own_shape hO
              subst hvr
              replace hO := hO.mono (show w.heap.size ≤ _ by have := K.size; have := hJ.bw.size; omega)
              clear h1 h2
              replace K := below_call K hk
              clear hk
              dsimp only
              refine hK.out _ _ (hJ.call K).cells (fun _ => ?_)
              clear hK
              try simp only [Act.put, List.setIfInBounds_toArray, List.set_cons_zero, List.set_cons_succ]
              refine wpAnyH_ready (rs := [5]) (by kernel_rfl) (by simp) ?_
              refine (AllReadyH.cons rfl (fun K' hK => ?_) AllReadyH.nil)
              · rw [if_pos (by kernel_rfl)]
                refine wp_alloc_rg 6 rfl rfl ?_
                intro b W' hk hN hbl
                have hbn : w2.heap.size ≤ b := by have := K.size; omega
                have hsep : ∀ k, (Value.slice Ar R.length cr).ownBlock = some k → k ≠ b := fun k hk => by have := (hO.lt k hk).2; omega
                replace hO := own_call hO hk
                replace K := below_call K hk
                clear hk
                refine hK.out _ _ (hJ.call K).cells (fun _ => ?_)
                clear hK
                try simp only [Act.put, List.setIfInBounds_toArray, List.set_cons_zero, List.set_cons_succ]
                have nc := hN.cell
                have nf := hN.frozen
                refine wpAnyH_ready (rs := [6]) (by kernel_rfl) (by simp) ?_
                refine AllReadyH.cons rfl (fun K' hK => ?_) AllReadyH.nil
                rw [if_pos (by kernel_rfl)]
                go_simp
                have K2 := K.setCell (p := ⟨b, 0, none⟩) hbn (.slice Ar R.length cr)
                refine hK.out _ _ (hJ.call K2).cells (fun _ => ?_)
                clear hK
                refine wpAnyH_done (by kernel_rfl) ?_ _
                go_wp2_with fail
                go_meet
                case rel => exact ⟨b, _, rfl, own_setsep hO hsep _, heap_set0 hN _, own_shape hO, K2⟩
            · rw [if_pos (by kernel_rfl)]
              refine wp_alloc_rg 6 rfl rfl ?_
              intro b W' hk hN hbl
              have hbn : w2.heap.size ≤ b := by have := K.size; omega
              replace h1 := own_call h1 hk
              replace h2 := own_call h2 hk
              replace K := below_call K hk
              clear hk
              refine hK.out _ _ (hJ.call K).cells (fun _ => ?_)
              clear hK
              try simp only [Act.put, List.setIfInBounds_toArray, List.set_cons_zero, List.set_cons_succ]
              refine wpAnyH_ready (rs := [4]) (by kernel_rfl) (by simp) ?_
              refine (AllReadyH.cons rfl (fun K' hK => ?_) AllReadyH.nil)
              · rw [if_pos (by kernel_rfl)]
                go_simp
                with_reducible refine (HS.out v1 v2 _ (RdR.of_own h1) (RdR.of_own h2)).mono ?_
                rintro e W' ⟨vr, rfl, hO, hk⟩
                obtain ⟨Ar, cr, hvr⟩ := own_shape hO
                subst hvr
                have hsep : ∀ k, (Value.slice Ar R.length cr).ownBlock = some k → k ≠ b := fun k hk => by have := (hO.lt k hk).1; have := hN.lt; omega
                replace hO := hO.mono (show w.heap.size ≤ _ by have := K.size; have := hJ.bw.size; omega)
                clear h1 h2
                replace hN := hN.call hk
                replace K := below_call K hk
                clear hk
                dsimp only
                refine hK.out _ _ (hJ.call K).cells (fun _ => ?_)
                clear hK
                try simp only [Act.put, List.setIfInBounds_toArray, List.set_cons_zero, List.set_cons_succ]
                have nc := hN.cell
                have nf := hN.frozen
                refine wpAnyH_ready (rs := [6]) (by kernel_rfl) (by simp) ?_
                refine AllReadyH.cons rfl (fun K' hK => ?_) AllReadyH.nil
                rw [if_pos (by kernel_rfl)]
                go_simp
                have K2 := K.setCell (p := ⟨b, 0, none⟩) hbn (.slice Ar R.length cr)
                refine hK.out _ _ (hJ.call K2).cells (fun _ => ?_)
                clear hK
                refine wpAnyH_done (by kernel_rfl) ?_ _
                go_wp2_with fail
                go_meet
                case rel => exact ⟨b, _, rfl, own_setsep hO hsep _, heap_set0 hN _, own_shape hO, K2⟩
          · rw [if_pos (by kernel_rfl)]
            refine wp_alloc_rg 6 rfl rfl ?_
            intro b W' hk hN hbl
            have hbn : w2.heap.size ≤ b := by have := K.size; omega
            replace h1 := own_call h1 hk
            replace K := below_call K hk
            clear hk
            refine hK.out _ _ (hJ.call K).cells (fun _ => ?_)
            clear hK
            try simp only [Act.put, List.setIfInBounds_toArray, List.set_cons_zero, List.set_cons_succ]
            refine wpAnyH_ready (rs := [3]) (by kernel_rfl) (by simp) ?_
            refine (AllReadyH.cons rfl (fun K' hK => ?_) AllReadyH.nil)
            · rw [if_pos (by kernel_rfl)]
              go_simp
              with_reducible refine (toRg _ B _ hm1 (hb.ofBelow (below_call hJ.bw K))).mono ?_
              rintro e W' ⟨v2, rfl, h2, hk⟩
              replace h1 := own_call h1 hk
              replace hN := hN.call hk
              replace K := below_call K hk
              clear hk
              dsimp only
              refine hK.out _ _ (hJ.call K).cells (fun _ => ?_)
              clear hK
              try simp only [Act.put, List.setIfInBounds_toArray, List.set_cons_zero, List.set_cons_succ]
              refine wpAnyH_ready (rs := [4]) (by kernel_rfl) (by simp) ?_
              refine (AllReadyH.cons rfl (fun K' hK => ?_) AllReadyH.nil)
              · rw [if_pos (by kernel_rfl)]
                go_simp
                with_reducible refine (HS.out v1 v2 _ (RdR.of_own h1) (RdR.of_own h2)).mono ?_
                rintro e W' ⟨vr, rfl, hO, hk⟩
                obtain ⟨Ar, cr, hvr⟩ := own_shape hO
                subst hvr
                have hsep : ∀ k, (Value.slice Ar R.length cr).ownBlock = some k → k ≠ b := fun k hk => by have := (hO.lt k hk).1; have := hN.lt; omega
                replace hO := hO.mono (show w.heap.size ≤ _ by have := K.size; have := hJ.bw.size; omega)
                clear h1 h2
                replace hN := hN.call hk
                replace K := below_call K hk
                clear hk
                dsimp only
                refine hK.out _ _ (hJ.call K).cells (fun _ => ?_)
                clear hK
                try simp only [Act.put, List.setIfInBounds_toArray, List.set_cons_zero, List.set_cons_succ]
                have nc := hN.cell
                have nf := hN.frozen
                refine wpAnyH_ready (rs := [6]) (by kernel_rfl) (by simp) ?_
                refine AllReadyH.cons rfl (fun K' hK => ?_) AllReadyH.nil
                rw [if_pos (by kernel_rfl)]
                go_simp
                have K2 := K.setCell (p := ⟨b, 0, none⟩) hbn (.slice Ar R.length cr)
                refine hK.out _ _ (hJ.call K2).cells (fun _ => ?_)
                clear hK
                refine wpAnyH_done (by kernel_rfl) ?_ _
                go_wp2_with fail
                go_meet
                case rel => exact ⟨b, _, rfl, own_setsep hO hsep _, heap_set0 hN _, own_shape hO, K2⟩
        · rw [if_pos (by kernel_rfl)]
          refine wp_alloc_rg 6 rfl rfl ?_
          intro b W' hk hN hbl
          have hbn : w2.heap.size ≤ b := by have := K.size; omega
          replace K := below_call K hk
          clear hk
          refine hK.out _ _ (hJ.call K).cells (fun _ => ?_)
          clear hK
          try simp only [Act.put, List.setIfInBounds_toArray]
          refine wpAnyH_ready (rs := [1]) (by kernel_rfl) (by simp) ?_
          refine (AllReadyH.cons rfl (fun K' hK => ?_) AllReadyH.nil)
          · rw [if_pos (by kernel_rfl)]
            go_simp
            with_reducible refine (toRg _ A _ hn1 (ha.ofBelow (below_call hJ.bw K))).mono ?_
            rintro e W' ⟨v1, rfl, h1, hk⟩
            replace hN := hN.call hk
            replace K := below_call K hk
            clear hk
            dsimp only
            refine hK.out _ _ (hJ.call K).cells (fun _ => ?_)
            clear hK
            try simp only [Act.put, List.setIfInBounds_toArray, List.set_cons_zero, List.set_cons_succ]
            refine wpAnyH_ready (rs := [3]) (by kernel_rfl) (by simp) ?_
            refine (AllReadyH.cons rfl (fun K' hK => ?_) AllReadyH.nil)
            · rw [if_pos (by kernel_rfl)]
              go_simp
              with_reducible refine (toRg _ B _ hm1 (hb.ofBelow (below_call hJ.bw K))).mono ?_
              rintro e W' ⟨v2, rfl, h2, hk⟩
              replace h1 := own_call h1 hk
              replace hN := hN.call hk
              replace K := below_call K hk
              clear hk
              dsimp only
              refine hK.out _ _ (hJ.call K).cells (fun _ => ?_)
              clear hK
              try simp only [Act.put, List.setIfInBounds_toArray, List.set_cons_zero, List.set_cons_succ]
              refine wpAnyH_ready (rs := [4]) (by kernel_rfl) (by simp) ?_
              refine (AllReadyH.cons rfl (fun K' hK => ?_) AllReadyH.nil)
              · rw [if_pos (by kernel_rfl)]
                go_simp
                with_reducible refine (HS.out v1 v2 _ (RdR.of_own h1) (RdR.of_own h2)).mono ?_
                rintro e W' ⟨vr, rfl, hO, hk⟩
                obtain ⟨Ar, cr, hvr⟩ := own_shape hO
                subst hvr
                have hsep : ∀ k, (Value.slice Ar R.length cr).ownBlock = some k → k ≠ b := fun k hk => by have := (hO.lt k hk).1; have := hN.lt; omega
                replace hO := hO.mono (show w.heap.size ≤ _ by have := K.size; have := hJ.bw.size; omega)
                clear h1 h2
                replace hN := hN.call hk
                replace K := below_call K hk
                clear hk
                dsimp only
                refine hK.out _ _ (hJ.call K).cells (fun _ => ?_)
                clear hK
                try simp only [Act.put, List.setIfInBounds_toArray, List.set_cons_zero, List.set_cons_succ]
                have nc := hN.cell
                have nf := hN.frozen
                refine wpAnyH_ready (rs := [6]) (by kernel_rfl) (by simp) ?_
                refine AllReadyH.cons rfl (fun K' hK => ?_) AllReadyH.nil
                rw [if_pos (by kernel_rfl)]
                go_simp
                have K2 := K.setCell (p := ⟨b, 0, none⟩) hbn (.slice Ar R.length cr)
                refine hK.out _ _ (hJ.call K2).cells (fun _ => ?_)
                clear hK
                refine wpAnyH_done (by kernel_rfl) ?_ _
                go_wp2_with fail
                go_meet
                case rel => exact ⟨b, _, rfl, own_setsep hO hsep _, heap_set0 hN _, own_shape hO, K2⟩
      case rest =>
        obtain ⟨br, vr, rfl, hown, hx, ⟨Ar, cr, hvr⟩, K8⟩ := hcut
        subst hvr
        replace hJ := hJ.call K8
        have hA : AnsR w R (.slice Ar R.length cr) br _ := ⟨hown, hx⟩
        have kw := hJ.bw
        clear hown hx K8
        obtain ⟨x1, x2⟩ := hJ.cells
        go_wp2_with fail
        refine (toRg _ A _ hn1 (ha.ofBelow hJ.bw)).mono ?_
        rintro e w4 ⟨v4, rfl, hown4, hb4⟩
        obtain ⟨A4, c4', hv4⟩ := own_shape hown4
        subst hv4
        have s4 := hb4.size
        have s4a : (w4.alloc (.cells #[.slice A4 A.length c4'] 26)).heap.size = w4.heap.size + 1 := by simp
        have B4 := hb4.trans ((below_box w4 (.slice A4 A.length c4')).mono hb4.size)
        have hJ4 := hJ.call B4
        have hx0 := BxAt.new w4 (.slice A4 A.length c4')
        have hown0 := own_call hown4 (below_box w4 (.slice A4 A.length c4'))
        have l4 := hown4
        clear hb4 hown4 x1 x2
        obtain ⟨x1, x2⟩ := hJ4.cells
        go_wp2_with fail
        refine (toRg _ B _ hm1 (hb.ofBelow hJ4.bw)).mono ?_
        rintro e w5 ⟨v5, rfl, hown5, hb5⟩
        obtain ⟨A5, c5, hv5⟩ := own_shape hown5
        subst hv5
        have B5 := hb5.trans ((below_box w5 (.slice A5 B.length c5)).mono hb5.size)
        have BM := below_call B4 B5
        have hJ5 := hJ4.call B5
        have hx0 := hx0.call B5
        have hown0 := own_call hown0 B5
        have hx1 := BxAt.new w5 (.slice A5 B.length c5)
        have hown1 := own_call hown5 (below_box w5 (.slice A5 B.length c5))
        have s5 := hb5.size
        have s5a : (w5.alloc (.cells #[.slice A5 B.length c5] 26)).heap.size = w5.heap.size + 1 := by simp
        clear hb5 x1 x2 B4 B5
        have y0 := hx0.cell
        have y1 := hx1.cell
        go_wp2_with fail
        refine (HI.out _ _ _ (RdR.of_own hown0) (RdR.of_own hown1)).mono ?_
        rintro e w6 ⟨vg, rfl, howng, hb6⟩
        obtain ⟨Ag, cg, hvg⟩ := own_shape howng
        subst hvg
        have T := TwoR.mk2 kw hA BM hb6 howng
        have sx0 := Lib.hid (apart2 (vx := .slice A4 A.length c4') (vg := .slice Ag R.length cg) kw hA hb6.size (fun k hk => (howng.lt k hk).1) (fun k hk => by have := l4.lt k hk; have := (hown0.lt k hk).2; omega))
        have sx1 := Lib.hid (apart2 (vx := .slice A5 B.length c5) (vg := .slice Ag R.length cg) kw hA hb6.size (fun k hk => (howng.lt k hk).1) (fun k hk => by have h1 := hown5.lt k hk; have h2 := s5a; omega))
        have hJ6 := (hJ5.call hb6).call (below_box w6 (.slice Ag R.length cg))
        have hx0 := (hx0.call hb6).call (below_box w6 (.slice Ag R.length cg))
        have hx1 := (hx1.call hb6).call (below_box w6 (.slice Ag R.length cg))
        have hown0 := own_call (own_call hown0 hb6) (below_box w6 (.slice Ag R.length cg))
        have hown1 := own_call (own_call hown1 hb6) (below_box w6 (.slice Ag R.length cg))
        have sJ := hJ.size
        have sj0 := Lib.hid (show ∀ k, (Value.slice A4 A.length c4').ownBlock = some k → w.heap.size + 2 ≤ k ∧ k < w4.heap.size ∧ (Value.slice A5 B.length c5).ownBlock ≠ some k from fun k hk => by
          have h1 := l4.lt k hk
          refine ⟨by omega, h1.2, fun e => ?_⟩
          have := hown5.lt k e
          omega)
        have sj1 := Lib.hid (show ∀ k, (Value.slice A5 B.length c5).ownBlock = some k → w.heap.size + 2 ≤ k from fun k hk => by
          have h1 := hown5.lt k hk
          omega)
        have s45 : w4.heap.size < w5.heap.size := by omega
        have sjg := Lib.hid (show ∀ k, (Value.slice Ag R.length cg).ownBlock = some k → w.heap.size + 2 ≤ k from fun k hk => by
          have h1 := (howng.lt k hk).1
          omega)
        clear hown5 l4 howng kw hA BM hb6 s4a s5a y0 y1 hJ hJ4 hJ5 s4 s5
        replace hJ6 := hJ6
        have xg := T.xg.cell
        have xr := T.xr.cell
        go_wp2_with fail
        refine (eqRg_same _ _ R _ T.rg T.rr).mono ?_
        rintro e w7 ⟨rfl, hk⟩
        replace T := T.call hk
        replace hJ6 := hJ6.call hk
        replace hx0 := hx0.call hk
        replace hx1 := hx1.call hk
        replace hown0 := own_call hown0 hk
        replace hown1 := own_call hown1 hk
        clear hk xg xr
        go_upto_region 14 with fail
        go_cut [44] (fun s wx => s = .bool false ∧ Below w7.heap.size w7 wx)
        case first =>
          have K : Below w7.heap.size w7 w7 := Below.refl _ _
          have hX := hJ6.a
          have hY := hx0
          have hC := ha.ofBelow hJ6.bw
          have hR := RdR.of_own hown0
          have x1 := hX.cell
          have x2 := hY.cell
          go_region_held3 (fun w' => w'.cell? ⟨w.heap.size, 0, none⟩ = some (.slice Aa n ca) ∧ w'.cell? ⟨w4.heap.size, 0, none⟩ = some (.slice A4 A.length c4'))
            (with_reducible first | exact ⟨hX.cell, hY.cell⟩ | exact ⟨cell_drew hX.cell, cell_drew hY.cell⟩ | fail)
            (first | (go_at_call 36; (with_reducible first | refine (toRg _ A _ hn1 hC).mono ?_ | refine (toRg _ A _ hn1 (hC.call (below_drew _))).mono ?_); rintro e wk ⟨v6, rfl, hown6, hb6⟩; (with_reducible first | have hb6 := below_undrew hb6 | skip); have K := below_call K hb6; have hX := hX.call hb6; have hY := hY.call hb6; have hR := hR.call hb6) | (go_at_call 29; (with_reducible refine (eqRg_same _ v6 A _ hR (RdR.of_own hown6)).mono ?_); rintro e wk2 ⟨rfl, hb6⟩; have K := below_call K hb6; have hX := hX.call hb6; have hY := hY.call hb6))
          go_wp2_with fail
          go_meet
          case rel => exact ⟨rfl, K⟩
        case rest =>
          obtain ⟨rfl, hk⟩ := hcut
          replace T := T.call hk
          replace hJ6 := hJ6.call hk
          replace hx0 := hx0.call hk
          replace hx1 := hx1.call hk
          replace hown0 := own_call hown0 hk
          replace hown1 := own_call hown1 hk
          clear hk
          go_upto_region 16 with fail
          go_cut [49] (fun s wx => s = .bool false ∧ Below wc.heap.size wc wx)
          case first =>
            have K : Below wc.heap.size wc wc := Below.refl _ _
            have hX := hJ6.b
            have hY := hx1
            have hC := hb.ofBelow hJ6.bw
            have hR := RdR.of_own hown1
            have x1 := hX.cell
            have x2 := hY.cell
            go_region_held3 (fun w' => w'.cell? ⟨w.heap.size + 1, 0, none⟩ = some (.slice Ab m cb) ∧ w'.cell? ⟨w5.heap.size, 0, none⟩ = some (.slice A5 B.length c5))
              (with_reducible first | exact ⟨hX.cell, hY.cell⟩ | exact ⟨cell_drew hX.cell, cell_drew hY.cell⟩ | fail)
              (first | (go_at_call 36; (with_reducible first | refine (toRg _ B _ hm1 hC).mono ?_ | refine (toRg _ B _ hm1 (hC.call (below_drew _))).mono ?_); rintro e wk ⟨v6, rfl, hown6, hb6⟩; (with_reducible first | have hb6 := below_undrew hb6 | skip); have K := below_call K hb6; have hX := hX.call hb6; have hY := hY.call hb6; have hR := hR.call hb6) | (go_at_call 29; (with_reducible refine (eqRg_same _ v6 B _ hR (RdR.of_own hown6)).mono ?_); rintro e wk2 ⟨rfl, hb6⟩; have K := below_call K hb6; have hX := hX.call hb6; have hY := hY.call hb6))
            go_wp2_with fail
            go_meet
            case rel => exact ⟨rfl, K⟩
          case rest =>
            obtain ⟨rfl, hk⟩ := hcut
            replace T := T.call hk
            replace hJ6 := hJ6.call hk
            replace hx0 := hx0.call hk
            replace hx1 := hx1.call hk
            replace hown0 := own_call hown0 hk
            replace hown1 := own_call hown1 hk
            clear hk
            have y0 := hx0.cell
            go_wp2_with fail
            refine (markRg _ _ A 1 _ (by omega) hown0).mono ?_
            rintro e w9 ⟨rfl, _, hg⟩
            replace T := T.other hg sx0.out
            replace hJ6 := hJ6.grown hg (fun k hk => (sj0.out k hk).1)
            replace hx1 := hx1.grown hg (fun e => by have := (sj0.out _ e.symm).2.1; omega)
            replace hown1 := hown1.kept hg (by
              by_cases hv : (Value.slice A5 B.length c5).ownBlock = none
              · exact .inl hv
              · refine .inr fun e => ?_
                obtain ⟨k, hk⟩ := Option.ne_none_iff_exists'.1 hv
                exact (sj0.out k (by rw [← e]; exact hk)).2.2 hk)
            clear hg hown0 hx0 y0
            have y1 := hx1.cell
            go_wp2_with fail
            refine (markRg _ _ B (1 + 4 * A.length) _ (by omega) hown1).mono ?_
            rintro e w10 ⟨rfl, _, hg⟩
            replace T := T.other hg sx1.out
            replace hJ6 := hJ6.grown hg sj1.out
            clear hg hown1 hx1 y1
            have xg := T.xg.cell
            have xr := T.xr.cell
            go_wp2_with fail
            refine (eqRg_same _ _ R _ T.rg T.rr).mono ?_
            rintro e w11 ⟨rfl, hk⟩
            replace T := T.call hk
            replace hJ6 := hJ6.call hk
            clear hk xg xr
            have xg := T.xg.cell
            go_wp2_with fail
            refine (markRg _ _ R 1 _ (by omega) T.g).mono ?_
            rintro e w12 ⟨rfl, hown12, hg⟩
            replace hJ6 := hJ6.grown hg (fun k hk => by have h1 := (hown12.lt k hk).1; have h2 := T.sep k hk; exact sjg.out k hk)
            replace T := T.mark (G' := marksL 1 R.length) (by rw [marksL_length]; exact hown12) hg
            clear hg hown12 xg
            have xg := T.xg.cell
            go_wp2_with fail
            refine (heldRg _ 1 R.length _ (by omega) T.rg).mono ?_
            rintro e w13 ⟨rfl, hk⟩
            replace T := T.call hk
            replace hJ6 := hJ6.call hk
            clear hk xg
            have hJ := hJ6
            go_upto_region 31 with fail
            go_cut [13] (fun s6 wx => ∃ b u, s6 = .pointer (some ⟨b, 0, none⟩) ∧ wx.ownsRow w.heap.size 31 4 u R.length (rcsCells R) ∧ BxAt wx b u ∧ (∃ Au cu, u = .slice Au R.length cu) ∧ Below w13.heap.size w13 wx)
            case first =>
              refine wp_region_held_drew (S := fun W => W.cell? ⟨w.heap.size, 0, none⟩ = some (.slice Aa n ca) ∧ W.cell? ⟨w.heap.size + 1, 0, none⟩ = some (.slice Ab m cb)) (by kernel_rfl) ⟨cell_drew hJ.cells.1, cell_drew hJ.cells.2⟩ (fun hHeld => ?_)
              have K : Below w13.heap.size w13 w13.drew := below_drew _
              refine wpAnyH_take (i := 0) (v := .agg #[.slice Aa n ca]) rfl (by kernel_rfl) (by kernel_rfl) (by kernel_rfl) (fun _ _ _ h => h) (Or.inl ⟨by kernel_rfl, by intro w' hSw; (try dsimp only at hSw); go_simp⟩) (by assumption) ?_
              refine wpAnyH_take (i := 2) (v := .agg #[.slice Ab m cb]) rfl (by kernel_rfl) (by kernel_rfl) (by kernel_rfl) (fun _ _ _ h => h) (Or.inl ⟨by kernel_rfl, by intro w' hSw; (try dsimp only at hSw); go_simp⟩) (by assumption) ?_
              refine wpAnyH_ready (rs := [1, 5]) (by kernel_rfl) (by simp) ?_
              refine (AllReadyH.cons rfl (fun K' hK => ?_) (AllReadyH.cons rfl (fun K' hK => ?_) AllReadyH.nil))
              · rw [if_pos (by kernel_rfl)]
                go_simp
                with_reducible refine (toRg _ A _ hn1 (ha.ofBelow (below_call hJ.bw K))).mono ?_
                rintro e W' ⟨v1, rfl, h1, hk⟩
                replace K := below_call K hk
                clear hk
                dsimp only
                refine hK.out _ _ (hJ.call K).cells (fun _ => ?_)
                clear hK
                try simp only [Act.put, List.setIfInBounds_toArray, List.set_cons_zero, List.set_cons_succ]
                refine wpAnyH_ready (rs := [3, 5]) (by kernel_rfl) (by simp) ?_
                refine (AllReadyH.cons rfl (fun K' hK => ?_) (AllReadyH.cons rfl (fun K' hK => ?_) AllReadyH.nil))
                · rw [if_pos (by kernel_rfl)]
                  go_simp
                  with_reducible refine (toRg _ B _ hm1 (hb.ofBelow (below_call hJ.bw K))).mono ?_
                  rintro e W' ⟨v2, rfl, h2, hk⟩
                  replace h1 := own_call h1 hk
                  replace K := below_call K hk
                  clear hk
                  dsimp only
                  refine hK.out _ _ (hJ.call K).cells (fun _ => ?_)
                  clear hK
                  try simp only [Act.put, List.setIfInBounds_toArray, List.set_cons_zero, List.set_cons_succ]
                  refine wpAnyH_ready (rs := [4, 5]) (by kernel_rfl) (by simp) ?_
                  refine (AllReadyH.cons rfl (fun K' hK => ?_) (AllReadyH.cons rfl (fun K' hK => ?_) AllReadyH.nil))
                  · rw [if_pos (by kernel_rfl)]
                    go_simp
                    with_reducible refine (HI.out v1 v2 _ (RdR.of_own h1) (RdR.of_own h2)).mono ?_
                    rintro e W' ⟨vr, rfl, hO, hk⟩
                    obtain ⟨Ar, cr, hvr⟩ := own_shape hO
                    subst hvr
                    replace hO := hO.mono (show w.heap.size ≤ _ by have := K.size; have := hJ.bw.size; omega)
                    clear h1 h2
                    replace K := below_call K hk
                    clear hk
                    dsimp only
                    refine hK.out _ _ (hJ.call K).cells (fun _ => ?_)
                    clear hK
                    try simp only [Act.put, List.setIfInBounds_toArray, List.set_cons_zero, List.set_cons_succ]
                    refine wpAnyH_ready (rs := [5]) (by kernel_rfl) (by simp) ?_
                    refine (AllReadyH.cons rfl (fun K' hK => ?_) AllReadyH.nil)
                    · rw [if_pos (by kernel_rfl)]
                      refine wp_alloc_rg 13 rfl rfl ?_
                      intro b W' hk hN hbl
                      have hbn : w13.heap.size ≤ b := by have := K.size; omega
                      have hsep : ∀ k, (Value.slice Ar R.length cr).ownBlock = some k → k ≠ b := fun k hk => by have := (hO.lt k hk).2; omega
                      replace hO := own_call hO hk
                      replace K := below_call K hk
                      clear hk
                      refine hK.out _ _ (hJ.call K).cells (fun _ => ?_)
                      clear hK
                      try simp only [Act.put, List.setIfInBounds_toArray, List.set_cons_zero, List.set_cons_succ]
                      have nc := hN.cell
                      have nf := hN.frozen
                      refine wpAnyH_ready (rs := [6]) (by kernel_rfl) (by simp) ?_
                      refine AllReadyH.cons rfl (fun K' hK => ?_) AllReadyH.nil
                      rw [if_pos (by kernel_rfl)]
                      go_simp
                      have K2 := K.setCell (p := ⟨b, 0, none⟩) hbn (.slice Ar R.length cr)
                      refine hK.out _ _ (hJ.call K2).cells (fun _ => ?_)
                      clear hK
                      refine wpAnyH_done (by kernel_rfl) ?_ _
                      go_wp2_with fail
                      go_meet
                      case rel => exact ⟨b, _, rfl, own_setsep hO hsep _, heap_set0 hN _, own_shape hO, K2⟩
                  · rw [if_pos (by kernel_rfl)]
                    refine wp_alloc_rg 13 rfl rfl ?_
                    intro b W' hk hN hbl
                    have hbn : w13.heap.size ≤ b := by have := K.size; omega
                    replace h1 := own_call h1 hk
                    replace h2 := own_call h2 hk
                    replace K := below_call K hk
                    clear hk
                    refine hK.out _ _ (hJ.call K).cells (fun _ => ?_)
                    clear hK
                    try simp only [Act.put, List.setIfInBounds_toArray, List.set_cons_zero, List.set_cons_succ]
                    refine wpAnyH_ready (rs := [4]) (by kernel_rfl) (by simp) ?_
                    refine (AllReadyH.cons rfl (fun K' hK => ?_) AllReadyH.nil)
                    · rw [if_pos (by kernel_rfl)]
                      go_simp
                      with_reducible refine (HI.out v1 v2 _ (RdR.of_own h1) (RdR.of_own h2)).mono ?_
                      rintro e W' ⟨vr, rfl, hO, hk⟩
                      obtain ⟨Ar, cr, hvr⟩ := own_shape hO
                      subst hvr
                      have hsep : ∀ k, (Value.slice Ar R.length cr).ownBlock = some k → k ≠ b := fun k hk => by have := (hO.lt k hk).1; have := hN.lt; omega
                      replace hO := hO.mono (show w.heap.size ≤ _ by have := K.size; have := hJ.bw.size; omega)
                      clear h1 h2
                      replace hN := hN.call hk
                      replace K := below_call K hk
                      clear hk
                      dsimp only
                      refine hK.out _ _ (hJ.call K).cells (fun _ => ?_)
                      clear hK
                      try simp only [Act.put, List.setIfInBounds_toArray, List.set_cons_zero, List.set_cons_succ]
                      have nc := hN.cell
                      have nf := hN.frozen
                      refine wpAnyH_ready (rs := [6]) (by kernel_rfl) (by simp) ?_
                      refine AllReadyH.cons rfl (fun K' hK => ?_) AllReadyH.nil
                      rw [if_pos (by kernel_rfl)]
                      go_simp
                      have K2 := K.setCell (p := ⟨b, 0, none⟩) hbn (.slice Ar R.length cr)
                      refine hK.out _ _ (hJ.call K2).cells (fun _ => ?_)
                      clear hK
                      refine wpAnyH_done (by kernel_rfl) ?_ _
                      go_wp2_with fail
                      go_meet
                      case rel => exact ⟨b, _, rfl, own_setsep hO hsep _, heap_set0 hN _, own_shape hO, K2⟩
                · rw [if_pos (by kernel_rfl)]
                  refine wp_alloc_rg 13 rfl rfl ?_
                  intro b W' hk hN hbl
                  have hbn : w13.heap.size ≤ b := by have := K.size; omega
                  replace h1 := own_call h1 hk
                  replace K := below_call K hk
                  clear hk
                  refine hK.out _ _ (hJ.call K).cells (fun _ => ?_)
                  clear hK
                  try simp only [Act.put, List.setIfInBounds_toArray, List.set_cons_zero, List.set_cons_succ]
                  refine wpAnyH_ready (rs := [3]) (by kernel_rfl) (by simp) ?_
                  refine (AllReadyH.cons rfl (fun K' hK => ?_) AllReadyH.nil)
                  · rw [if_pos (by kernel_rfl)]
                    go_simp
                    with_reducible refine (toRg _ B _ hm1 (hb.ofBelow (below_call hJ.bw K))).mono ?_
                    rintro e W' ⟨v2, rfl, h2, hk⟩
                    replace h1 := own_call h1 hk
                    replace hN := hN.call hk
                    replace K := below_call K hk
                    clear hk
                    dsimp only
                    refine hK.out _ _ (hJ.call K).cells (fun _ => ?_)
                    clear hK
                    try simp only [Act.put, List.setIfInBounds_toArray, List.set_cons_zero, List.set_cons_succ]
                    refine wpAnyH_ready (rs := [4]) (by kernel_rfl) (by simp) ?_
                    refine (AllReadyH.cons rfl (fun K' hK => ?_) AllReadyH.nil)
                    · rw [if_pos (by kernel_rfl)]
                      go_simp
                      with_reducible refine (HI.out v1 v2 _ (RdR.of_own h1) (RdR.of_own h2)).mono ?_
                      rintro e W' ⟨vr, rfl, hO, hk⟩
                      obtain ⟨Ar, cr, hvr⟩ := own_shape hO
                      subst hvr
                      have hsep : ∀ k, (Value.slice Ar R.length cr).ownBlock = some k → k ≠ b := fun k hk => by have := (hO.lt k hk).1; have := hN.lt; omega
                      replace hO := hO.mono (show w.heap.size ≤ _ by have := K.size; have := hJ.bw.size; omega)
                      clear h1 h2
                      replace hN := hN.call hk
                      replace K := below_call K hk
                      clear hk
                      dsimp only
                      refine hK.out _ _ (hJ.call K).cells (fun _ => ?_)
                      clear hK
                      try simp only [Act.put, List.setIfInBounds_toArray, List.set_cons_zero, List.set_cons_succ]
                      have nc := hN.cell
                      have nf := hN.frozen
                      refine wpAnyH_ready (rs := [6]) (by kernel_rfl) (by simp) ?_
                      refine AllReadyH.cons rfl (fun K' hK => ?_) AllReadyH.nil
                      rw [if_pos (by kernel_rfl)]
                      go_simp
                      have K2 := K.setCell (p := ⟨b, 0, none⟩) hbn (.slice Ar R.length cr)
                      refine hK.out _ _ (hJ.call K2).cells (fun _ => ?_)
                      clear hK
                      refine wpAnyH_done (by kernel_rfl) ?_ _
                      go_wp2_with fail
                      go_meet
                      case rel => exact ⟨b, _, rfl, own_setsep hO hsep _, heap_set0 hN _, own_shape hO, K2⟩
              · rw [if_pos (by kernel_rfl)]
                refine wp_alloc_rg 13 rfl rfl ?_
                intro b W' hk hN hbl
                have hbn : w13.heap.size ≤ b := by have := K.size; omega
                replace K := below_call K hk
                clear hk
                refine hK.out _ _ (hJ.call K).cells (fun _ => ?_)
                clear hK
                try simp only [Act.put, List.setIfInBounds_toArray]
                refine wpAnyH_ready (rs := [1]) (by kernel_rfl) (by simp) ?_
                refine (AllReadyH.cons rfl (fun K' hK => ?_) AllReadyH.nil)
                · rw [if_pos (by kernel_rfl)]
                  go_simp
                  with_reducible refine (toRg _ A _ hn1 (ha.ofBelow (below_call hJ.bw K))).mono ?_
                  rintro e W' ⟨v1, rfl, h1, hk⟩
                  replace hN := hN.call hk
                  replace K := below_call K hk
                  clear hk
                  dsimp only
                  refine hK.out _ _ (hJ.call K).cells (fun _ => ?_)
                  clear hK
                  try simp only [Act.put, List.setIfInBounds_toArray, List.set_cons_zero, List.set_cons_succ]
                  refine wpAnyH_ready (rs := [3]) (by kernel_rfl) (by simp) ?_
                  refine (AllReadyH.cons rfl (fun K' hK => ?_) AllReadyH.nil)
                  · rw [if_pos (by kernel_rfl)]
                    go_simp
                    with_reducible refine (toRg _ B _ hm1 (hb.ofBelow (below_call hJ.bw K))).mono ?_
                    rintro e W' ⟨v2, rfl, h2, hk⟩
                    replace h1 := own_call h1 hk
                    replace hN := hN.call hk
                    replace K := below_call K hk
                    clear hk
                    dsimp only
                    refine hK.out _ _ (hJ.call K).cells (fun _ => ?_)
                    clear hK
                    try simp only [Act.put, List.setIfInBounds_toArray, List.set_cons_zero, List.set_cons_succ]
                    refine wpAnyH_ready (rs := [4]) (by kernel_rfl) (by simp) ?_
                    refine (AllReadyH.cons rfl (fun K' hK => ?_) AllReadyH.nil)
                    · rw [if_pos (by kernel_rfl)]
                      go_simp
                      with_reducible refine (HI.out v1 v2 _ (RdR.of_own h1) (RdR.of_own h2)).mono ?_
                      rintro e W' ⟨vr, rfl, hO, hk⟩
                      obtain ⟨Ar, cr, hvr⟩ := own_shape hO
                      subst hvr
                      have hsep : ∀ k, (Value.slice Ar R.length cr).ownBlock = some k → k ≠ b := fun k hk => by have := (hO.lt k hk).1; have := hN.lt; omega
                      replace hO := hO.mono (show w.heap.size ≤ _ by have := K.size; have := hJ.bw.size; omega)
                      clear h1 h2
                      replace hN := hN.call hk
                      replace K := below_call K hk
                      clear hk
                      dsimp only
                      refine hK.out _ _ (hJ.call K).cells (fun _ => ?_)
                      clear hK
                      try simp only [Act.put, List.setIfInBounds_toArray, List.set_cons_zero, List.set_cons_succ]
                      have nc := hN.cell
                      have nf := hN.frozen
                      refine wpAnyH_ready (rs := [6]) (by kernel_rfl) (by simp) ?_
                      refine AllReadyH.cons rfl (fun K' hK => ?_) AllReadyH.nil
                      rw [if_pos (by kernel_rfl)]
                      go_simp
                      have K2 := K.setCell (p := ⟨b, 0, none⟩) hbn (.slice Ar R.length cr)
                      refine hK.out _ _ (hJ.call K2).cells (fun _ => ?_)
                      clear hK
                      refine wpAnyH_done (by kernel_rfl) ?_ _
                      go_wp2_with fail
                      go_meet
                      case rel => exact ⟨b, _, rfl, own_setsep hO hsep _, heap_set0 hN _, own_shape hO, K2⟩
            case rest =>
              obtain ⟨bh, vh, rfl, hownh, hxh, ⟨Ah, ch, hvh⟩, K31⟩ := hcut
              subst hvh
              replace T := T.call K31
              have xh := hxh.cell
              have xr := T.xr.cell
              clear K31 hJ hJ6
              go_wp2_with fail
              refine (eqRg_same _ _ R _ (RdR.of_own hownh) T.rr).mono ?_
              rintro e w15 ⟨rfl, hk⟩
              replace T := T.call hk
              clear hk xh xr hownh hxh
              have xg := T.xg.cell
              go_wp2_with fail
              refine (heldRg _ 1 R.length _ (by omega) T.rg).mono ?_
              rintro e w16 ⟨rfl, hk⟩
              replace T := T.call hk
              clear hk xg
              go_wp2_with fail
              go_ret
              exact ⟨rfl, T.bw⟩
    · go_enter Try.func10, Try.ntmps10
      go_wp2_with fail
      with_reducible refine (szRg_yes n Aa ca 1048576 (by omega) (by omega) _).mono ?_
      rintro e w1 ⟨rfl, hb1⟩
      replace hJ := hJ.call hb1
      have c1 : ¬ ((1048576 : Int) - (n : Int) < 0) := by omega
      clear hb1 x1 x2
      obtain ⟨x1, x2⟩ := hJ.cells
      go_wp2_with fail
      with_reducible refine (szRg_no m Ab cb hmm (1048576 - (n : Int)) (by omega) (by omega) _).mono ?_
      rintro e w2 ⟨rfl, hb1⟩
      replace hJ := hJ.call hb1
      go_wp2_with fail
      go_ret
      exact ⟨rfl, hJ.bw⟩
  · go_enter Try.func10, Try.ntmps10
    go_wp2_with fail
    with_reducible refine (szRg_no n Aa ca hnm 1048576 (by omega) (by omega) _).mono ?_
    rintro e w1 ⟨rfl, hb1⟩
    replace hJ := hJ.call hb1
    go_wp2_with fail
    go_ret
    exact ⟨rfl, hJ.bw⟩
end Go.Proofs.Ytcffeakajfbhhaa
