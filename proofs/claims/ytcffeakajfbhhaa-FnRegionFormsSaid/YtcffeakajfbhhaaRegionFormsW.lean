/- The walk of the law FnRegionForms: it returns true for every code. -/
import Derived.Test.YtcffeakajfbhhaaFormA
import Derived.Test.YtcffeakajfbhhaaBig
import Derived.Test.YtcffeakajfbhhaaRok
import Derived.Deep.DeepCutAuto
import Derived.Deep.RegionHeld3
namespace Go.Proofs.Ytcffeakajfbhhaa
open Go.RowKit
set_option maxHeartbeats 8000000 in
set_option maxRecDepth 10000 in
theorem walk_FnRegionForms (A : Option Addr) (len cap : Nat) (zs : List Int) (w : World) (hrow : IsRow .u8 w A len cap zs) :
    Calls Try.prog 4 #[.slice A len cap] w fun e w' => e = .returned (.bool true) ∧ Below w.heap.size w w' := by
  by_cases hb : len ≤ 1048576
  · go_enter Try.func4, Try.ntmps4
    go_wp2_with fail
    refine (big_no _ A len cap hb).mono ?_
    rintro e w' ⟨rfl, rfl⟩
    go_wp2_with fail
    refine (drawTwo _ A len cap zs hrow).mono ?_
    rintro e w1 ⟨va, vb, LA, LB, rfl, hA, hB, hoa, hob, K⟩
    obtain ⟨Aa, ca, hva⟩ := own_shape hoa
    obtain ⟨Ab, cb, hvb⟩ := own_shape hob
    subst hva
    subst hvb
    have HT := Lib.hid (TwoO.born hoa hob K)
    obtain ⟨i0, hi, hz0, hz1, hz2⟩ := info_parts infoRect
    have HLA := Lib.hid (len_ok hA)
    have HLB := Lib.hid (len_ok hB)
    have HA := Lib.hid hA
    have JU := fun va vb W h1 h2 => joinI0 va vb (joinL (fun p q => p && !q) LA LB) (joinL (fun p q => p && q) LA LB) W h1 h2
    have JC := fun va vb W h1 h2 => joinI1 va vb LA LB W h1 h2
    have JD := fun va vb W h1 h2 => joinI2 va vb LA LB W h1 h2
    have JV := fun va vb W h1 h2 => joinI0 va vb LA LB W h1 h2
    have JB := fun va vb W h1 h2 => joinI0 va vb LB LA W h1 h2
    have JZ := fun va vb W h1 h2 => joinI2 va vb LA LA W h1 h2
    have JR := fun v W h1 => rofI v (LB ++ LA) W h1
    unfold JoinAns at JU JC JD JV JB JZ
    unfold RofAns at JR
    rw [forms_one hA hB] at JU
    rw [forms_three hA hB] at JB
    rw [forms_four hA] at JZ
    rw [forms_two hA hB] at JR
    have hV : okL (joinL (fun p q => p || q) LA LB) = true := join_ok hA hB
    obtain ⟨V, hVe⟩ : ∃ V, V = joinL (fun p q => p || q) LA LB := ⟨_, rfl⟩
    rw [← hVe] at JV JB JR hV
    have HU := Lib.hid JU
    have HC := Lib.hid JC
    have HD := Lib.hid JD
    have HV := Lib.hid JV
    have HB := Lib.hid JB
    have HZ := Lib.hid JZ
    have HR := Lib.hid JR
    have HO := Lib.hid hV
    clear JU JC JD JV JB JZ JR hVe hV hA hB hoa hob K
    go_upto_region 4 with fail
    go_cut [5] (fun s5 wx => ∃ wy, wy = wx ∧ ∃ b Ar nr cr, s5 = .pointer (some ⟨b, 0, none⟩) ∧ BR wx b (.slice Ar nr cr) LA ∧ Below ((w1.alloc (.cells #[.slice Aa LA.length ca] 26)).alloc (.cells #[.slice Ab LB.length cb] 26)).heap.size ((w1.alloc (.cells #[.slice Aa LA.length ca] 26)).alloc (.cells #[.slice Ab LB.length cb] 26)) wx)
    case first =>
      refine wp_region_held_drew (S := (fun W => W.cell? ⟨w1.heap.size, 0, none⟩ = some (.slice Aa LA.length ca) ∧ W.cell? ⟨w1.heap.size + 1, 0, none⟩ = some (.slice Ab LB.length cb))) (by kernel_rfl) ⟨cell_drew HT.out.cells.1, cell_drew HT.out.cells.2⟩ (fun hHeld => ?_)
      have K : Below ((w1.alloc (.cells #[.slice Aa LA.length ca] 26)).alloc (.cells #[.slice Ab LB.length cb] 26)).heap.size ((w1.alloc (.cells #[.slice Aa LA.length ca] 26)).alloc (.cells #[.slice Ab LB.length cb] 26)) ((w1.alloc (.cells #[.slice Aa LA.length ca] 26)).alloc (.cells #[.slice Ab LB.length cb] 26)).drew := (Below.refl _ _).drew
      refine wpAnyH_take (i := 0) (v := .agg #[.slice Aa LA.length ca]) rfl (by kernel_rfl) (by kernel_rfl) (by kernel_rfl) (fun _ _ _ h => h) (Or.inl ⟨by kernel_rfl, by intro w' hSw; (try dsimp only at hSw); go_simp⟩) (by assumption) ?_
      refine wpAnyH_take (i := 1) (v := .agg #[.slice Ab LB.length cb]) rfl (by kernel_rfl) (by kernel_rfl) (by kernel_rfl) (fun _ _ _ h => h) (Or.inl ⟨by kernel_rfl, by intro w' hSw; (try dsimp only at hSw); go_simp⟩) (by assumption) ?_
      refine wpAnyH_take (i := 3) (v := .agg #[.slice Aa LA.length ca]) rfl (by kernel_rfl) (by kernel_rfl) (by kernel_rfl) (fun _ _ _ h => h) (Or.inl ⟨by kernel_rfl, by intro w' hSw; (try dsimp only at hSw); go_simp⟩) (by assumption) ?_
      refine wpAnyH_take (i := 4) (v := .agg #[.slice Ab LB.length cb]) rfl (by kernel_rfl) (by kernel_rfl) (by kernel_rfl) (fun _ _ _ h => h) (Or.inl ⟨by kernel_rfl, by intro w' hSw; (try dsimp only at hSw); go_simp⟩) (by assumption) ?_
      refine wpAnyH_ready (rs := [2, 7]) (by kernel_rfl) (by simp) ?_
      refine (AllReadyH.cons rfl (fun K' hK => ?_) (AllReadyH.cons rfl (fun K' hK => ?_) AllReadyH.nil))
      · rw [if_pos (by kernel_rfl)]
        go_simp
        with_reducible refine (HD.out _ _ _ (HT.out.call K).t.a.r (HT.out.call K).t.b.r).mono ?_
        rintro e W' ⟨v1, rfl, h1, hk⟩
        replace K := below_call K hk
        clear hk
        dsimp only
        refine hK.out _ _ (HT.out.call K).cells (fun _ => ?_)
        clear hK
        try simp only [Act.put, List.setIfInBounds_toArray, List.set_cons_zero, List.set_cons_succ]
        refine wpAnyH_ready (rs := [5, 7]) (by kernel_rfl) (by simp) ?_
        refine (AllReadyH.cons rfl (fun K' hK => ?_) (AllReadyH.cons rfl (fun K' hK => ?_) AllReadyH.nil))
        · rw [if_pos (by kernel_rfl)]
          go_simp
          with_reducible refine (HC.out _ _ _ (HT.out.call K).t.a.r (HT.out.call K).t.b.r).mono ?_
          rintro e W' ⟨v2, rfl, h2, hk⟩
          replace h1 := own_call2 h1 hk
          replace K := below_call K hk
          clear hk
          dsimp only
          refine hK.out _ _ (HT.out.call K).cells (fun _ => ?_)
          clear hK
          try simp only [Act.put, List.setIfInBounds_toArray, List.set_cons_zero, List.set_cons_succ]
          refine wpAnyH_ready (rs := [6, 7]) (by kernel_rfl) (by simp) ?_
          refine (AllReadyH.cons rfl (fun K' hK => ?_) (AllReadyH.cons rfl (fun K' hK => ?_) AllReadyH.nil))
          · rw [if_pos (by kernel_rfl)]
            go_simp
            with_reducible refine (HU.out v1 v2 _ (RdR.of_own h1) (RdR.of_own h2)).mono ?_
            rintro e W' ⟨vr, rfl, hO, hk⟩
            obtain ⟨Ar, cr, hvr⟩ := own_shape hO
            subst hvr
            obtain ⟨nr, hnr⟩ : ∃ nr, nr = LA.length := ⟨_, rfl⟩
            rw [← hnr] at hO ⊢
            clear hnr
            clear h1 h2
            replace K := below_call K hk
            clear hk
            dsimp only
            refine hK.out _ _ (HT.out.call K).cells (fun _ => ?_)
            clear hK
            try simp only [Act.put, List.setIfInBounds_toArray, List.set_cons_zero, List.set_cons_succ]
            refine wpAnyH_ready (rs := [7]) (by kernel_rfl) (by simp) ?_
            refine (AllReadyH.cons rfl (fun K' hK => ?_) AllReadyH.nil)
            · rw [if_pos (by kernel_rfl)]
              refine wp_alloc_rg2 5 rfl rfl ?_
              intro b W' hk hN hbl
              have hbn : ((w1.alloc (.cells #[.slice Aa LA.length ca] 26)).alloc (.cells #[.slice Ab LB.length cb] 26)).heap.size ≤ b := by have := K.size; omega
              have hsep : ∀ k, Value.ownBlock (Value.slice Ar nr cr) = some k → k ≠ b := fun k hk => by have := (hO.lt k hk).2; omega
              replace hO := own_call2 hO hk
              replace K := below_call K hk
              clear hk
              refine hK.out _ _ (HT.out.call K).cells (fun _ => ?_)
              clear hK
              try simp only [Act.put, List.setIfInBounds_toArray, List.set_cons_zero, List.set_cons_succ]
              have nc := hN.cell
              have nf := hN.frozen
              refine wpAnyH_ready (rs := [8]) (by kernel_rfl) (by simp) ?_
              refine AllReadyH.cons rfl (fun K' hK => ?_) AllReadyH.nil
              rw [if_pos (by kernel_rfl)]
              go_simp
              have K2 := K.setCell (p := ⟨b, 0, none⟩) hbn (.slice Ar nr cr)
              refine hK.out _ _ (HT.out.call K2).cells (fun _ => ?_)
              clear hK
              refine wpAnyH_done (by kernel_rfl) ?_ _
              go_wp2_with fail
              go_meet
              case rel => exact ⟨_, rfl, b, Ar, nr, cr, rfl, ⟨heap_set0 hN _, RdR.of_own (own_setsep2 hO hsep _)⟩, K2⟩
          · rw [if_pos (by kernel_rfl)]
            refine wp_alloc_rg2 5 rfl rfl ?_
            intro b W' hk hN hbl
            have hbn : ((w1.alloc (.cells #[.slice Aa LA.length ca] 26)).alloc (.cells #[.slice Ab LB.length cb] 26)).heap.size ≤ b := by have := K.size; omega
            replace h1 := own_call2 h1 hk
            replace h2 := own_call2 h2 hk
            replace K := below_call K hk
            clear hk
            refine hK.out _ _ (HT.out.call K).cells (fun _ => ?_)
            clear hK
            try simp only [Act.put, List.setIfInBounds_toArray, List.set_cons_zero, List.set_cons_succ]
            refine wpAnyH_ready (rs := [6]) (by kernel_rfl) (by simp) ?_
            refine (AllReadyH.cons rfl (fun K' hK => ?_) AllReadyH.nil)
            · rw [if_pos (by kernel_rfl)]
              go_simp
              with_reducible refine (HU.out v1 v2 _ (RdR.of_own h1) (RdR.of_own h2)).mono ?_
              rintro e W' ⟨vr, rfl, hO, hk⟩
              obtain ⟨Ar, cr, hvr⟩ := own_shape hO
              subst hvr
              obtain ⟨nr, hnr⟩ : ∃ nr, nr = LA.length := ⟨_, rfl⟩
              rw [← hnr] at hO ⊢
              clear hnr
              have hsep : ∀ k, (Value.slice Ar nr cr).ownBlock = some k → k ≠ b := fun k hk => by have := (hO.lt k hk).1; have := hN.lt; omega
              clear h1 h2
              replace hN := hN.call hk
              replace K := below_call K hk
              clear hk
              dsimp only
              refine hK.out _ _ (HT.out.call K).cells (fun _ => ?_)
              clear hK
              try simp only [Act.put, List.setIfInBounds_toArray, List.set_cons_zero, List.set_cons_succ]
              have nc := hN.cell
              have nf := hN.frozen
              refine wpAnyH_ready (rs := [8]) (by kernel_rfl) (by simp) ?_
              refine AllReadyH.cons rfl (fun K' hK => ?_) AllReadyH.nil
              rw [if_pos (by kernel_rfl)]
              go_simp
              have K2 := K.setCell (p := ⟨b, 0, none⟩) hbn (.slice Ar nr cr)
              refine hK.out _ _ (HT.out.call K2).cells (fun _ => ?_)
              clear hK
              refine wpAnyH_done (by kernel_rfl) ?_ _
              go_wp2_with fail
              go_meet
              case rel => exact ⟨_, rfl, b, Ar, nr, cr, rfl, ⟨heap_set0 hN _, RdR.of_own (own_setsep2 hO hsep _)⟩, K2⟩
        · rw [if_pos (by kernel_rfl)]
          refine wp_alloc_rg2 5 rfl rfl ?_
          intro b W' hk hN hbl
          have hbn : ((w1.alloc (.cells #[.slice Aa LA.length ca] 26)).alloc (.cells #[.slice Ab LB.length cb] 26)).heap.size ≤ b := by have := K.size; omega
          replace h1 := own_call2 h1 hk
          replace K := below_call K hk
          clear hk
          refine hK.out _ _ (HT.out.call K).cells (fun _ => ?_)
          clear hK
          try simp only [Act.put, List.setIfInBounds_toArray, List.set_cons_zero, List.set_cons_succ]
          refine wpAnyH_ready (rs := [5]) (by kernel_rfl) (by simp) ?_
          refine (AllReadyH.cons rfl (fun K' hK => ?_) AllReadyH.nil)
          · rw [if_pos (by kernel_rfl)]
            go_simp
            with_reducible refine (HC.out _ _ _ (HT.out.call K).t.a.r (HT.out.call K).t.b.r).mono ?_
            rintro e W' ⟨v2, rfl, h2, hk⟩
            replace h1 := own_call2 h1 hk
            replace hN := hN.call hk
            replace K := below_call K hk
            clear hk
            dsimp only
            refine hK.out _ _ (HT.out.call K).cells (fun _ => ?_)
            clear hK
            try simp only [Act.put, List.setIfInBounds_toArray, List.set_cons_zero, List.set_cons_succ]
            refine wpAnyH_ready (rs := [6]) (by kernel_rfl) (by simp) ?_
            refine (AllReadyH.cons rfl (fun K' hK => ?_) AllReadyH.nil)
            · rw [if_pos (by kernel_rfl)]
              go_simp
              with_reducible refine (HU.out v1 v2 _ (RdR.of_own h1) (RdR.of_own h2)).mono ?_
              rintro e W' ⟨vr, rfl, hO, hk⟩
              obtain ⟨Ar, cr, hvr⟩ := own_shape hO
              subst hvr
              obtain ⟨nr, hnr⟩ : ∃ nr, nr = LA.length := ⟨_, rfl⟩
              rw [← hnr] at hO ⊢
              clear hnr
              have hsep : ∀ k, (Value.slice Ar nr cr).ownBlock = some k → k ≠ b := fun k hk => by have := (hO.lt k hk).1; have := hN.lt; omega
              clear h1 h2
              replace hN := hN.call hk
              replace K := below_call K hk
              clear hk
              dsimp only
              refine hK.out _ _ (HT.out.call K).cells (fun _ => ?_)
              clear hK
              try simp only [Act.put, List.setIfInBounds_toArray, List.set_cons_zero, List.set_cons_succ]
              have nc := hN.cell
              have nf := hN.frozen
              refine wpAnyH_ready (rs := [8]) (by kernel_rfl) (by simp) ?_
              refine AllReadyH.cons rfl (fun K' hK => ?_) AllReadyH.nil
              rw [if_pos (by kernel_rfl)]
              go_simp
              have K2 := K.setCell (p := ⟨b, 0, none⟩) hbn (.slice Ar nr cr)
              refine hK.out _ _ (HT.out.call K2).cells (fun _ => ?_)
              clear hK
              refine wpAnyH_done (by kernel_rfl) ?_ _
              go_wp2_with fail
              go_meet
              case rel => exact ⟨_, rfl, b, Ar, nr, cr, rfl, ⟨heap_set0 hN _, RdR.of_own (own_setsep2 hO hsep _)⟩, K2⟩
      · rw [if_pos (by kernel_rfl)]
        refine wp_alloc_rg2 5 rfl rfl ?_
        intro b W' hk hN hbl
        have hbn : ((w1.alloc (.cells #[.slice Aa LA.length ca] 26)).alloc (.cells #[.slice Ab LB.length cb] 26)).heap.size ≤ b := by have := K.size; omega
        replace K := below_call K hk
        clear hk
        refine hK.out _ _ (HT.out.call K).cells (fun _ => ?_)
        clear hK
        try simp only [Act.put, List.setIfInBounds_toArray]
        refine wpAnyH_ready (rs := [2]) (by kernel_rfl) (by simp) ?_
        refine (AllReadyH.cons rfl (fun K' hK => ?_) AllReadyH.nil)
        · rw [if_pos (by kernel_rfl)]
          go_simp
          with_reducible refine (HD.out _ _ _ (HT.out.call K).t.a.r (HT.out.call K).t.b.r).mono ?_
          rintro e W' ⟨v1, rfl, h1, hk⟩
          replace hN := hN.call hk
          replace K := below_call K hk
          clear hk
          dsimp only
          refine hK.out _ _ (HT.out.call K).cells (fun _ => ?_)
          clear hK
          try simp only [Act.put, List.setIfInBounds_toArray, List.set_cons_zero, List.set_cons_succ]
          refine wpAnyH_ready (rs := [5]) (by kernel_rfl) (by simp) ?_
          refine (AllReadyH.cons rfl (fun K' hK => ?_) AllReadyH.nil)
          · rw [if_pos (by kernel_rfl)]
            go_simp
            with_reducible refine (HC.out _ _ _ (HT.out.call K).t.a.r (HT.out.call K).t.b.r).mono ?_
            rintro e W' ⟨v2, rfl, h2, hk⟩
            replace h1 := own_call2 h1 hk
            replace hN := hN.call hk
            replace K := below_call K hk
            clear hk
            dsimp only
            refine hK.out _ _ (HT.out.call K).cells (fun _ => ?_)
            clear hK
            try simp only [Act.put, List.setIfInBounds_toArray, List.set_cons_zero, List.set_cons_succ]
            refine wpAnyH_ready (rs := [6]) (by kernel_rfl) (by simp) ?_
            refine (AllReadyH.cons rfl (fun K' hK => ?_) AllReadyH.nil)
            · rw [if_pos (by kernel_rfl)]
              go_simp
              with_reducible refine (HU.out v1 v2 _ (RdR.of_own h1) (RdR.of_own h2)).mono ?_
              rintro e W' ⟨vr, rfl, hO, hk⟩
              obtain ⟨Ar, cr, hvr⟩ := own_shape hO
              subst hvr
              obtain ⟨nr, hnr⟩ : ∃ nr, nr = LA.length := ⟨_, rfl⟩
              rw [← hnr] at hO ⊢
              clear hnr
              have hsep : ∀ k, (Value.slice Ar nr cr).ownBlock = some k → k ≠ b := fun k hk => by have := (hO.lt k hk).1; have := hN.lt; omega
              clear h1 h2
              replace hN := hN.call hk
              replace K := below_call K hk
              clear hk
              dsimp only
              refine hK.out _ _ (HT.out.call K).cells (fun _ => ?_)
              clear hK
              try simp only [Act.put, List.setIfInBounds_toArray, List.set_cons_zero, List.set_cons_succ]
              have nc := hN.cell
              have nf := hN.frozen
              refine wpAnyH_ready (rs := [8]) (by kernel_rfl) (by simp) ?_
              refine AllReadyH.cons rfl (fun K' hK => ?_) AllReadyH.nil
              rw [if_pos (by kernel_rfl)]
              go_simp
              have K2 := K.setCell (p := ⟨b, 0, none⟩) hbn (.slice Ar nr cr)
              refine hK.out _ _ (HT.out.call K2).cells (fun _ => ?_)
              clear hK
              refine wpAnyH_done (by kernel_rfl) ?_ _
              go_wp2_with fail
              go_meet
              case rel => exact ⟨_, rfl, b, Ar, nr, cr, rfl, ⟨heap_set0 hN _, RdR.of_own (own_setsep2 hO hsep _)⟩, K2⟩
    case rest =>
      obtain ⟨wa, hwa, b5, A5, n5, c5, rfl, h5, K⟩ := hcut
      subst hwa
      have HT' := Lib.hid (HT.out.call K)
      clear HT K
      have HT := HT'
      clear HT'
      go_upto_region 5 with fail
      go_cut [6] (fun s6 wx => ∃ wy, wy = wx ∧ ∃ b Ar nr cr, s6 = .pointer (some ⟨b, 0, none⟩) ∧ BR wx b (.slice Ar nr cr) V ∧ Below wa.heap.size wa wx)
      case first =>
        refine wp_region_held_drew (S := (fun W => W.cell? ⟨w1.heap.size, 0, none⟩ = some (.slice Aa LA.length ca) ∧ W.cell? ⟨w1.heap.size + 1, 0, none⟩ = some (.slice Ab LB.length cb))) (by kernel_rfl) ⟨cell_drew HT.out.cells.1, cell_drew HT.out.cells.2⟩ (fun hHeld => ?_)
        have K : Below (wa).heap.size (wa) (wa).drew := (Below.refl _ _).drew
        refine wpAnyH_take (i := 1) (v := .pointer (some ⟨w1.heap.size + 1, 0, none⟩)) rfl (by kernel_rfl) (by kernel_rfl) (by kernel_rfl) (fun _ _ _ h => h) (Or.inl ⟨by kernel_rfl, by intro w' hSw; (try dsimp only at hSw); go_simp⟩) (by assumption) ?_
        refine wpAnyH_take (i := 2) (v := .slice Ab LB.length cb) rfl (by kernel_rfl) (by kernel_rfl) (by kernel_rfl) (fun _ _ _ h => h) (Or.inl ⟨by kernel_rfl, by intro w' hSw; (try dsimp only at hSw); go_simp⟩) (by assumption) ?_
        refine wpAnyH_take (i := 4) (v := .pointer (some ⟨w1.heap.size, 0, none⟩)) rfl (by kernel_rfl) (by kernel_rfl) (by kernel_rfl) (fun _ _ _ h => h) (Or.inl ⟨by kernel_rfl, by intro w' hSw; (try dsimp only at hSw); go_simp⟩) (by assumption) ?_
        refine wpAnyH_take (i := 5) (v := .slice Aa LA.length ca) rfl (by kernel_rfl) (by kernel_rfl) (by kernel_rfl) (fun _ _ _ h => h) (Or.inl ⟨by kernel_rfl, by intro w' hSw; (try dsimp only at hSw); go_simp⟩) (by assumption) ?_
        refine wpAnyH_ready (rs := [0, 8]) (by kernel_rfl) (by simp) ?_
        refine (AllReadyH.cons rfl (fun K' hK => ?_) (AllReadyH.cons rfl (fun K' hK => ?_) AllReadyH.nil))
        · rw [if_pos (by kernel_rfl)]
          refine wp_build0 24 rfl rfl ?_
          intro v0 W' hk hV0 hvl
          replace hV0 := hV0.mono (show wa.heap.size ≤ _ by have := K.size; omega)
          replace K := below_call K hk
          clear hk hvl
          refine hK.out _ _ (HT.out.call K).cells (fun _ => ?_)
          clear hK
          try simp only [Act.put, List.setIfInBounds_toArray]
          refine wpAnyH_ready (rs := [3, 8]) (by kernel_rfl) (by simp) ?_
          refine (AllReadyH.cons rfl (fun K' hK => ?_) (AllReadyH.cons rfl (fun K' hK => ?_) AllReadyH.nil))
          · rw [if_pos (by kernel_rfl)]
            refine wp_append_row _ _ 24 rfl wa.heap.size w.heap.size 31 i0 (.agg #[.int .i64 0, .int .i64 0, .int .i64 0, .int .i64 0]) 4 32 Try.underlying24 hi hz0 hz1 hz2 rfl (by decide) v0 _ _ rfl hV0 _ _ _ rfl (HT.out.call K).ob (rcs_one _) (by have := HLA.out; have := HLB.out; unfold maxLen; omega) (by have := HLA.out; have := HLB.out; omega) (by have := K.size; omega) ?_
            intro v1 W' hV1 hgr hat
            replace K := K.grown hgr K.size (fun k hk => (hV0.lt k hk).1)
            clear hgr hat hV0
            refine hK.out _ _ (HT.out.call K).cells (fun _ => ?_)
            clear hK
            try simp only [Act.put]
            refine wpAnyH_ready (rs := [6, 8]) (by kernel_rfl) (by simp) ?_
            refine (AllReadyH.cons rfl (fun K' hK => ?_) (AllReadyH.cons rfl (fun K' hK => ?_) AllReadyH.nil))
            · rw [if_pos (by kernel_rfl)]
              refine wp_append_row _ _ 24 rfl wa.heap.size w.heap.size 31 i0 (.agg #[.int .i64 0, .int .i64 0, .int .i64 0, .int .i64 0]) 4 32 Try.underlying24 hi hz0 hz1 hz2 rfl (by decide) v1 _ _ rfl hV1 _ _ _ rfl (HT.out.call K).oa (rcs_one _) (by have := HLA.out; have := HLB.out; unfold maxLen; omega) (by have := HLA.out; have := HLB.out; omega) (by have := K.size; omega) ?_
              intro v2 W' hV2 hgr hat
              replace K := K.grown hgr K.size (fun k hk => (hV1.lt k hk).1)
              clear hgr hat hV1
              refine hK.out _ _ (HT.out.call K).cells (fun _ => ?_)
              clear hK
              try simp only [Act.put]
              refine wpAnyH_ready (rs := [7, 8]) (by kernel_rfl) (by simp) ?_
              refine (AllReadyH.cons rfl (fun K' hK => ?_) (AllReadyH.cons rfl (fun K' hK => ?_) AllReadyH.nil))
              · rw [if_pos (by kernel_rfl)]
                have hRd := RdR.of_own (L := LB ++ LA) (n := 0 + LB.length + LA.length) (B := wa.heap.size) (e := 31) (by rw [rcsCells_append]; exact hV2)
                go_simp
                with_reducible refine (HR.out v2 _ hRd).mono ?_
                rintro e W' ⟨vr, rfl, hO, hk⟩
                obtain ⟨Ar, cr, hvr⟩ := own_shape hO
                subst hvr
                obtain ⟨nr, hnr⟩ : ∃ nr, nr = V.length := ⟨_, rfl⟩
                rw [← hnr] at hO ⊢
                clear hnr
                replace K := below_call K hk
                clear hk hV2 hRd
                dsimp only
                refine hK.out _ _ (HT.out.call K).cells (fun _ => ?_)
                clear hK
                try simp only [Act.put, List.setIfInBounds_toArray, List.set_cons_zero, List.set_cons_succ]
                refine wpAnyH_ready (rs := [8]) (by kernel_rfl) (by simp) ?_
                refine (AllReadyH.cons rfl (fun K' hK => ?_) AllReadyH.nil)
                · rw [if_pos (by kernel_rfl)]
                  refine wp_alloc_rg2 6 rfl rfl ?_
                  intro b W' hk hN hbl
                  have hbn : (wa).heap.size ≤ b := by have := K.size; omega
                  have hsep : ∀ k, Value.ownBlock (Value.slice Ar nr cr) = some k → k ≠ b := fun k hk => by have := (hO.lt k hk).2; omega
                  replace hO := own_call2 hO hk
                  replace K := below_call K hk
                  clear hk
                  refine hK.out _ _ (HT.out.call K).cells (fun _ => ?_)
                  clear hK
                  try simp only [Act.put, List.setIfInBounds_toArray, List.set_cons_zero, List.set_cons_succ]
                  have nc := hN.cell
                  have nf := hN.frozen
                  refine wpAnyH_ready (rs := [9]) (by kernel_rfl) (by simp) ?_
                  refine AllReadyH.cons rfl (fun K' hK => ?_) AllReadyH.nil
                  rw [if_pos (by kernel_rfl)]
                  go_simp
                  have K2 := K.setCell (p := ⟨b, 0, none⟩) hbn (.slice Ar nr cr)
                  refine hK.out _ _ (HT.out.call K2).cells (fun _ => ?_)
                  clear hK
                  refine wpAnyH_done (by kernel_rfl) ?_ _
                  go_wp2_with fail
                  go_meet
                  case rel => exact ⟨_, rfl, b, Ar, nr, cr, rfl, ⟨heap_set0 hN _, RdR.of_own (own_setsep2 hO hsep _)⟩, K2⟩
              · rw [if_pos (by kernel_rfl)]
                refine wp_alloc_rg2 6 rfl rfl ?_
                intro b W' hk hN hbl
                have hbn : (wa).heap.size ≤ b := by have := K.size; omega
                have hsep : ∀ k, Value.ownBlock v2 = some k → k ≠ b := fun k hk => by have := (hV2.lt k hk).2; omega
                replace hV2 := own_call2 hV2 hk
                replace K := below_call K hk
                clear hk
                refine hK.out _ _ (HT.out.call K).cells (fun _ => ?_)
                clear hK
                try simp only [Act.put]
                refine wpAnyH_ready (rs := [7]) (by kernel_rfl) (by simp) ?_
                refine (AllReadyH.cons rfl (fun K' hK => ?_) AllReadyH.nil)
                · rw [if_pos (by kernel_rfl)]
                  have hRd := RdR.of_own (L := LB ++ LA) (n := 0 + LB.length + LA.length) (B := wa.heap.size) (e := 31) (by rw [rcsCells_append]; exact hV2)
                  go_simp
                  with_reducible refine (HR.out v2 _ hRd).mono ?_
                  rintro e W' ⟨vr, rfl, hO, hk⟩
                  obtain ⟨Ar, cr, hvr⟩ := own_shape hO
                  subst hvr
                  obtain ⟨nr, hnr⟩ : ∃ nr, nr = V.length := ⟨_, rfl⟩
                  rw [← hnr] at hO ⊢
                  clear hnr
                  clear hsep
                  have hsep : ∀ k, (Value.slice Ar nr cr).ownBlock = some k → k ≠ b := fun k hk => by have := (hO.lt k hk).1; have := hN.lt; omega
                  replace hN := hN.call hk
                  replace K := below_call K hk
                  clear hk hV2 hRd
                  dsimp only
                  refine hK.out _ _ (HT.out.call K).cells (fun _ => ?_)
                  clear hK
                  try simp only [Act.put, List.setIfInBounds_toArray, List.set_cons_zero, List.set_cons_succ]
                  have nc := hN.cell
                  have nf := hN.frozen
                  refine wpAnyH_ready (rs := [9]) (by kernel_rfl) (by simp) ?_
                  refine AllReadyH.cons rfl (fun K' hK => ?_) AllReadyH.nil
                  rw [if_pos (by kernel_rfl)]
                  go_simp
                  have K2 := K.setCell (p := ⟨b, 0, none⟩) hbn (.slice Ar nr cr)
                  refine hK.out _ _ (HT.out.call K2).cells (fun _ => ?_)
                  clear hK
                  refine wpAnyH_done (by kernel_rfl) ?_ _
                  go_wp2_with fail
                  go_meet
                  case rel => exact ⟨_, rfl, b, Ar, nr, cr, rfl, ⟨heap_set0 hN _, RdR.of_own (own_setsep2 hO hsep _)⟩, K2⟩
            · rw [if_pos (by kernel_rfl)]
              refine wp_alloc_rg2 6 rfl rfl ?_
              intro b W' hk hN hbl
              have hbn : (wa).heap.size ≤ b := by have := K.size; omega
              have hsep : ∀ k, Value.ownBlock v1 = some k → k ≠ b := fun k hk => by have := (hV1.lt k hk).2; omega
              replace hV1 := own_call2 hV1 hk
              replace K := below_call K hk
              clear hk
              refine hK.out _ _ (HT.out.call K).cells (fun _ => ?_)
              clear hK
              try simp only [Act.put]
              refine wpAnyH_ready (rs := [6]) (by kernel_rfl) (by simp) ?_
              refine (AllReadyH.cons rfl (fun K' hK => ?_) AllReadyH.nil)
              · rw [if_pos (by kernel_rfl)]
                refine wp_append_row _ _ 24 rfl wa.heap.size w.heap.size 31 i0 (.agg #[.int .i64 0, .int .i64 0, .int .i64 0, .int .i64 0]) 4 32 Try.underlying24 hi hz0 hz1 hz2 rfl (by decide) v1 _ _ rfl hV1 _ _ _ rfl (HT.out.call K).oa (rcs_one _) (by have := HLA.out; have := HLB.out; unfold maxLen; omega) (by have := HLA.out; have := HLB.out; omega) (by have := K.size; omega) ?_
                intro v2 W' hV2 hgr hat
                replace K := K.grown hgr K.size (fun k hk => (hV1.lt k hk).1)
                have hsep' : ∀ k, v2.ownBlock = some k → k ≠ b := fun k hk => by
                  rcases hat with h | h
                  · exact hsep k (h ▸ hk)
                  · rw [h] at hk; have := hN.lt; injection hk with hk; omega
                replace hN := hN.grown hgr (fun h => hsep b h.symm rfl)
                replace hsep := hsep'
                clear hsep'
                clear hgr hat hV1
                refine hK.out _ _ (HT.out.call K).cells (fun _ => ?_)
                clear hK
                try simp only [Act.put]
                refine wpAnyH_ready (rs := [7]) (by kernel_rfl) (by simp) ?_
                refine (AllReadyH.cons rfl (fun K' hK => ?_) AllReadyH.nil)
                · rw [if_pos (by kernel_rfl)]
                  have hRd := RdR.of_own (L := LB ++ LA) (n := 0 + LB.length + LA.length) (B := wa.heap.size) (e := 31) (by rw [rcsCells_append]; exact hV2)
                  go_simp
                  with_reducible refine (HR.out v2 _ hRd).mono ?_
                  rintro e W' ⟨vr, rfl, hO, hk⟩
                  obtain ⟨Ar, cr, hvr⟩ := own_shape hO
                  subst hvr
                  obtain ⟨nr, hnr⟩ : ∃ nr, nr = V.length := ⟨_, rfl⟩
                  rw [← hnr] at hO ⊢
                  clear hnr
                  clear hsep
                  have hsep : ∀ k, (Value.slice Ar nr cr).ownBlock = some k → k ≠ b := fun k hk => by have := (hO.lt k hk).1; have := hN.lt; omega
                  replace hN := hN.call hk
                  replace K := below_call K hk
                  clear hk hV2 hRd
                  dsimp only
                  refine hK.out _ _ (HT.out.call K).cells (fun _ => ?_)
                  clear hK
                  try simp only [Act.put, List.setIfInBounds_toArray, List.set_cons_zero, List.set_cons_succ]
                  have nc := hN.cell
                  have nf := hN.frozen
                  refine wpAnyH_ready (rs := [9]) (by kernel_rfl) (by simp) ?_
                  refine AllReadyH.cons rfl (fun K' hK => ?_) AllReadyH.nil
                  rw [if_pos (by kernel_rfl)]
                  go_simp
                  have K2 := K.setCell (p := ⟨b, 0, none⟩) hbn (.slice Ar nr cr)
                  refine hK.out _ _ (HT.out.call K2).cells (fun _ => ?_)
                  clear hK
                  refine wpAnyH_done (by kernel_rfl) ?_ _
                  go_wp2_with fail
                  go_meet
                  case rel => exact ⟨_, rfl, b, Ar, nr, cr, rfl, ⟨heap_set0 hN _, RdR.of_own (own_setsep2 hO hsep _)⟩, K2⟩
          · rw [if_pos (by kernel_rfl)]
            refine wp_alloc_rg2 6 rfl rfl ?_
            intro b W' hk hN hbl
            have hbn : (wa).heap.size ≤ b := by have := K.size; omega
            have hsep : ∀ k, Value.ownBlock v0 = some k → k ≠ b := fun k hk => by have := (hV0.lt k hk).2; omega
            replace hV0 := own_call2 hV0 hk
            replace K := below_call K hk
            clear hk
            refine hK.out _ _ (HT.out.call K).cells (fun _ => ?_)
            clear hK
            try simp only [Act.put]
            refine wpAnyH_ready (rs := [3]) (by kernel_rfl) (by simp) ?_
            refine (AllReadyH.cons rfl (fun K' hK => ?_) AllReadyH.nil)
            · rw [if_pos (by kernel_rfl)]
              refine wp_append_row _ _ 24 rfl wa.heap.size w.heap.size 31 i0 (.agg #[.int .i64 0, .int .i64 0, .int .i64 0, .int .i64 0]) 4 32 Try.underlying24 hi hz0 hz1 hz2 rfl (by decide) v0 _ _ rfl hV0 _ _ _ rfl (HT.out.call K).ob (rcs_one _) (by have := HLA.out; have := HLB.out; unfold maxLen; omega) (by have := HLA.out; have := HLB.out; omega) (by have := K.size; omega) ?_
              intro v1 W' hV1 hgr hat
              replace K := K.grown hgr K.size (fun k hk => (hV0.lt k hk).1)
              have hsep' : ∀ k, v1.ownBlock = some k → k ≠ b := fun k hk => by
                rcases hat with h | h
                · exact hsep k (h ▸ hk)
                · rw [h] at hk; have := hN.lt; injection hk with hk; omega
              replace hN := hN.grown hgr (fun h => hsep b h.symm rfl)
              replace hsep := hsep'
              clear hsep'
              clear hgr hat hV0
              refine hK.out _ _ (HT.out.call K).cells (fun _ => ?_)
              clear hK
              try simp only [Act.put]
              refine wpAnyH_ready (rs := [6]) (by kernel_rfl) (by simp) ?_
              refine (AllReadyH.cons rfl (fun K' hK => ?_) AllReadyH.nil)
              · rw [if_pos (by kernel_rfl)]
                refine wp_append_row _ _ 24 rfl wa.heap.size w.heap.size 31 i0 (.agg #[.int .i64 0, .int .i64 0, .int .i64 0, .int .i64 0]) 4 32 Try.underlying24 hi hz0 hz1 hz2 rfl (by decide) v1 _ _ rfl hV1 _ _ _ rfl (HT.out.call K).oa (rcs_one _) (by have := HLA.out; have := HLB.out; unfold maxLen; omega) (by have := HLA.out; have := HLB.out; omega) (by have := K.size; omega) ?_
                intro v2 W' hV2 hgr hat
                replace K := K.grown hgr K.size (fun k hk => (hV1.lt k hk).1)
                have hsep' : ∀ k, v2.ownBlock = some k → k ≠ b := fun k hk => by
                  rcases hat with h | h
                  · exact hsep k (h ▸ hk)
                  · rw [h] at hk; have := hN.lt; injection hk with hk; omega
                replace hN := hN.grown hgr (fun h => hsep b h.symm rfl)
                replace hsep := hsep'
                clear hsep'
                clear hgr hat hV1
                refine hK.out _ _ (HT.out.call K).cells (fun _ => ?_)
                clear hK
                try simp only [Act.put]
                refine wpAnyH_ready (rs := [7]) (by kernel_rfl) (by simp) ?_
                refine (AllReadyH.cons rfl (fun K' hK => ?_) AllReadyH.nil)
                · rw [if_pos (by kernel_rfl)]
                  have hRd := RdR.of_own (L := LB ++ LA) (n := 0 + LB.length + LA.length) (B := wa.heap.size) (e := 31) (by rw [rcsCells_append]; exact hV2)
                  go_simp
                  with_reducible refine (HR.out v2 _ hRd).mono ?_
                  rintro e W' ⟨vr, rfl, hO, hk⟩
                  obtain ⟨Ar, cr, hvr⟩ := own_shape hO
                  subst hvr
                  obtain ⟨nr, hnr⟩ : ∃ nr, nr = V.length := ⟨_, rfl⟩
                  rw [← hnr] at hO ⊢
                  clear hnr
                  clear hsep
                  have hsep : ∀ k, (Value.slice Ar nr cr).ownBlock = some k → k ≠ b := fun k hk => by have := (hO.lt k hk).1; have := hN.lt; omega
                  replace hN := hN.call hk
                  replace K := below_call K hk
                  clear hk hV2 hRd
                  dsimp only
                  refine hK.out _ _ (HT.out.call K).cells (fun _ => ?_)
                  clear hK
                  try simp only [Act.put, List.setIfInBounds_toArray, List.set_cons_zero, List.set_cons_succ]
                  have nc := hN.cell
                  have nf := hN.frozen
                  refine wpAnyH_ready (rs := [9]) (by kernel_rfl) (by simp) ?_
                  refine AllReadyH.cons rfl (fun K' hK => ?_) AllReadyH.nil
                  rw [if_pos (by kernel_rfl)]
                  go_simp
                  have K2 := K.setCell (p := ⟨b, 0, none⟩) hbn (.slice Ar nr cr)
                  refine hK.out _ _ (HT.out.call K2).cells (fun _ => ?_)
                  clear hK
                  refine wpAnyH_done (by kernel_rfl) ?_ _
                  go_wp2_with fail
                  go_meet
                  case rel => exact ⟨_, rfl, b, Ar, nr, cr, rfl, ⟨heap_set0 hN _, RdR.of_own (own_setsep2 hO hsep _)⟩, K2⟩
        · rw [if_pos (by kernel_rfl)]
          refine wp_alloc_rg2 6 rfl rfl ?_
          intro b W' hk hN hbl
          have hbn : (wa).heap.size ≤ b := by have := K.size; omega
          replace K := below_call K hk
          clear hk
          refine hK.out _ _ (HT.out.call K).cells (fun _ => ?_)
          clear hK
          try simp only [Act.put, List.setIfInBounds_toArray]
          refine wpAnyH_ready (rs := [0]) (by kernel_rfl) (by simp) ?_
          refine (AllReadyH.cons rfl (fun K' hK => ?_) AllReadyH.nil)
          · rw [if_pos (by kernel_rfl)]
            refine wp_build0 24 rfl rfl ?_
            intro v0 W' hk hV0 hvl
            have hsep : ∀ k, v0.ownBlock = some k → k ≠ b := fun k hk => by have := (hV0.lt k hk).1; have := hN.lt; omega
            replace hN := hN.call hk
            replace hV0 := hV0.mono (show wa.heap.size ≤ _ by have := K.size; omega)
            replace K := below_call K hk
            clear hk hvl
            refine hK.out _ _ (HT.out.call K).cells (fun _ => ?_)
            clear hK
            try simp only [Act.put]
            refine wpAnyH_ready (rs := [3]) (by kernel_rfl) (by simp) ?_
            refine (AllReadyH.cons rfl (fun K' hK => ?_) AllReadyH.nil)
            · rw [if_pos (by kernel_rfl)]
              refine wp_append_row _ _ 24 rfl wa.heap.size w.heap.size 31 i0 (.agg #[.int .i64 0, .int .i64 0, .int .i64 0, .int .i64 0]) 4 32 Try.underlying24 hi hz0 hz1 hz2 rfl (by decide) v0 _ _ rfl hV0 _ _ _ rfl (HT.out.call K).ob (rcs_one _) (by have := HLA.out; have := HLB.out; unfold maxLen; omega) (by have := HLA.out; have := HLB.out; omega) (by have := K.size; omega) ?_
              intro v1 W' hV1 hgr hat
              replace K := K.grown hgr K.size (fun k hk => (hV0.lt k hk).1)
              have hsep' : ∀ k, v1.ownBlock = some k → k ≠ b := fun k hk => by
                rcases hat with h | h
                · exact hsep k (h ▸ hk)
                · rw [h] at hk; have := hN.lt; injection hk with hk; omega
              replace hN := hN.grown hgr (fun h => hsep b h.symm rfl)
              replace hsep := hsep'
              clear hsep'
              clear hgr hat hV0
              refine hK.out _ _ (HT.out.call K).cells (fun _ => ?_)
              clear hK
              try simp only [Act.put]
              refine wpAnyH_ready (rs := [6]) (by kernel_rfl) (by simp) ?_
              refine (AllReadyH.cons rfl (fun K' hK => ?_) AllReadyH.nil)
              · rw [if_pos (by kernel_rfl)]
                refine wp_append_row _ _ 24 rfl wa.heap.size w.heap.size 31 i0 (.agg #[.int .i64 0, .int .i64 0, .int .i64 0, .int .i64 0]) 4 32 Try.underlying24 hi hz0 hz1 hz2 rfl (by decide) v1 _ _ rfl hV1 _ _ _ rfl (HT.out.call K).oa (rcs_one _) (by have := HLA.out; have := HLB.out; unfold maxLen; omega) (by have := HLA.out; have := HLB.out; omega) (by have := K.size; omega) ?_
                intro v2 W' hV2 hgr hat
                replace K := K.grown hgr K.size (fun k hk => (hV1.lt k hk).1)
                have hsep' : ∀ k, v2.ownBlock = some k → k ≠ b := fun k hk => by
                  rcases hat with h | h
                  · exact hsep k (h ▸ hk)
                  · rw [h] at hk; have := hN.lt; injection hk with hk; omega
                replace hN := hN.grown hgr (fun h => hsep b h.symm rfl)
                replace hsep := hsep'
                clear hsep'
                clear hgr hat hV1
                refine hK.out _ _ (HT.out.call K).cells (fun _ => ?_)
                clear hK
                try simp only [Act.put]
                refine wpAnyH_ready (rs := [7]) (by kernel_rfl) (by simp) ?_
                refine (AllReadyH.cons rfl (fun K' hK => ?_) AllReadyH.nil)
                · rw [if_pos (by kernel_rfl)]
                  have hRd := RdR.of_own (L := LB ++ LA) (n := 0 + LB.length + LA.length) (B := wa.heap.size) (e := 31) (by rw [rcsCells_append]; exact hV2)
                  go_simp
                  with_reducible refine (HR.out v2 _ hRd).mono ?_
                  rintro e W' ⟨vr, rfl, hO, hk⟩
                  obtain ⟨Ar, cr, hvr⟩ := own_shape hO
                  subst hvr
                  obtain ⟨nr, hnr⟩ : ∃ nr, nr = V.length := ⟨_, rfl⟩
                  rw [← hnr] at hO ⊢
                  clear hnr
                  clear hsep
                  have hsep : ∀ k, (Value.slice Ar nr cr).ownBlock = some k → k ≠ b := fun k hk => by have := (hO.lt k hk).1; have := hN.lt; omega
                  replace hN := hN.call hk
                  replace K := below_call K hk
                  clear hk hV2 hRd
                  dsimp only
                  refine hK.out _ _ (HT.out.call K).cells (fun _ => ?_)
                  clear hK
                  try simp only [Act.put, List.setIfInBounds_toArray, List.set_cons_zero, List.set_cons_succ]
                  have nc := hN.cell
                  have nf := hN.frozen
                  refine wpAnyH_ready (rs := [9]) (by kernel_rfl) (by simp) ?_
                  refine AllReadyH.cons rfl (fun K' hK => ?_) AllReadyH.nil
                  rw [if_pos (by kernel_rfl)]
                  go_simp
                  have K2 := K.setCell (p := ⟨b, 0, none⟩) hbn (.slice Ar nr cr)
                  refine hK.out _ _ (HT.out.call K2).cells (fun _ => ?_)
                  clear hK
                  refine wpAnyH_done (by kernel_rfl) ?_ _
                  go_wp2_with fail
                  go_meet
                  case rel => exact ⟨_, rfl, b, Ar, nr, cr, rfl, ⟨heap_set0 hN _, RdR.of_own (own_setsep2 hO hsep _)⟩, K2⟩
      case rest =>
        obtain ⟨wb, hwb, b6, A6, n6, c6, rfl, h6, K⟩ := hcut
        subst hwb
        have hT := (HT.out.call K).t
        replace h5 := h5.call K
        clear HT K
        have x3 := hT.a.cell
        have x4 := hT.b.cell
        go_wp2_with fail
        refine (HV.out _ _ _ hT.a.r hT.b.r).mono ?_
        rintro e w6 ⟨vw, rfl, how, k2⟩
        obtain ⟨Aw, cw, hvw⟩ := own_shape how
        subst hvw
        have h7 := BR.new w6 (RdR.of_own how)
        replace hT := (hT.call k2).call (below_bx w6 (.slice Aw V.length cw))
        replace h5 := (h5.call k2).call (below_bx w6 (.slice Aw V.length cw))
        replace h6 := (h6.call k2).call (below_bx w6 (.slice Aw V.length cw))
        clear x3 x4 k2 how
        obtain ⟨nw, hnw⟩ : ∃ nw, nw = V.length := ⟨_, rfl⟩
        rw [← hnw] at hT h5 h6 h7 ⊢
        have hnb : nw ≤ 256 := by rw [hnw]; exact len_ok HO.out
        have Hnw := Lib.hid hnw
        clear hnw
        have hF : FrmB w (.slice Aa LA.length ca) (.slice Ab LB.length cb) (.slice A5 n5 c5) (.slice A6 n6 c6) (.slice Aw nw cw) LA LB LA V V w1.heap.size (w1.heap.size + 1) b5 b6 w6.heap.size (w6.alloc (.cells #[.slice Aw nw cw] 26)) := ⟨hT.a, hT.b, h5, h6, h7, hT.bw⟩
        clear hT h5 h6 h7
        obtain ⟨rb, hrb⟩ : ∃ r, r = boundR V := ⟨_, rfl⟩
        have HCov : Hid (∀ r ∈ V, covB rb r = true) := Lib.hid (fun r hr => by rw [hrb]; exact forms_cov HO.out hr)
        have cB := fun v W hv => boundI v V W hv
        rw [← hrb] at cB
        clear hrb
        have x7 := hF.d.cell
        go_wp2_with fail
        refine (cB _ _ hF.d.r).mono ?_
        rintro e w8 ⟨rfl, kb⟩
        replace hF := (hF.call kb).call (below_box' w8 (.cells #[.int .i64 rb.x, .int .i64 rb.y, .int .i64 rb.w, .int .i64 rb.h] 31))
        have hQ := RcAt.new w8 rb
        clear kb cB x7
        go_wp2_with fail
        go_loopw [9] (fun i wr => ∃ k : Nat, k ≤ nw ∧ i = .int .i64 k ∧ FrmB w (.slice Aa LA.length ca) (.slice Ab LB.length cb) (.slice A5 n5 c5) (.slice A6 n6 c6) (.slice Aw nw cw) LA LB LA V V w1.heap.size (w1.heap.size + 1) b5 b6 w6.heap.size wr ∧ RcAt wr w8.heap.size rb) (fun i _ => nw - (intOf i).toNat)
        case atStart => exact ⟨0, by omega, rfl, hF, hQ⟩
        case round =>
          clear hF hQ
          obtain ⟨k, hk, rfl, hF, hQ⟩ := hrel
          have x7 := hF.d.cell
          by_cases hlt : k < nw
          · have k0 : (0 : Int) ≤ (k : Int) := by omega
            have k1 : (k : Int) < (nw : Int) := by omega
            obtain ⟨g, r, e, hr, hC⟩ := hF.d.r.at_ (k := k) (by rw [← Hnw.out]; exact hlt)
            subst e
            have cC := fun W => coversI_any rb r W
            rw [HCov.out r (List.mem_of_getElem? hr)] at cC
            clear hr
            go_upto_region 11 with fail
            go_region_held3 (fun W => (W.cell? ⟨w8.heap.size, 0, none⟩ = some (.int .i64 rb.x) ∧ W.cell? ⟨w8.heap.size, 1, none⟩ = some (.int .i64 rb.y) ∧ W.cell? ⟨w8.heap.size, 2, none⟩ = some (.int .i64 rb.w) ∧ W.cell? ⟨w8.heap.size, 3, none⟩ = some (.int .i64 rb.h)) ∧ W.cell? ⟨w6.heap.size, 0, none⟩ = some (.slice (some ⟨g, 0, none⟩) nw cw) ∧
                (W.cell? ⟨g, k * 4, none⟩ = some (.int .i64 r.x) ∧ W.cell? ⟨g, k * 4 + 1, none⟩ = some (.int .i64 r.y) ∧ W.cell? ⟨g, k * 4 + 2, none⟩ = some (.int .i64 r.w) ∧ W.cell? ⟨g, k * 4 + 3, none⟩ = some (.int .i64 r.h)))
              (with_reducible first | exact ⟨hQ.cells, hF.d.cell, hC.cells⟩ | exact ⟨hQ.drew.cells, hF.drew.d.cell, hC.drew.cells⟩ | fail)
              ((go_at_call 23; (with_reducible refine (cC _).mono ?_); rintro e wk ⟨rfl, hbk⟩; (with_reducible first | have hbk := below_undrew2 hbk | skip); replace hF := hF.call hbk; replace hQ := hQ.call hbk; replace hC := hC.call hbk))
            clear hC
            go_wp2_with fail
            go_roundw
            case rel => exact ⟨k + 1, by omega, by go_num, hF, hQ⟩
            case measure => simp [intOf]; omega
          · obtain rfl : k = nw := by omega
            clear hQ
            have cO := fun v W hv => rokI v V W hv
            unfold RokAns at cO
            rw [HO.out] at cO
            have hfd : ∀ (u : Value) (W : World), (Instr.field 26 (.agg #[u]) 0).run Try.prog W = .ok u W := field_rg
            go_upto_region 13 with fail
            go_region_held3 (fun W => W.cell? ⟨w1.heap.size, 0, none⟩ = some (.slice Aa LA.length ca) ∧ W.cell? ⟨w1.heap.size + 1, 0, none⟩ = some (.slice Ab LB.length cb) ∧ W.cell? ⟨b5, 0, none⟩ = some (.slice A5 n5 c5) ∧ W.cell? ⟨b6, 0, none⟩ = some (.slice A6 n6 c6) ∧ W.cell? ⟨w6.heap.size, 0, none⟩ = some (.slice Aw k cw))
              (with_reducible first | exact hF.cells | exact hF.drew.cells | fail)
              (first 
                | (go_at_call 24; (with_reducible refine (sameT _ _ LA _ hF.u.r hF.a.r).mono ?_); rintro e wk ⟨rfl, hbk⟩; (try replace hz := hz.call hbk); replace hF := hF.call hbk)
                | (go_at_call 24; (with_reducible refine (sameT _ _ LA _ hF.drew.u.r hF.drew.a.r).mono ?_); rintro e wk ⟨rfl, hbk⟩; (try replace hz := hz.call hbk); replace hF := hF.drew.call hbk)
                | (go_at_call 24; (with_reducible refine (sameT _ _ V _ hF.c.r hF.d.r).mono ?_); rintro e wk ⟨rfl, hbk⟩; (try replace hz := hz.call hbk); replace hF := hF.call hbk)
                | (go_at_call 24; (with_reducible refine (sameT _ _ V _ hF.drew.c.r hF.drew.d.r).mono ?_); rintro e wk ⟨rfl, hbk⟩; (try replace hz := hz.call hbk); replace hF := hF.drew.call hbk)
                | (go_at_call 25; (with_reducible refine (cO _ _ hF.d.r).mono ?_); rintro e wk ⟨rfl, hbk⟩; (try replace hz := hz.call hbk); replace hF := hF.call hbk)
                | (go_at_call 25; (with_reducible refine (cO _ _ hF.drew.d.r).mono ?_); rintro e wk ⟨rfl, hbk⟩; (try replace hz := hz.call hbk); replace hF := hF.drew.call hbk)
                | (go_at_call 16; (with_reducible refine (HB.out _ _ _ hF.b.r hF.a.r).mono ?_); rintro e wk ⟨vz, rfl, hoz, hbk⟩; (try replace hz := hz.call hbk); replace hF := hF.call hbk; obtain ⟨Az, cz, hvz⟩ := own_shape hoz; subst hvz; have hz := RdR.of_own hoz; clear hoz)
                | (go_at_call 16; (with_reducible refine (HB.out _ _ _ hF.drew.b.r hF.drew.a.r).mono ?_); rintro e wk ⟨vz, rfl, hoz, hbk⟩; (try replace hz := hz.call hbk); replace hF := hF.drew.call hbk; obtain ⟨Az, cz, hvz⟩ := own_shape hoz; subst hvz; have hz := RdR.of_own hoz; clear hoz)
                | (go_at_call 24; (with_reducible refine (sameT _ _ V _ hz hF.d.r).mono ?_); rintro e wk ⟨rfl, hbk⟩; (try replace hz := hz.call hbk); replace hF := hF.call hbk)
                | (go_at_call 24; (with_reducible refine (sameT _ _ V _ hz hF.drew.d.r).mono ?_); rintro e wk ⟨rfl, hbk⟩; (try replace hz := hz.call hbk); replace hF := hF.drew.call hbk)
                | (go_at_call 18; (with_reducible refine (HZ.out _ _ _ hF.a.r hF.a.r).mono ?_); rintro e wk ⟨vy, rfl, hoy, hbk⟩; (try replace hz := hz.call hbk); replace hF := hF.call hbk; obtain ⟨Ay, cy, hvy⟩ := own_shape (show World.ownsRow _ _ _ _ _ 0 _ from hoy); subst hvy; clear hoy)
                | (go_at_call 18; (with_reducible refine (HZ.out _ _ _ hF.drew.a.r hF.drew.a.r).mono ?_); rintro e wk ⟨vy, rfl, hoy, hbk⟩; (try replace hz := hz.call hbk); replace hF := hF.drew.call hbk; obtain ⟨Ay, cy, hvy⟩ := own_shape (show World.ownsRow _ _ _ _ _ 0 _ from hoy); subst hvy; clear hoy))
            go_wp2_with fail
            go_ret
            first | exact ⟨rfl, hF.bw⟩ | exact ⟨ret_bool (by simp), hF.bw⟩
  · go_enter Try.func4, Try.ntmps4
    go_wp2_with fail
    refine (big_yes _ A len cap (by omega)).mono ?_
    rintro e w' ⟨rfl, rfl⟩
    go_wp2_with fail
    go_ret
    exact ⟨rfl, Below.refl _ _⟩
end Go.Proofs.Ytcffeakajfbhhaa
