/- The walk of the law FnExactDifferenceOf: it returns true for every two images. -/
import Derived.Test.YtmjndoedchiggaaMA
import Derived.Test.YtmjndoedchiggaaImR
import Derived.Test.YtmjndoedchiggaaImL
import Derived.Test.YtmjndoedchiggaaImV
import Derived.Test.YtmjndoedchiggaaCpyB
import Derived.Test.YtmjndoedchiggaaDifB
import Derived.Test.YtmjndoedchiggaaLaw
import Derived.Test.YtmjndoedchiggaaDifI
import Derived.Test.YtmjndoedchiggaaDifS
import Derived.Test.YtmjndoedchiggaaProg
import Derived.WalkKit
import Derived.ProofKit
import Derived.OpenShut
import Derived.WalkLawsBesides
import Derived.WalkSpells
import Derived.ShutString
import Derived.ChangeOld
import Derived.Below
import Derived.Lib.Hide
import Derived.BigQuiet
import Derived.Deep.QuietTactic
import Derived.Maps.AppendAt
import Derived.Deep.OwnRows
import Derived.Handy
import Derived.Deep.Draws
import Derived.OwnWalk
import Derived.Deep.AppendLies
import Derived.Deep.LoopGhost
import Derived.Deep.Onto
import Derived.Deep.RegionHeld3
import Derived.Deep.DeepCutAuto
import Derived.Laws.BitsAllLaws
import Derived.Lib.QuoteBits
import Derived.Test.YtmjndoedchiggaaShelf
import Derived.Laws.CopyOwn
import Derived.Deep.RegionLaw
import Derived.Great.BuildSlice
import Derived.Deep.MidRow
import Derived.Deep.WholeRow
import Derived.Laws.AppendOwn
namespace Go.Proofs.Ytmjndoedchiggaa
open Go.RowKit
set_option maxHeartbeats 1000000 in
set_option maxRecDepth 10000 in
theorem walk_FnExactDifferenceOf (X0 Y0 : Int) (v0 : Value) (L0 : List Int) (X1 Y1 : Int) (v1 : Value) (L1 : List Int) (w : World) (h0 : Rd w v0 L0.length (intCells L0)) (h1 : Rd w v1 L1.length (intCells L1)) :
    Calls Try.prog 6 #[.agg #[.int .i64 X0, .int .i64 Y0, v0], .agg #[.int .i64 X1, .int .i64 Y1, v1]] w fun e w' => e = .returned (.bool true) ∧ Below w.heap.size w w' := by
  obtain ⟨A0, c0, rfl⟩ := h0.form
  have hm0 : L0.length ≤ maxLen := h0.len.2
  obtain ⟨A1, c1, rfl⟩ := h1.form
  have hm1 : L1.length ≤ maxLen := h1.len.2
  have O0 := Lib.hid h0
  have O1 := Lib.hid h1
  have Kw := Below.refl w.heap.size w
  have hb0 := belI_box w (.cells #[.int .i64 X0, .int .i64 Y0, .slice A0 L0.length c0] 41)
  have a0 : ImA (w.heap.size) X0 Y0 (.slice A0 L0.length c0) L0 (w.alloc (.cells #[.int .i64 X0, .int .i64 Y0, .slice A0 L0.length c0] 41)) := ⟨ImAt.newAt (w := w) (by simp) _ _ _ _, (h0.call Kw).call hb0⟩
  replace Kw := belI_call Kw hb0
  clear hb0
  have hb1 := belI_box (w.alloc (.cells #[.int .i64 X0, .int .i64 Y0, .slice A0 L0.length c0] 41)) (.cells #[.int .i64 X1, .int .i64 Y1, .slice A1 L1.length c1] 41)
  replace a0 := a0.call hb1
  have a1 : ImA (w.heap.size + 1) X1 Y1 (.slice A1 L1.length c1) L1 ((w.alloc (.cells #[.int .i64 X0, .int .i64 Y0, .slice A0 L0.length c0] 41)).alloc (.cells #[.int .i64 X1, .int .i64 Y1, .slice A1 L1.length c1] 41)) := ⟨ImAt.newAt (w := (w.alloc (.cells #[.int .i64 X0, .int .i64 Y0, .slice A0 L0.length c0] 41))) (by simp) _ _ _ _, (h1.call Kw).call hb1⟩
  replace Kw := belI_call Kw hb1
  clear hb1
  obtain ⟨w0, hw0⟩ : ∃ w0, w0 = ((w.alloc (.cells #[.int .i64 X0, .int .i64 Y0, .slice A0 L0.length c0] 41)).alloc (.cells #[.int .i64 X1, .int .i64 Y1, .slice A1 L1.length c1] 41)) := ⟨_, rfl⟩
  rw [← hw0] at Kw a0 a1
  have Hw := Lib.hid hw0
  clear hw0 h0 h1
  by_cases g0 : L0.length ≤ 1048576
  rotate_left
  · have g' : ¬ L0.length ≤ 1048576 := g0
    obtain ⟨a0_0, a0_1, a0_2⟩ := a0.cells
    obtain ⟨a1_0, a1_1, a1_2⟩ := a1.cells
    go_enter Try.func6, Try.ntmps6
    go_wp2_with fail
    rw [← Hw.out]
    clear a0_0 a0_1 a0_2 a1_0 a1_1 a1_2
    have q0 : (0 : Int) ≤ (1048576 : Int) := by omega
    have q1 : (1048576 : Int) < (L0.length : Int) := by omega
    refine (szIm_no X0 Y0 L0.length A0 c0 hm0 _ q0 q1 _).mono ?_
    rintro e w1 ⟨rfl, hb⟩
    replace a0 := a0.call hb
    replace a1 := a1.call hb
    replace Kw := belI_call Kw hb
    clear hb
    go_wp2_with fail
    go_ret
    exact ⟨rfl, Kw⟩
  by_cases g1 : L0.length + L1.length ≤ 1048576
  rotate_left
  · have g' : ¬ L0.length + L1.length ≤ 1048576 := g1
    obtain ⟨a0_0, a0_1, a0_2⟩ := a0.cells
    obtain ⟨a1_0, a1_1, a1_2⟩ := a1.cells
    go_enter Try.func6, Try.ntmps6
    go_wp2_with fail
    rw [← Hw.out]
    clear a0_0 a0_1 a0_2 a1_0 a1_1 a1_2
    refine (szIm_yes X0 Y0 L0.length A0 c0 _ (by omega) (by omega) _).mono ?_
    rintro e w2 ⟨rfl, hb⟩
    replace a0 := a0.call hb
    replace a1 := a1.call hb
    replace Kw := belI_call Kw hb
    clear hb
    have z0 : ¬ ((1048576 : Int) - (L0.length : Int)) < 0 := by omega
    obtain ⟨a0_0, a0_1, a0_2⟩ := a0.cells
    obtain ⟨a1_0, a1_1, a1_2⟩ := a1.cells
    go_wp2_with fail
    clear a0_0 a0_1 a0_2 a1_0 a1_1 a1_2
    have q0 : (0 : Int) ≤ ((1048576 : Int) - (L0.length : Int)) := by omega
    have q1 : ((1048576 : Int) - (L0.length : Int)) < (L1.length : Int) := by omega
    refine (szIm_no X1 Y1 L1.length A1 c1 hm1 _ q0 q1 _).mono ?_
    rintro e w3 ⟨rfl, hb⟩
    replace a0 := a0.call hb
    replace a1 := a1.call hb
    replace Kw := belI_call Kw hb
    clear hb
    go_wp2_with fail
    go_ret
    exact ⟨rfl, Kw⟩
  have n0 : L0.length ≤ 1048576 := by omega
  have n1 : L1.length ≤ 1048576 := by omega
  have Hn0 := Lib.hid n0
  have Hn1 := Lib.hid n1
  obtain ⟨GR, hR⟩ : ∃ GR, GR = difL X0 Y0 L0 X1 Y1 L1 := ⟨_, rfl⟩
  have hlR : GR.length ≤ 256 := by rw [hR]; exact dif_len _ _ _ _ _ _
  have PS := fun (W : World) u0 k0 u1 k1 => difS_any X0 Y0 u0 L0 X1 Y1 u1 L1 W k0 k1
  have PI := fun (W : World) u0 k0 u1 k1 => difI_any X0 Y0 u0 L0 X1 Y1 u1 L1 W k0 k1
  unfold RgAns at PS PI
  rw [← hR] at PS PI
  have HS := Lib.hid PS
  have HI := Lib.hid PI
  clear PS PI hR
  obtain ⟨a0_0, a0_1, a0_2⟩ := a0.cells
  obtain ⟨a1_0, a1_1, a1_2⟩ := a1.cells
  go_enter Try.func6, Try.ntmps6
  go_wp2_with fail
  rw [← Hw.out]
  clear a0_0 a0_1 a0_2 a1_0 a1_1 a1_2
  refine (szIm_yes X0 Y0 L0.length A0 c0 _ (by omega) (by omega) _).mono ?_
  rintro e w4 ⟨rfl, hb⟩
  replace a0 := a0.call hb
  replace a1 := a1.call hb
  replace Kw := belI_call Kw hb
  clear hb
  have z0 : ¬ ((1048576 : Int) - (L0.length : Int)) < 0 := by omega
  obtain ⟨a0_0, a0_1, a0_2⟩ := a0.cells
  obtain ⟨a1_0, a1_1, a1_2⟩ := a1.cells
  go_wp2_with fail
  clear a0_0 a0_1 a0_2 a1_0 a1_1 a1_2
  refine (szIm_yes X1 Y1 L1.length A1 c1 _ (by omega) (by omega) _).mono ?_
  rintro e w5 ⟨rfl, hb⟩
  replace a0 := a0.call hb
  replace a1 := a1.call hb
  replace Kw := belI_call Kw hb
  clear hb
  have z1 : ¬ (((1048576 : Int) - (L0.length : Int)) - (L1.length : Int)) < 0 := by omega
  have neg1 : ¬ ((1 + 4 * GR.length : Nat) : Int) < 0 := by omega
  obtain ⟨a0_0, a0_1, a0_2⟩ := a0.cells
  obtain ⟨a1_0, a1_1, a1_2⟩ := a1.cells
  go_upto_region 8 with fail
  clear a0_0 a0_1 a0_2 a1_0 a1_1 a1_2
  go_cut [6] (fun s6 wx => ∃ (b hi : Nat) (A : Option Addr) (c : Nat), s6 = .pointer (some ⟨b, 0, none⟩) ∧ RgV w5.heap.size hi b (.slice A GR.length c) GR wx ∧ Below w5.heap.size w5 wx)
  case first =>
    refine wp_region_held_drew (S := fun W => Below w5.heap.size w5 W) (by kernel_rfl) (Below.refl _ _).drew (fun hS => ?_)
    refine wpAnyH_take (i := 0) (v := .agg #[.int .i64 X0, .int .i64 Y0, .slice A0 L0.length c0]) rfl (by kernel_rfl) (by kernel_rfl) (by kernel_rfl) (fun _ _ _ h => h) (Or.inl ⟨by kernel_rfl, by intro w' hSw; (try dsimp only at hSw); (obtain ⟨a0_0, a0_1, a0_2⟩ := (a0.call hSw).cells); (obtain ⟨a1_0, a1_1, a1_2⟩ := (a1.call hSw).cells); go_simp⟩) (by assumption) ?_
    refine wpAnyH_take (i := 2) (v := .agg #[.int .i64 X1, .int .i64 Y1, .slice A1 L1.length c1]) rfl (by kernel_rfl) (by kernel_rfl) (by kernel_rfl) (fun _ _ _ h => h) (Or.inl ⟨by kernel_rfl, by intro w' hSw; (try dsimp only at hSw); (obtain ⟨a0_0, a0_1, a0_2⟩ := (a0.call hSw).cells); (obtain ⟨a1_0, a1_1, a1_2⟩ := (a1.call hSw).cells); go_simp⟩) (by assumption) ?_
    (try simp only [Act.put]); (try simp only [List.setIfInBounds_toArray]); (try simp only [List.set_cons_zero, List.set_cons_succ])
    refine wpAnyH_ready (rs := [1, 5]) (by kernel_rfl) (by simp) ?_
    refine (AllReadyH.cons rfl (fun K hK => ?_) (AllReadyH.cons rfl (fun K hK => ?_) AllReadyH.nil))
    · rw [if_pos (by kernel_rfl)]
      (try simp only [List.getElem_toArray]); (try simp only [List.getElem_cons_succ]); (try simp only [List.getElem_cons_zero])
      go_simp
      with_reducible refine (toIm X0 Y0 _ L0 _ Hn0.out (a0.call hS).rd).mono ?_
      rintro e W' ⟨vo, rfl, u1, hb⟩
      obtain ⟨A_u1, c_u1, he⟩ := ownI_shape u1
      subst he
      dsimp only
      refine hK.out _ _ (belI_call hS hb) (fun hS => ?_)
      clear hK
      (try simp only [Act.put]); (try simp only [List.setIfInBounds_toArray]); (try simp only [List.set_cons_zero, List.set_cons_succ])
      refine wpAnyH_ready (rs := [3, 5]) (by kernel_rfl) (by simp) ?_
      refine (AllReadyH.cons rfl (fun K hK => ?_) (AllReadyH.cons rfl (fun K hK => ?_) AllReadyH.nil))
      · rw [if_pos (by kernel_rfl)]
        (try simp only [List.getElem_toArray]); (try simp only [List.getElem_cons_succ]); (try simp only [List.getElem_cons_zero])
        go_simp
        with_reducible refine (toIm X1 Y1 _ L1 _ Hn1.out (a1.call hS).rd).mono ?_
        rintro e W' ⟨vo, rfl, u2, hb⟩
        obtain ⟨A_u2, c_u2, he⟩ := ownI_shape u2
        subst he
        dsimp only
        have u1 := ownI_call u1 hb
        refine hK.out _ _ (belI_call hS hb) (fun hS => ?_)
        clear hK
        (try simp only [Act.put]); (try simp only [List.setIfInBounds_toArray]); (try simp only [List.set_cons_zero, List.set_cons_succ])
        refine wpAnyH_ready (rs := [4, 5]) (by kernel_rfl) (by simp) ?_
        refine (AllReadyH.cons rfl (fun K hK => ?_) (AllReadyH.cons rfl (fun K hK => ?_) AllReadyH.nil))
        · rw [if_pos (by kernel_rfl)]
          (try simp only [List.getElem_toArray]); (try simp only [List.getElem_cons_succ]); (try simp only [List.getElem_cons_zero])
          go_simp
          with_reducible refine (HS.out _ _ (RdI.of_own u1) _ (RdI.of_own u2)).mono ?_
          rintro e W' ⟨vo, rfl, u3, hb⟩
          obtain ⟨A_u3, c_u3, he⟩ := own_shape u3
          subst he
          replace u3 := u3.mono hS.size
          dsimp only
          have u1 := ownI_call u1 hb
          have u2 := ownI_call u2 hb
          refine hK.out _ _ (belI_call hS hb) (fun hS => ?_)
          clear hK
          (try simp only [Act.put]); (try simp only [List.setIfInBounds_toArray]); (try simp only [List.set_cons_zero, List.set_cons_succ])
          refine wpAnyH_ready (rs := [5]) (by kernel_rfl) (by simp) ?_
          refine (AllReadyH.cons rfl (fun K hK => ?_) AllReadyH.nil)
          · rw [if_pos (by kernel_rfl)]
            (try simp only [List.getElem_toArray]); (try simp only [List.getElem_cons_succ]); (try simp only [List.getElem_cons_zero])
            refine wp_alloc_rgv 6 rfl rfl ?_
            intro bB W' hb GB lB
            have kB := Nat.le_trans hS.size lB
            have nB : ∀ k, (Value.slice A_u3 GR.length c_u3).ownBlock = some k → k ≠ bB := fun k hk => by have := (u3.lt k hk).2; omega
            have u1 := ownI_call u1 hb
            have u2 := ownI_call u2 hb
            have u3 := ownI_call u3 hb
            refine hK.out _ _ (belI_call hS hb) (fun hS => ?_)
            clear hK
            (try simp only [Act.put]); (try simp only [List.setIfInBounds_toArray]); (try simp only [List.set_cons_zero, List.set_cons_succ])
            refine wpAnyH_ready (rs := [6]) (by kernel_rfl) (by simp) ?_
            refine (AllReadyH.cons rfl (fun K hK => ?_) AllReadyH.nil)
            · rw [if_pos (by kernel_rfl)]
              (try simp only [List.getElem_toArray]); (try simp only [List.getElem_cons_succ]); (try simp only [List.getElem_cons_zero])
              refine wp_store_rgv (.tmp 6) (.tmp 28) rfl bB (.slice none 0 0) A_u3 GR.length c_u3 rfl rfl GB ?_
              intro W3 IB hgB
              skip
              skip
              replace u3 := u3.kept hgB (ownA_ne nB)
              skip
              refine hK.out _ _ (hS.grown hgB hS.size (fun k hk => by injection hk with hk; omega)) (fun hS => ?_)
              clear hK
              (try simp only [Act.put]); (try simp only [List.setIfInBounds_toArray]); (try simp only [List.set_cons_zero, List.set_cons_succ])
              refine wpAnyH_done (by kernel_rfl) ?_ _
              go_wp2_with fail
              go_meet
              case rel => exact ⟨bB, _, _, _, rfl, RgV.made IB u3 kB nB, hS⟩
        · rw [if_pos (by kernel_rfl)]
          (try simp only [List.getElem_toArray]); (try simp only [List.getElem_cons_succ]); (try simp only [List.getElem_cons_zero])
          refine wp_alloc_rgv 6 rfl rfl ?_
          intro bB W' hb GB lB
          have kB := Nat.le_trans hS.size lB
          have u1 := ownI_call u1 hb
          have u2 := ownI_call u2 hb
          refine hK.out _ _ (belI_call hS hb) (fun hS => ?_)
          clear hK
          (try simp only [Act.put]); (try simp only [List.setIfInBounds_toArray]); (try simp only [List.set_cons_zero, List.set_cons_succ])
          refine wpAnyH_ready (rs := [4]) (by kernel_rfl) (by simp) ?_
          refine (AllReadyH.cons rfl (fun K hK => ?_) AllReadyH.nil)
          · rw [if_pos (by kernel_rfl)]
            (try simp only [List.getElem_toArray]); (try simp only [List.getElem_cons_succ]); (try simp only [List.getElem_cons_zero])
            go_simp
            with_reducible refine (HS.out _ _ (RdI.of_own u1) _ (RdI.of_own u2)).mono ?_
            rintro e W' ⟨vo, rfl, u3, hb⟩
            obtain ⟨A_u3, c_u3, he⟩ := own_shape u3
            subst he
            have nB : ∀ k, (Value.slice A_u3 GR.length c_u3).ownBlock = some k → k ≠ bB := fun k hk => by have := (u3.lt k hk).1; have := (Array.getElem?_eq_some_iff.1 GB).1; omega
            replace u3 := u3.mono hS.size
            dsimp only
            have u1 := ownI_call u1 hb
            have u2 := ownI_call u2 hb
            have GB := blk_call GB hb
            refine hK.out _ _ (belI_call hS hb) (fun hS => ?_)
            clear hK
            (try simp only [Act.put]); (try simp only [List.setIfInBounds_toArray]); (try simp only [List.set_cons_zero, List.set_cons_succ])
            refine wpAnyH_ready (rs := [6]) (by kernel_rfl) (by simp) ?_
            refine (AllReadyH.cons rfl (fun K hK => ?_) AllReadyH.nil)
            · rw [if_pos (by kernel_rfl)]
              (try simp only [List.getElem_toArray]); (try simp only [List.getElem_cons_succ]); (try simp only [List.getElem_cons_zero])
              refine wp_store_rgv (.tmp 6) (.tmp 28) rfl bB (.slice none 0 0) A_u3 GR.length c_u3 rfl rfl GB ?_
              intro W3 IB hgB
              skip
              skip
              skip
              replace u3 := u3.kept hgB (ownA_ne nB)
              refine hK.out _ _ (hS.grown hgB hS.size (fun k hk => by injection hk with hk; omega)) (fun hS => ?_)
              clear hK
              (try simp only [Act.put]); (try simp only [List.setIfInBounds_toArray]); (try simp only [List.set_cons_zero, List.set_cons_succ])
              refine wpAnyH_done (by kernel_rfl) ?_ _
              go_wp2_with fail
              go_meet
              case rel => exact ⟨bB, _, _, _, rfl, RgV.made IB u3 kB nB, hS⟩
      · rw [if_pos (by kernel_rfl)]
        (try simp only [List.getElem_toArray]); (try simp only [List.getElem_cons_succ]); (try simp only [List.getElem_cons_zero])
        refine wp_alloc_rgv 6 rfl rfl ?_
        intro bB W' hb GB lB
        have kB := Nat.le_trans hS.size lB
        have u1 := ownI_call u1 hb
        refine hK.out _ _ (belI_call hS hb) (fun hS => ?_)
        clear hK
        (try simp only [Act.put]); (try simp only [List.setIfInBounds_toArray]); (try simp only [List.set_cons_zero, List.set_cons_succ])
        refine wpAnyH_ready (rs := [3]) (by kernel_rfl) (by simp) ?_
        refine (AllReadyH.cons rfl (fun K hK => ?_) AllReadyH.nil)
        · rw [if_pos (by kernel_rfl)]
          (try simp only [List.getElem_toArray]); (try simp only [List.getElem_cons_succ]); (try simp only [List.getElem_cons_zero])
          go_simp
          with_reducible refine (toIm X1 Y1 _ L1 _ Hn1.out (a1.call hS).rd).mono ?_
          rintro e W' ⟨vo, rfl, u2, hb⟩
          obtain ⟨A_u2, c_u2, he⟩ := ownI_shape u2
          subst he
          dsimp only
          have u1 := ownI_call u1 hb
          have GB := blk_call GB hb
          refine hK.out _ _ (belI_call hS hb) (fun hS => ?_)
          clear hK
          (try simp only [Act.put]); (try simp only [List.setIfInBounds_toArray]); (try simp only [List.set_cons_zero, List.set_cons_succ])
          refine wpAnyH_ready (rs := [4]) (by kernel_rfl) (by simp) ?_
          refine (AllReadyH.cons rfl (fun K hK => ?_) AllReadyH.nil)
          · rw [if_pos (by kernel_rfl)]
            (try simp only [List.getElem_toArray]); (try simp only [List.getElem_cons_succ]); (try simp only [List.getElem_cons_zero])
            go_simp
            with_reducible refine (HS.out _ _ (RdI.of_own u1) _ (RdI.of_own u2)).mono ?_
            rintro e W' ⟨vo, rfl, u3, hb⟩
            obtain ⟨A_u3, c_u3, he⟩ := own_shape u3
            subst he
            have nB : ∀ k, (Value.slice A_u3 GR.length c_u3).ownBlock = some k → k ≠ bB := fun k hk => by have := (u3.lt k hk).1; have := (Array.getElem?_eq_some_iff.1 GB).1; omega
            replace u3 := u3.mono hS.size
            dsimp only
            have u1 := ownI_call u1 hb
            have GB := blk_call GB hb
            have u2 := ownI_call u2 hb
            refine hK.out _ _ (belI_call hS hb) (fun hS => ?_)
            clear hK
            (try simp only [Act.put]); (try simp only [List.setIfInBounds_toArray]); (try simp only [List.set_cons_zero, List.set_cons_succ])
            refine wpAnyH_ready (rs := [6]) (by kernel_rfl) (by simp) ?_
            refine (AllReadyH.cons rfl (fun K hK => ?_) AllReadyH.nil)
            · rw [if_pos (by kernel_rfl)]
              (try simp only [List.getElem_toArray]); (try simp only [List.getElem_cons_succ]); (try simp only [List.getElem_cons_zero])
              refine wp_store_rgv (.tmp 6) (.tmp 28) rfl bB (.slice none 0 0) A_u3 GR.length c_u3 rfl rfl GB ?_
              intro W3 IB hgB
              skip
              skip
              skip
              replace u3 := u3.kept hgB (ownA_ne nB)
              refine hK.out _ _ (hS.grown hgB hS.size (fun k hk => by injection hk with hk; omega)) (fun hS => ?_)
              clear hK
              (try simp only [Act.put]); (try simp only [List.setIfInBounds_toArray]); (try simp only [List.set_cons_zero, List.set_cons_succ])
              refine wpAnyH_done (by kernel_rfl) ?_ _
              go_wp2_with fail
              go_meet
              case rel => exact ⟨bB, _, _, _, rfl, RgV.made IB u3 kB nB, hS⟩
    · rw [if_pos (by kernel_rfl)]
      (try simp only [List.getElem_toArray]); (try simp only [List.getElem_cons_succ]); (try simp only [List.getElem_cons_zero])
      refine wp_alloc_rgv 6 rfl rfl ?_
      intro bB W' hb GB lB
      have kB := Nat.le_trans hS.size lB
      refine hK.out _ _ (belI_call hS hb) (fun hS => ?_)
      clear hK
      (try simp only [Act.put]); (try simp only [List.setIfInBounds_toArray]); (try simp only [List.set_cons_zero, List.set_cons_succ])
      refine wpAnyH_ready (rs := [1]) (by kernel_rfl) (by simp) ?_
      refine (AllReadyH.cons rfl (fun K hK => ?_) AllReadyH.nil)
      · rw [if_pos (by kernel_rfl)]
        (try simp only [List.getElem_toArray]); (try simp only [List.getElem_cons_succ]); (try simp only [List.getElem_cons_zero])
        go_simp
        with_reducible refine (toIm X0 Y0 _ L0 _ Hn0.out (a0.call hS).rd).mono ?_
        rintro e W' ⟨vo, rfl, u1, hb⟩
        obtain ⟨A_u1, c_u1, he⟩ := ownI_shape u1
        subst he
        dsimp only
        have GB := blk_call GB hb
        refine hK.out _ _ (belI_call hS hb) (fun hS => ?_)
        clear hK
        (try simp only [Act.put]); (try simp only [List.setIfInBounds_toArray]); (try simp only [List.set_cons_zero, List.set_cons_succ])
        refine wpAnyH_ready (rs := [3]) (by kernel_rfl) (by simp) ?_
        refine (AllReadyH.cons rfl (fun K hK => ?_) AllReadyH.nil)
        · rw [if_pos (by kernel_rfl)]
          (try simp only [List.getElem_toArray]); (try simp only [List.getElem_cons_succ]); (try simp only [List.getElem_cons_zero])
          go_simp
          with_reducible refine (toIm X1 Y1 _ L1 _ Hn1.out (a1.call hS).rd).mono ?_
          rintro e W' ⟨vo, rfl, u2, hb⟩
          obtain ⟨A_u2, c_u2, he⟩ := ownI_shape u2
          subst he
          dsimp only
          have GB := blk_call GB hb
          have u1 := ownI_call u1 hb
          refine hK.out _ _ (belI_call hS hb) (fun hS => ?_)
          clear hK
          (try simp only [Act.put]); (try simp only [List.setIfInBounds_toArray]); (try simp only [List.set_cons_zero, List.set_cons_succ])
          refine wpAnyH_ready (rs := [4]) (by kernel_rfl) (by simp) ?_
          refine (AllReadyH.cons rfl (fun K hK => ?_) AllReadyH.nil)
          · rw [if_pos (by kernel_rfl)]
            (try simp only [List.getElem_toArray]); (try simp only [List.getElem_cons_succ]); (try simp only [List.getElem_cons_zero])
            go_simp
            with_reducible refine (HS.out _ _ (RdI.of_own u1) _ (RdI.of_own u2)).mono ?_
            rintro e W' ⟨vo, rfl, u3, hb⟩
            obtain ⟨A_u3, c_u3, he⟩ := own_shape u3
            subst he
            have nB : ∀ k, (Value.slice A_u3 GR.length c_u3).ownBlock = some k → k ≠ bB := fun k hk => by have := (u3.lt k hk).1; have := (Array.getElem?_eq_some_iff.1 GB).1; omega
            replace u3 := u3.mono hS.size
            dsimp only
            have GB := blk_call GB hb
            have u1 := ownI_call u1 hb
            have u2 := ownI_call u2 hb
            refine hK.out _ _ (belI_call hS hb) (fun hS => ?_)
            clear hK
            (try simp only [Act.put]); (try simp only [List.setIfInBounds_toArray]); (try simp only [List.set_cons_zero, List.set_cons_succ])
            refine wpAnyH_ready (rs := [6]) (by kernel_rfl) (by simp) ?_
            refine (AllReadyH.cons rfl (fun K hK => ?_) AllReadyH.nil)
            · rw [if_pos (by kernel_rfl)]
              (try simp only [List.getElem_toArray]); (try simp only [List.getElem_cons_succ]); (try simp only [List.getElem_cons_zero])
              refine wp_store_rgv (.tmp 6) (.tmp 28) rfl bB (.slice none 0 0) A_u3 GR.length c_u3 rfl rfl GB ?_
              intro W3 IB hgB
              skip
              skip
              skip
              replace u3 := u3.kept hgB (ownA_ne nB)
              refine hK.out _ _ (hS.grown hgB hS.size (fun k hk => by injection hk with hk; omega)) (fun hS => ?_)
              clear hK
              (try simp only [Act.put]); (try simp only [List.setIfInBounds_toArray]); (try simp only [List.set_cons_zero, List.set_cons_succ])
              refine wpAnyH_done (by kernel_rfl) ?_ _
              go_wp2_with fail
              go_meet
              case rel => exact ⟨bB, _, _, _, rfl, RgV.made IB u3 kB nB, hS⟩
  case rest =>
    obtain ⟨b_V4, hi_V4, A_V4, c_V4, rfl, V4, hb⟩ := hcut
    obtain ⟨w6, hWy⟩ : ∃ w6, w6 = wc := ⟨_, rfl⟩
    subst hWy
    have hlo_V4 := Lib.hid Kw.size
    have hl_a0_V4 := Lib.hid a0.lt
    have hl_a1_V4 := Lib.hid a1.lt
    replace a0 := a0.call hb
    replace a1 := a1.call hb
    replace Kw := belI_call Kw hb
    clear hb
    obtain ⟨a0_0, a0_1, a0_2⟩ := a0.cells
    obtain ⟨a1_0, a1_1, a1_2⟩ := a1.cells
    have V4_0 := V4.cell
    go_wp2_with fail
    clear a0_0 a0_1 a0_2 a1_0 a1_1 a1_2 V4_0
    refine (toIm X0 Y0 _ L0 _ Hn0.out a0.rd).mono ?_
    rintro e w7 ⟨vo, rfl, u5, hb⟩
    obtain ⟨A_u5, c_u5, he⟩ := ownI_shape u5
    subst he
    have hs_V4_V6 := Lib.hid V4.hs
    have hlo_V6 := Lib.hid Kw.size
    have hl_a0_V6 := Lib.hid a0.lt
    have hl_a1_V6 := Lib.hid a1.lt
    have V6 := ImV.born (X := X0) (Y := Y0) hb u5
    replace hb := belI_call hb (belI_box w7 (.cells #[.int .i64 X0, .int .i64 Y0, .slice A_u5 L0.length c_u5] 26))
    replace a0 := a0.call hb
    replace a1 := a1.call hb
    replace V4 := V4.call hb
    replace Kw := belI_call Kw hb
    clear hb u5
    obtain ⟨a0_0, a0_1, a0_2⟩ := a0.cells
    obtain ⟨a1_0, a1_1, a1_2⟩ := a1.cells
    have V4_0 := V4.cell
    obtain ⟨V6_0, V6_1, V6_2⟩ := V6.cells
    go_wp2_with fail
    clear a0_0 a0_1 a0_2 a1_0 a1_1 a1_2 V4_0 V6_0 V6_1 V6_2
    refine (toIm X1 Y1 _ L1 _ Hn1.out a1.rd).mono ?_
    rintro e w8 ⟨vo, rfl, u7, hb⟩
    obtain ⟨A_u7, c_u7, he⟩ := ownI_shape u7
    subst he
    have hs_V4_V8 := Lib.hid V4.hs
    have hs_V6_V8 := Lib.hid V6.hs
    have hlo_V8 := Lib.hid Kw.size
    have hl_a0_V8 := Lib.hid a0.lt
    have hl_a1_V8 := Lib.hid a1.lt
    have V8 := ImV.born (X := X1) (Y := Y1) hb u7
    replace hb := belI_call hb (belI_box w8 (.cells #[.int .i64 X1, .int .i64 Y1, .slice A_u7 L1.length c_u7] 26))
    replace a0 := a0.call hb
    replace a1 := a1.call hb
    replace V4 := V4.call hb
    replace V6 := V6.call hb
    replace Kw := belI_call Kw hb
    clear hb u7
    obtain ⟨a0_0, a0_1, a0_2⟩ := a0.cells
    obtain ⟨a1_0, a1_1, a1_2⟩ := a1.cells
    have V4_0 := V4.cell
    obtain ⟨V6_0, V6_1, V6_2⟩ := V6.cells
    obtain ⟨V8_0, V8_1, V8_2⟩ := V8.cells
    go_wp2_with fail
    clear a0_0 a0_1 a0_2 a1_0 a1_1 a1_2 V4_0 V6_0 V6_1 V6_2 V8_0 V8_1 V8_2
    refine (HI.out _ _ V6.rd _ V8.rd).mono ?_
    rintro e w9 ⟨vo, rfl, u9, hb⟩
    obtain ⟨A_u9, c_u9, he⟩ := own_shape u9
    subst he
    have hs_V4_V10 := Lib.hid V4.hs
    have hs_V6_V10 := Lib.hid V6.hs
    have hs_V8_V10 := Lib.hid V8.hs
    have hlo_V10 := Lib.hid Kw.size
    have hl_a0_V10 := Lib.hid a0.lt
    have hl_a1_V10 := Lib.hid a1.lt
    have V10 := RgV.born hb u9
    replace hb := belI_call hb (belI_box w9 (.cells #[.slice A_u9 GR.length c_u9] 34))
    replace a0 := a0.call hb
    replace a1 := a1.call hb
    replace V4 := V4.call hb
    replace V6 := V6.call hb
    replace V8 := V8.call hb
    replace Kw := belI_call Kw hb
    clear hb u9
    obtain ⟨a0_0, a0_1, a0_2⟩ := a0.cells
    obtain ⟨a1_0, a1_1, a1_2⟩ := a1.cells
    have V4_0 := V4.cell
    obtain ⟨V6_0, V6_1, V6_2⟩ := V6.cells
    obtain ⟨V8_0, V8_1, V8_2⟩ := V8.cells
    have V10_0 := V10.cell
    go_wp2_with fail
    clear a0_0 a0_1 a0_2 a1_0 a1_1 a1_2 V4_0 V6_0 V6_1 V6_2 V8_0 V8_1 V8_2 V10_0
    refine (eqRg_same _ _ GR _ V10.rd V4.rd).mono ?_
    rintro e w10 ⟨rfl, hb⟩
    replace a0 := a0.call hb
    replace a1 := a1.call hb
    replace V4 := V4.call hb
    replace V6 := V6.call hb
    replace V8 := V8.call hb
    replace V10 := V10.call hb
    replace Kw := belI_call Kw hb
    clear hb
    obtain ⟨a0_0, a0_1, a0_2⟩ := a0.cells
    obtain ⟨a1_0, a1_1, a1_2⟩ := a1.cells
    have V4_0 := V4.cell
    obtain ⟨V6_0, V6_1, V6_2⟩ := V6.cells
    obtain ⟨V8_0, V8_1, V8_2⟩ := V8.cells
    have V10_0 := V10.cell
    go_upto_region 14 with fail
    clear a0_0 a0_1 a0_2 a1_0 a1_1 a1_2 V4_0 V6_0 V6_1 V6_2 V8_0 V8_1 V8_2 V10_0
    refine wp_region_held_drew (S := fun W => Below w10.heap.size w10 W) (by kernel_rfl) (Below.refl _ _).drew (fun hS => ?_)
    refine wpAnyH_take (i := 0) (v := .agg #[.int .i64 X0, .int .i64 Y0, .slice A_u5 L0.length c_u5]) rfl (by kernel_rfl) (by kernel_rfl) (by kernel_rfl) (fun _ _ _ h => h) (Or.inl ⟨by kernel_rfl, by intro w' hSw; (try dsimp only at hSw); (obtain ⟨a0_0, a0_1, a0_2⟩ := (a0.call hSw).cells); (obtain ⟨a1_0, a1_1, a1_2⟩ := (a1.call hSw).cells); (have V4_0 := (V4.call hSw).cell); (obtain ⟨V6_0, V6_1, V6_2⟩ := (V6.call hSw).cells); (obtain ⟨V8_0, V8_1, V8_2⟩ := (V8.call hSw).cells); (have V10_0 := (V10.call hSw).cell); go_simp⟩) (by assumption) ?_
    refine wpAnyH_take (i := 1) (v := .agg #[.int .i64 X0, .int .i64 Y0, .slice A0 L0.length c0]) rfl (by kernel_rfl) (by kernel_rfl) (by kernel_rfl) (fun _ _ _ h => h) (Or.inl ⟨by kernel_rfl, by intro w' hSw; (try dsimp only at hSw); (obtain ⟨a0_0, a0_1, a0_2⟩ := (a0.call hSw).cells); (obtain ⟨a1_0, a1_1, a1_2⟩ := (a1.call hSw).cells); (have V4_0 := (V4.call hSw).cell); (obtain ⟨V6_0, V6_1, V6_2⟩ := (V6.call hSw).cells); (obtain ⟨V8_0, V8_1, V8_2⟩ := (V8.call hSw).cells); (have V10_0 := (V10.call hSw).cell); go_simp⟩) (by assumption) ?_
    (try simp only [Act.put]); (try simp only [List.setIfInBounds_toArray]); (try simp only [List.set_cons_zero, List.set_cons_succ])
    refine wpAnyH_ready (rs := [2]) (by kernel_rfl) (by simp) ?_
    refine (AllReadyH.cons rfl (fun K hK => ?_) AllReadyH.nil)
    · rw [if_pos (by kernel_rfl)]
      (try simp only [List.getElem_toArray]); (try simp only [List.getElem_cons_succ]); (try simp only [List.getElem_cons_zero])
      go_simp
      with_reducible refine (toIm X0 Y0 _ L0 _ Hn0.out (a0.call hS).rd).mono ?_
      rintro e W' ⟨vo, rfl, u11, hb⟩
      obtain ⟨A_u11, c_u11, he⟩ := ownI_shape u11
      subst he
      dsimp only
      refine hK.out _ _ (belI_call hS hb) (fun hS => ?_)
      clear hK
      (try simp only [Act.put]); (try simp only [List.setIfInBounds_toArray]); (try simp only [List.set_cons_zero, List.set_cons_succ])
      refine wpAnyH_ready (rs := [3]) (by kernel_rfl) (by simp) ?_
      refine (AllReadyH.cons rfl (fun K hK => ?_) AllReadyH.nil)
      · rw [if_pos (by kernel_rfl)]
        (try simp only [List.getElem_toArray]); (try simp only [List.getElem_cons_succ]); (try simp only [List.getElem_cons_zero])
        go_simp
        with_reducible refine (eqIm_same _ _ _ _ L0 _ (V6.call hS).rd (RdI.of_own u11)).mono ?_
        rintro e W' ⟨rfl, hb⟩
        dsimp only
        have u11 := ownI_call u11 hb
        refine hK.out _ _ (belI_call hS hb) (fun hS => ?_)
        clear hK
        (try simp only [Act.put]); (try simp only [List.setIfInBounds_toArray]); (try simp only [List.set_cons_zero, List.set_cons_succ])
        refine wpAnyH_take (i := 4) (v := .bool false) rfl (by kernel_rfl) (by kernel_rfl) (by kernel_rfl) (fun _ _ _ h => h) (Or.inl ⟨by kernel_rfl, by intro w' hSw; (try dsimp only at hSw); (obtain ⟨a0_0, a0_1, a0_2⟩ := (a0.call hSw).cells); (obtain ⟨a1_0, a1_1, a1_2⟩ := (a1.call hSw).cells); (have V4_0 := (V4.call hSw).cell); (obtain ⟨V6_0, V6_1, V6_2⟩ := (V6.call hSw).cells); (obtain ⟨V8_0, V8_1, V8_2⟩ := (V8.call hSw).cells); (have V10_0 := (V10.call hSw).cell); go_simp⟩) (by assumption) ?_
        refine wpAnyH_done (by kernel_rfl) ?_ _
        have hb := hS
        replace a0 := a0.call hb
        replace a1 := a1.call hb
        replace V4 := V4.call hb
        replace V6 := V6.call hb
        replace V8 := V8.call hb
        replace V10 := V10.call hb
        replace Kw := belI_call Kw hb
        clear hb hS
        clear u11
        obtain ⟨w11, hWy⟩ : ∃ w11, w11 = W' := ⟨_, rfl⟩
        subst hWy
        obtain ⟨a0_0, a0_1, a0_2⟩ := a0.cells
        obtain ⟨a1_0, a1_1, a1_2⟩ := a1.cells
        have V4_0 := V4.cell
        obtain ⟨V6_0, V6_1, V6_2⟩ := V6.cells
        obtain ⟨V8_0, V8_1, V8_2⟩ := V8.cells
        have V10_0 := V10.cell
        go_upto_region 16 with fail
        clear a0_0 a0_1 a0_2 a1_0 a1_1 a1_2 V4_0 V6_0 V6_1 V6_2 V8_0 V8_1 V8_2 V10_0
        refine wp_region_held_drew (S := fun W => Below w11.heap.size w11 W) (by kernel_rfl) (Below.refl _ _).drew (fun hS => ?_)
        refine wpAnyH_take (i := 0) (v := .agg #[.int .i64 X1, .int .i64 Y1, .slice A_u7 L1.length c_u7]) rfl (by kernel_rfl) (by kernel_rfl) (by kernel_rfl) (fun _ _ _ h => h) (Or.inl ⟨by kernel_rfl, by intro w' hSw; (try dsimp only at hSw); (obtain ⟨a0_0, a0_1, a0_2⟩ := (a0.call hSw).cells); (obtain ⟨a1_0, a1_1, a1_2⟩ := (a1.call hSw).cells); (have V4_0 := (V4.call hSw).cell); (obtain ⟨V6_0, V6_1, V6_2⟩ := (V6.call hSw).cells); (obtain ⟨V8_0, V8_1, V8_2⟩ := (V8.call hSw).cells); (have V10_0 := (V10.call hSw).cell); go_simp⟩) (by assumption) ?_
        refine wpAnyH_take (i := 1) (v := .agg #[.int .i64 X1, .int .i64 Y1, .slice A1 L1.length c1]) rfl (by kernel_rfl) (by kernel_rfl) (by kernel_rfl) (fun _ _ _ h => h) (Or.inl ⟨by kernel_rfl, by intro w' hSw; (try dsimp only at hSw); (obtain ⟨a0_0, a0_1, a0_2⟩ := (a0.call hSw).cells); (obtain ⟨a1_0, a1_1, a1_2⟩ := (a1.call hSw).cells); (have V4_0 := (V4.call hSw).cell); (obtain ⟨V6_0, V6_1, V6_2⟩ := (V6.call hSw).cells); (obtain ⟨V8_0, V8_1, V8_2⟩ := (V8.call hSw).cells); (have V10_0 := (V10.call hSw).cell); go_simp⟩) (by assumption) ?_
        (try simp only [Act.put]); (try simp only [List.setIfInBounds_toArray]); (try simp only [List.set_cons_zero, List.set_cons_succ])
        refine wpAnyH_ready (rs := [2]) (by kernel_rfl) (by simp) ?_
        refine (AllReadyH.cons rfl (fun K hK => ?_) AllReadyH.nil)
        · rw [if_pos (by kernel_rfl)]
          (try simp only [List.getElem_toArray]); (try simp only [List.getElem_cons_succ]); (try simp only [List.getElem_cons_zero])
          go_simp
          with_reducible refine (toIm X1 Y1 _ L1 _ Hn1.out (a1.call hS).rd).mono ?_
          rintro e W' ⟨vo, rfl, u12, hb⟩
          obtain ⟨A_u12, c_u12, he⟩ := ownI_shape u12
          subst he
          dsimp only
          refine hK.out _ _ (belI_call hS hb) (fun hS => ?_)
          clear hK
          (try simp only [Act.put]); (try simp only [List.setIfInBounds_toArray]); (try simp only [List.set_cons_zero, List.set_cons_succ])
          refine wpAnyH_ready (rs := [3]) (by kernel_rfl) (by simp) ?_
          refine (AllReadyH.cons rfl (fun K hK => ?_) AllReadyH.nil)
          · rw [if_pos (by kernel_rfl)]
            (try simp only [List.getElem_toArray]); (try simp only [List.getElem_cons_succ]); (try simp only [List.getElem_cons_zero])
            go_simp
            with_reducible refine (eqIm_same _ _ _ _ L1 _ (V8.call hS).rd (RdI.of_own u12)).mono ?_
            rintro e W' ⟨rfl, hb⟩
            dsimp only
            have u12 := ownI_call u12 hb
            refine hK.out _ _ (belI_call hS hb) (fun hS => ?_)
            clear hK
            (try simp only [Act.put]); (try simp only [List.setIfInBounds_toArray]); (try simp only [List.set_cons_zero, List.set_cons_succ])
            refine wpAnyH_take (i := 4) (v := .bool false) rfl (by kernel_rfl) (by kernel_rfl) (by kernel_rfl) (fun _ _ _ h => h) (Or.inl ⟨by kernel_rfl, by intro w' hSw; (try dsimp only at hSw); (obtain ⟨a0_0, a0_1, a0_2⟩ := (a0.call hSw).cells); (obtain ⟨a1_0, a1_1, a1_2⟩ := (a1.call hSw).cells); (have V4_0 := (V4.call hSw).cell); (obtain ⟨V6_0, V6_1, V6_2⟩ := (V6.call hSw).cells); (obtain ⟨V8_0, V8_1, V8_2⟩ := (V8.call hSw).cells); (have V10_0 := (V10.call hSw).cell); go_simp⟩) (by assumption) ?_
            refine wpAnyH_done (by kernel_rfl) ?_ _
            have hb := hS
            replace a0 := a0.call hb
            replace a1 := a1.call hb
            replace V4 := V4.call hb
            replace V6 := V6.call hb
            replace V8 := V8.call hb
            replace V10 := V10.call hb
            replace Kw := belI_call Kw hb
            clear hb hS
            clear u12
            obtain ⟨w12, hWy⟩ : ∃ w12, w12 = W' := ⟨_, rfl⟩
            subst hWy
            obtain ⟨a0_0, a0_1, a0_2⟩ := a0.cells
            obtain ⟨a1_0, a1_1, a1_2⟩ := a1.cells
            have V4_0 := V4.cell
            obtain ⟨V6_0, V6_1, V6_2⟩ := V6.cells
            obtain ⟨V8_0, V8_1, V8_2⟩ := V8.cells
            have V10_0 := V10.cell
            go_wp2_with fail
            clear a0_0 a0_1 a0_2 a1_0 a1_1 a1_2 V4_0 V6_0 V6_1 V6_2 V8_0 V8_1 V8_2 V10_0
            refine (markImI _ X0 Y0 _ L0 (1) _ _ (by omega) (by omega) V6.own).mono ?_
            rintro e w13 ⟨rfl, hown, hg⟩
            replace Kw := belI_mark Kw V6 (by have := hlo_V6.out; omega) hg
            replace a0 : ImA _ _ _ _ _ _ := ⟨a0.at_.grown hg (fun e => by have := (V6.row _ e.symm).1; have := hl_a0_V6.out; omega), O0.out.call Kw⟩
            replace a1 : ImA _ _ _ _ _ _ := ⟨a1.at_.grown hg (fun e => by have := (V6.row _ e.symm).1; have := hl_a1_V6.out; omega), O1.out.call Kw⟩
            replace V4 := V4.other hg (fun k hk => by have := V6.row k hk; have := hs_V4_V6.out; omega)
            replace V8 := V8.other hg (fun k hk => by have := V6.row k hk; have := hs_V6_V8.out; omega)
            replace V10 := V10.other hg (fun k hk => by have := V6.row k hk; have := hs_V6_V10.out; omega)
            replace V6 := V6.mark hown (marksI_length _ _) hg
            clear hown hg
            have hk_w13 : ¬ ((1 + L0.length : Nat) : Int) < 0 := by omega
            obtain ⟨a0_0, a0_1, a0_2⟩ := a0.cells
            obtain ⟨a1_0, a1_1, a1_2⟩ := a1.cells
            have V4_0 := V4.cell
            obtain ⟨V6_0, V6_1, V6_2⟩ := V6.cells
            obtain ⟨V8_0, V8_1, V8_2⟩ := V8.cells
            have V10_0 := V10.cell
            go_wp2_with fail
            clear a0_0 a0_1 a0_2 a1_0 a1_1 a1_2 V4_0 V6_0 V6_1 V6_2 V8_0 V8_1 V8_2 V10_0
            refine (markImI _ X1 Y1 _ L1 (1 + L0.length) _ _ (by omega) (by omega) V8.own).mono ?_
            rintro e w14 ⟨rfl, hown, hg⟩
            replace Kw := belI_mark Kw V8 (by have := hlo_V8.out; omega) hg
            replace a0 : ImA _ _ _ _ _ _ := ⟨a0.at_.grown hg (fun e => by have := (V8.row _ e.symm).1; have := hl_a0_V8.out; omega), O0.out.call Kw⟩
            replace a1 : ImA _ _ _ _ _ _ := ⟨a1.at_.grown hg (fun e => by have := (V8.row _ e.symm).1; have := hl_a1_V8.out; omega), O1.out.call Kw⟩
            replace V4 := V4.other hg (fun k hk => by have := V8.row k hk; have := hs_V4_V8.out; omega)
            replace V6 := V6.other hg (fun k hk => by have := V8.row k hk; have := hs_V6_V8.out; omega)
            replace V10 := V10.other hg (fun k hk => by have := V8.row k hk; have := hs_V8_V10.out; omega)
            replace V8 := V8.mark hown (marksI_length _ _) hg
            clear hown hg
            have hk_w14 : ¬ ((1 + L0.length + L1.length : Nat) : Int) < 0 := by omega
            obtain ⟨a0_0, a0_1, a0_2⟩ := a0.cells
            obtain ⟨a1_0, a1_1, a1_2⟩ := a1.cells
            have V4_0 := V4.cell
            obtain ⟨V6_0, V6_1, V6_2⟩ := V6.cells
            obtain ⟨V8_0, V8_1, V8_2⟩ := V8.cells
            have V10_0 := V10.cell
            go_wp2_with fail
            clear a0_0 a0_1 a0_2 a1_0 a1_1 a1_2 V4_0 V6_0 V6_1 V6_2 V8_0 V8_1 V8_2 V10_0
            refine (eqRg_same _ _ GR _ V10.rd V4.rd).mono ?_
            rintro e w15 ⟨rfl, hb⟩
            replace a0 := a0.call hb
            replace a1 := a1.call hb
            replace V4 := V4.call hb
            replace V6 := V6.call hb
            replace V8 := V8.call hb
            replace V10 := V10.call hb
            replace Kw := belI_call Kw hb
            clear hb
            obtain ⟨a0_0, a0_1, a0_2⟩ := a0.cells
            obtain ⟨a1_0, a1_1, a1_2⟩ := a1.cells
            have V4_0 := V4.cell
            obtain ⟨V6_0, V6_1, V6_2⟩ := V6.cells
            obtain ⟨V8_0, V8_1, V8_2⟩ := V8.cells
            have V10_0 := V10.cell
            go_wp2_with fail
            clear a0_0 a0_1 a0_2 a1_0 a1_1 a1_2 V4_0 V6_0 V6_1 V6_2 V8_0 V8_1 V8_2 V10_0
            refine (markRgI _ _ GR (1) _ _ (by omega) (by omega) V10.own).mono ?_
            rintro e w16 ⟨rfl, hown, hg⟩
            replace Kw := belR_mark Kw V10 (by have := hlo_V10.out; omega) hg
            replace a0 : ImA _ _ _ _ _ _ := ⟨a0.at_.grown hg (fun e => by have := (V10.row _ e.symm).1; have := hl_a0_V10.out; omega), O0.out.call Kw⟩
            replace a1 : ImA _ _ _ _ _ _ := ⟨a1.at_.grown hg (fun e => by have := (V10.row _ e.symm).1; have := hl_a1_V10.out; omega), O1.out.call Kw⟩
            replace V4 := V4.other hg (fun k hk => by have := V10.row k hk; have := hs_V4_V10.out; omega)
            replace V6 := V6.other hg (fun k hk => by have := V10.row k hk; have := hs_V6_V10.out; omega)
            replace V8 := V8.other hg (fun k hk => by have := V10.row k hk; have := hs_V8_V10.out; omega)
            replace V10 := V10.mark hown (marksL_length _ _) hg
            clear hown hg
            have hk_w16 : ¬ ((1 + 4 * GR.length : Nat) : Int) < 0 := by omega
            obtain ⟨a0_0, a0_1, a0_2⟩ := a0.cells
            obtain ⟨a1_0, a1_1, a1_2⟩ := a1.cells
            have V4_0 := V4.cell
            obtain ⟨V6_0, V6_1, V6_2⟩ := V6.cells
            obtain ⟨V8_0, V8_1, V8_2⟩ := V8.cells
            have V10_0 := V10.cell
            go_wp2_with fail
            clear a0_0 a0_1 a0_2 a1_0 a1_1 a1_2 V4_0 V6_0 V6_1 V6_2 V8_0 V8_1 V8_2 V10_0
            refine (heldRg _ 1 GR.length _ (by omega) V10.rd).mono ?_
            rintro e w17 ⟨rfl, hb⟩
            replace a0 := a0.call hb
            replace a1 := a1.call hb
            replace V4 := V4.call hb
            replace V6 := V6.call hb
            replace V8 := V8.call hb
            replace V10 := V10.call hb
            replace Kw := belI_call Kw hb
            clear hb
            obtain ⟨a0_0, a0_1, a0_2⟩ := a0.cells
            obtain ⟨a1_0, a1_1, a1_2⟩ := a1.cells
            have V4_0 := V4.cell
            obtain ⟨V6_0, V6_1, V6_2⟩ := V6.cells
            obtain ⟨V8_0, V8_1, V8_2⟩ := V8.cells
            have V10_0 := V10.cell
            go_upto_region 31 with fail
            clear a0_0 a0_1 a0_2 a1_0 a1_1 a1_2 V4_0 V6_0 V6_1 V6_2 V8_0 V8_1 V8_2 V10_0
            go_cut [13] (fun s13 wx => ∃ (b hi : Nat) (A : Option Addr) (c : Nat), s13 = .pointer (some ⟨b, 0, none⟩) ∧ RgV w17.heap.size hi b (.slice A GR.length c) GR wx ∧ Below w17.heap.size w17 wx)
            case first =>
              refine wp_region_held_drew (S := fun W => Below w17.heap.size w17 W) (by kernel_rfl) (Below.refl _ _).drew (fun hS => ?_)
              refine wpAnyH_take (i := 0) (v := .agg #[.int .i64 X0, .int .i64 Y0, .slice A0 L0.length c0]) rfl (by kernel_rfl) (by kernel_rfl) (by kernel_rfl) (fun _ _ _ h => h) (Or.inl ⟨by kernel_rfl, by intro w' hSw; (try dsimp only at hSw); (obtain ⟨a0_0, a0_1, a0_2⟩ := (a0.call hSw).cells); (obtain ⟨a1_0, a1_1, a1_2⟩ := (a1.call hSw).cells); (have V4_0 := (V4.call hSw).cell); (obtain ⟨V6_0, V6_1, V6_2⟩ := (V6.call hSw).cells); (obtain ⟨V8_0, V8_1, V8_2⟩ := (V8.call hSw).cells); (have V10_0 := (V10.call hSw).cell); go_simp⟩) (by assumption) ?_
              refine wpAnyH_take (i := 2) (v := .agg #[.int .i64 X1, .int .i64 Y1, .slice A1 L1.length c1]) rfl (by kernel_rfl) (by kernel_rfl) (by kernel_rfl) (fun _ _ _ h => h) (Or.inl ⟨by kernel_rfl, by intro w' hSw; (try dsimp only at hSw); (obtain ⟨a0_0, a0_1, a0_2⟩ := (a0.call hSw).cells); (obtain ⟨a1_0, a1_1, a1_2⟩ := (a1.call hSw).cells); (have V4_0 := (V4.call hSw).cell); (obtain ⟨V6_0, V6_1, V6_2⟩ := (V6.call hSw).cells); (obtain ⟨V8_0, V8_1, V8_2⟩ := (V8.call hSw).cells); (have V10_0 := (V10.call hSw).cell); go_simp⟩) (by assumption) ?_
              (try simp only [Act.put]); (try simp only [List.setIfInBounds_toArray]); (try simp only [List.set_cons_zero, List.set_cons_succ])
              refine wpAnyH_ready (rs := [1, 5]) (by kernel_rfl) (by simp) ?_
              refine (AllReadyH.cons rfl (fun K hK => ?_) (AllReadyH.cons rfl (fun K hK => ?_) AllReadyH.nil))
              · rw [if_pos (by kernel_rfl)]
                (try simp only [List.getElem_toArray]); (try simp only [List.getElem_cons_succ]); (try simp only [List.getElem_cons_zero])
                go_simp
                with_reducible refine (toIm X0 Y0 _ L0 _ Hn0.out (a0.call hS).rd).mono ?_
                rintro e W' ⟨vo, rfl, u13, hb⟩
                obtain ⟨A_u13, c_u13, he⟩ := ownI_shape u13
                subst he
                dsimp only
                refine hK.out _ _ (belI_call hS hb) (fun hS => ?_)
                clear hK
                (try simp only [Act.put]); (try simp only [List.setIfInBounds_toArray]); (try simp only [List.set_cons_zero, List.set_cons_succ])
                refine wpAnyH_ready (rs := [3, 5]) (by kernel_rfl) (by simp) ?_
                refine (AllReadyH.cons rfl (fun K hK => ?_) (AllReadyH.cons rfl (fun K hK => ?_) AllReadyH.nil))
                · rw [if_pos (by kernel_rfl)]
                  (try simp only [List.getElem_toArray]); (try simp only [List.getElem_cons_succ]); (try simp only [List.getElem_cons_zero])
                  go_simp
                  with_reducible refine (toIm X1 Y1 _ L1 _ Hn1.out (a1.call hS).rd).mono ?_
                  rintro e W' ⟨vo, rfl, u14, hb⟩
                  obtain ⟨A_u14, c_u14, he⟩ := ownI_shape u14
                  subst he
                  dsimp only
                  have u13 := ownI_call u13 hb
                  refine hK.out _ _ (belI_call hS hb) (fun hS => ?_)
                  clear hK
                  (try simp only [Act.put]); (try simp only [List.setIfInBounds_toArray]); (try simp only [List.set_cons_zero, List.set_cons_succ])
                  refine wpAnyH_ready (rs := [4, 5]) (by kernel_rfl) (by simp) ?_
                  refine (AllReadyH.cons rfl (fun K hK => ?_) (AllReadyH.cons rfl (fun K hK => ?_) AllReadyH.nil))
                  · rw [if_pos (by kernel_rfl)]
                    (try simp only [List.getElem_toArray]); (try simp only [List.getElem_cons_succ]); (try simp only [List.getElem_cons_zero])
                    go_simp
                    with_reducible refine (HI.out _ _ (RdI.of_own u13) _ (RdI.of_own u14)).mono ?_
                    rintro e W' ⟨vo, rfl, u15, hb⟩
                    obtain ⟨A_u15, c_u15, he⟩ := own_shape u15
                    subst he
                    replace u15 := u15.mono hS.size
                    dsimp only
                    have u13 := ownI_call u13 hb
                    have u14 := ownI_call u14 hb
                    refine hK.out _ _ (belI_call hS hb) (fun hS => ?_)
                    clear hK
                    (try simp only [Act.put]); (try simp only [List.setIfInBounds_toArray]); (try simp only [List.set_cons_zero, List.set_cons_succ])
                    refine wpAnyH_ready (rs := [5]) (by kernel_rfl) (by simp) ?_
                    refine (AllReadyH.cons rfl (fun K hK => ?_) AllReadyH.nil)
                    · rw [if_pos (by kernel_rfl)]
                      (try simp only [List.getElem_toArray]); (try simp only [List.getElem_cons_succ]); (try simp only [List.getElem_cons_zero])
                      refine wp_alloc_rgv 13 rfl rfl ?_
                      intro bB W' hb GB lB
                      have kB := Nat.le_trans hS.size lB
                      have nB : ∀ k, (Value.slice A_u15 GR.length c_u15).ownBlock = some k → k ≠ bB := fun k hk => by have := (u15.lt k hk).2; omega
                      have u13 := ownI_call u13 hb
                      have u14 := ownI_call u14 hb
                      have u15 := ownI_call u15 hb
                      refine hK.out _ _ (belI_call hS hb) (fun hS => ?_)
                      clear hK
                      (try simp only [Act.put]); (try simp only [List.setIfInBounds_toArray]); (try simp only [List.set_cons_zero, List.set_cons_succ])
                      refine wpAnyH_ready (rs := [6]) (by kernel_rfl) (by simp) ?_
                      refine (AllReadyH.cons rfl (fun K hK => ?_) AllReadyH.nil)
                      · rw [if_pos (by kernel_rfl)]
                        (try simp only [List.getElem_toArray]); (try simp only [List.getElem_cons_succ]); (try simp only [List.getElem_cons_zero])
                        refine wp_store_rgv (.tmp 13) (.tmp 79) rfl bB (.slice none 0 0) A_u15 GR.length c_u15 rfl rfl GB ?_
                        intro W3 IB hgB
                        skip
                        skip
                        replace u15 := u15.kept hgB (ownA_ne nB)
                        skip
                        refine hK.out _ _ (hS.grown hgB hS.size (fun k hk => by injection hk with hk; omega)) (fun hS => ?_)
                        clear hK
                        (try simp only [Act.put]); (try simp only [List.setIfInBounds_toArray]); (try simp only [List.set_cons_zero, List.set_cons_succ])
                        refine wpAnyH_done (by kernel_rfl) ?_ _
                        go_wp2_with fail
                        go_meet
                        case rel => exact ⟨bB, _, _, _, rfl, RgV.made IB u15 kB nB, hS⟩
                  · rw [if_pos (by kernel_rfl)]
                    (try simp only [List.getElem_toArray]); (try simp only [List.getElem_cons_succ]); (try simp only [List.getElem_cons_zero])
                    refine wp_alloc_rgv 13 rfl rfl ?_
                    intro bB W' hb GB lB
                    have kB := Nat.le_trans hS.size lB
                    have u13 := ownI_call u13 hb
                    have u14 := ownI_call u14 hb
                    refine hK.out _ _ (belI_call hS hb) (fun hS => ?_)
                    clear hK
                    (try simp only [Act.put]); (try simp only [List.setIfInBounds_toArray]); (try simp only [List.set_cons_zero, List.set_cons_succ])
                    refine wpAnyH_ready (rs := [4]) (by kernel_rfl) (by simp) ?_
                    refine (AllReadyH.cons rfl (fun K hK => ?_) AllReadyH.nil)
                    · rw [if_pos (by kernel_rfl)]
                      (try simp only [List.getElem_toArray]); (try simp only [List.getElem_cons_succ]); (try simp only [List.getElem_cons_zero])
                      go_simp
                      with_reducible refine (HI.out _ _ (RdI.of_own u13) _ (RdI.of_own u14)).mono ?_
                      rintro e W' ⟨vo, rfl, u15, hb⟩
                      obtain ⟨A_u15, c_u15, he⟩ := own_shape u15
                      subst he
                      have nB : ∀ k, (Value.slice A_u15 GR.length c_u15).ownBlock = some k → k ≠ bB := fun k hk => by have := (u15.lt k hk).1; have := (Array.getElem?_eq_some_iff.1 GB).1; omega
                      replace u15 := u15.mono hS.size
                      dsimp only
                      have u13 := ownI_call u13 hb
                      have u14 := ownI_call u14 hb
                      have GB := blk_call GB hb
                      refine hK.out _ _ (belI_call hS hb) (fun hS => ?_)
                      clear hK
                      (try simp only [Act.put]); (try simp only [List.setIfInBounds_toArray]); (try simp only [List.set_cons_zero, List.set_cons_succ])
                      refine wpAnyH_ready (rs := [6]) (by kernel_rfl) (by simp) ?_
                      refine (AllReadyH.cons rfl (fun K hK => ?_) AllReadyH.nil)
                      · rw [if_pos (by kernel_rfl)]
                        (try simp only [List.getElem_toArray]); (try simp only [List.getElem_cons_succ]); (try simp only [List.getElem_cons_zero])
                        refine wp_store_rgv (.tmp 13) (.tmp 79) rfl bB (.slice none 0 0) A_u15 GR.length c_u15 rfl rfl GB ?_
                        intro W3 IB hgB
                        skip
                        skip
                        skip
                        replace u15 := u15.kept hgB (ownA_ne nB)
                        refine hK.out _ _ (hS.grown hgB hS.size (fun k hk => by injection hk with hk; omega)) (fun hS => ?_)
                        clear hK
                        (try simp only [Act.put]); (try simp only [List.setIfInBounds_toArray]); (try simp only [List.set_cons_zero, List.set_cons_succ])
                        refine wpAnyH_done (by kernel_rfl) ?_ _
                        go_wp2_with fail
                        go_meet
                        case rel => exact ⟨bB, _, _, _, rfl, RgV.made IB u15 kB nB, hS⟩
                · rw [if_pos (by kernel_rfl)]
                  (try simp only [List.getElem_toArray]); (try simp only [List.getElem_cons_succ]); (try simp only [List.getElem_cons_zero])
                  refine wp_alloc_rgv 13 rfl rfl ?_
                  intro bB W' hb GB lB
                  have kB := Nat.le_trans hS.size lB
                  have u13 := ownI_call u13 hb
                  refine hK.out _ _ (belI_call hS hb) (fun hS => ?_)
                  clear hK
                  (try simp only [Act.put]); (try simp only [List.setIfInBounds_toArray]); (try simp only [List.set_cons_zero, List.set_cons_succ])
                  refine wpAnyH_ready (rs := [3]) (by kernel_rfl) (by simp) ?_
                  refine (AllReadyH.cons rfl (fun K hK => ?_) AllReadyH.nil)
                  · rw [if_pos (by kernel_rfl)]
                    (try simp only [List.getElem_toArray]); (try simp only [List.getElem_cons_succ]); (try simp only [List.getElem_cons_zero])
                    go_simp
                    with_reducible refine (toIm X1 Y1 _ L1 _ Hn1.out (a1.call hS).rd).mono ?_
                    rintro e W' ⟨vo, rfl, u14, hb⟩
                    obtain ⟨A_u14, c_u14, he⟩ := ownI_shape u14
                    subst he
                    dsimp only
                    have u13 := ownI_call u13 hb
                    have GB := blk_call GB hb
                    refine hK.out _ _ (belI_call hS hb) (fun hS => ?_)
                    clear hK
                    (try simp only [Act.put]); (try simp only [List.setIfInBounds_toArray]); (try simp only [List.set_cons_zero, List.set_cons_succ])
                    refine wpAnyH_ready (rs := [4]) (by kernel_rfl) (by simp) ?_
                    refine (AllReadyH.cons rfl (fun K hK => ?_) AllReadyH.nil)
                    · rw [if_pos (by kernel_rfl)]
                      (try simp only [List.getElem_toArray]); (try simp only [List.getElem_cons_succ]); (try simp only [List.getElem_cons_zero])
                      go_simp
                      with_reducible refine (HI.out _ _ (RdI.of_own u13) _ (RdI.of_own u14)).mono ?_
                      rintro e W' ⟨vo, rfl, u15, hb⟩
                      obtain ⟨A_u15, c_u15, he⟩ := own_shape u15
                      subst he
                      have nB : ∀ k, (Value.slice A_u15 GR.length c_u15).ownBlock = some k → k ≠ bB := fun k hk => by have := (u15.lt k hk).1; have := (Array.getElem?_eq_some_iff.1 GB).1; omega
                      replace u15 := u15.mono hS.size
                      dsimp only
                      have u13 := ownI_call u13 hb
                      have GB := blk_call GB hb
                      have u14 := ownI_call u14 hb
                      refine hK.out _ _ (belI_call hS hb) (fun hS => ?_)
                      clear hK
                      (try simp only [Act.put]); (try simp only [List.setIfInBounds_toArray]); (try simp only [List.set_cons_zero, List.set_cons_succ])
                      refine wpAnyH_ready (rs := [6]) (by kernel_rfl) (by simp) ?_
                      refine (AllReadyH.cons rfl (fun K hK => ?_) AllReadyH.nil)
                      · rw [if_pos (by kernel_rfl)]
                        (try simp only [List.getElem_toArray]); (try simp only [List.getElem_cons_succ]); (try simp only [List.getElem_cons_zero])
                        refine wp_store_rgv (.tmp 13) (.tmp 79) rfl bB (.slice none 0 0) A_u15 GR.length c_u15 rfl rfl GB ?_
                        intro W3 IB hgB
                        skip
                        skip
                        skip
                        replace u15 := u15.kept hgB (ownA_ne nB)
                        refine hK.out _ _ (hS.grown hgB hS.size (fun k hk => by injection hk with hk; omega)) (fun hS => ?_)
                        clear hK
                        (try simp only [Act.put]); (try simp only [List.setIfInBounds_toArray]); (try simp only [List.set_cons_zero, List.set_cons_succ])
                        refine wpAnyH_done (by kernel_rfl) ?_ _
                        go_wp2_with fail
                        go_meet
                        case rel => exact ⟨bB, _, _, _, rfl, RgV.made IB u15 kB nB, hS⟩
              · rw [if_pos (by kernel_rfl)]
                (try simp only [List.getElem_toArray]); (try simp only [List.getElem_cons_succ]); (try simp only [List.getElem_cons_zero])
                refine wp_alloc_rgv 13 rfl rfl ?_
                intro bB W' hb GB lB
                have kB := Nat.le_trans hS.size lB
                refine hK.out _ _ (belI_call hS hb) (fun hS => ?_)
                clear hK
                (try simp only [Act.put]); (try simp only [List.setIfInBounds_toArray]); (try simp only [List.set_cons_zero, List.set_cons_succ])
                refine wpAnyH_ready (rs := [1]) (by kernel_rfl) (by simp) ?_
                refine (AllReadyH.cons rfl (fun K hK => ?_) AllReadyH.nil)
                · rw [if_pos (by kernel_rfl)]
                  (try simp only [List.getElem_toArray]); (try simp only [List.getElem_cons_succ]); (try simp only [List.getElem_cons_zero])
                  go_simp
                  with_reducible refine (toIm X0 Y0 _ L0 _ Hn0.out (a0.call hS).rd).mono ?_
                  rintro e W' ⟨vo, rfl, u13, hb⟩
                  obtain ⟨A_u13, c_u13, he⟩ := ownI_shape u13
                  subst he
                  dsimp only
                  have GB := blk_call GB hb
                  refine hK.out _ _ (belI_call hS hb) (fun hS => ?_)
                  clear hK
                  (try simp only [Act.put]); (try simp only [List.setIfInBounds_toArray]); (try simp only [List.set_cons_zero, List.set_cons_succ])
                  refine wpAnyH_ready (rs := [3]) (by kernel_rfl) (by simp) ?_
                  refine (AllReadyH.cons rfl (fun K hK => ?_) AllReadyH.nil)
                  · rw [if_pos (by kernel_rfl)]
                    (try simp only [List.getElem_toArray]); (try simp only [List.getElem_cons_succ]); (try simp only [List.getElem_cons_zero])
                    go_simp
                    with_reducible refine (toIm X1 Y1 _ L1 _ Hn1.out (a1.call hS).rd).mono ?_
                    rintro e W' ⟨vo, rfl, u14, hb⟩
                    obtain ⟨A_u14, c_u14, he⟩ := ownI_shape u14
                    subst he
                    dsimp only
                    have GB := blk_call GB hb
                    have u13 := ownI_call u13 hb
                    refine hK.out _ _ (belI_call hS hb) (fun hS => ?_)
                    clear hK
                    (try simp only [Act.put]); (try simp only [List.setIfInBounds_toArray]); (try simp only [List.set_cons_zero, List.set_cons_succ])
                    refine wpAnyH_ready (rs := [4]) (by kernel_rfl) (by simp) ?_
                    refine (AllReadyH.cons rfl (fun K hK => ?_) AllReadyH.nil)
                    · rw [if_pos (by kernel_rfl)]
                      (try simp only [List.getElem_toArray]); (try simp only [List.getElem_cons_succ]); (try simp only [List.getElem_cons_zero])
                      go_simp
                      with_reducible refine (HI.out _ _ (RdI.of_own u13) _ (RdI.of_own u14)).mono ?_
                      rintro e W' ⟨vo, rfl, u15, hb⟩
                      obtain ⟨A_u15, c_u15, he⟩ := own_shape u15
                      subst he
                      have nB : ∀ k, (Value.slice A_u15 GR.length c_u15).ownBlock = some k → k ≠ bB := fun k hk => by have := (u15.lt k hk).1; have := (Array.getElem?_eq_some_iff.1 GB).1; omega
                      replace u15 := u15.mono hS.size
                      dsimp only
                      have GB := blk_call GB hb
                      have u13 := ownI_call u13 hb
                      have u14 := ownI_call u14 hb
                      refine hK.out _ _ (belI_call hS hb) (fun hS => ?_)
                      clear hK
                      (try simp only [Act.put]); (try simp only [List.setIfInBounds_toArray]); (try simp only [List.set_cons_zero, List.set_cons_succ])
                      refine wpAnyH_ready (rs := [6]) (by kernel_rfl) (by simp) ?_
                      refine (AllReadyH.cons rfl (fun K hK => ?_) AllReadyH.nil)
                      · rw [if_pos (by kernel_rfl)]
                        (try simp only [List.getElem_toArray]); (try simp only [List.getElem_cons_succ]); (try simp only [List.getElem_cons_zero])
                        refine wp_store_rgv (.tmp 13) (.tmp 79) rfl bB (.slice none 0 0) A_u15 GR.length c_u15 rfl rfl GB ?_
                        intro W3 IB hgB
                        skip
                        skip
                        skip
                        replace u15 := u15.kept hgB (ownA_ne nB)
                        refine hK.out _ _ (hS.grown hgB hS.size (fun k hk => by injection hk with hk; omega)) (fun hS => ?_)
                        clear hK
                        (try simp only [Act.put]); (try simp only [List.setIfInBounds_toArray]); (try simp only [List.set_cons_zero, List.set_cons_succ])
                        refine wpAnyH_done (by kernel_rfl) ?_ _
                        go_wp2_with fail
                        go_meet
                        case rel => exact ⟨bB, _, _, _, rfl, RgV.made IB u15 kB nB, hS⟩
            case rest =>
              obtain ⟨b_V16, hi_V16, A_V16, c_V16, rfl, V16, hb⟩ := hcut
              obtain ⟨w18, hWy⟩ : ∃ w18, w18 = wc := ⟨_, rfl⟩
              subst hWy
              have hs_V4_V16 := Lib.hid V4.hs
              have hs_V6_V16 := Lib.hid V6.hs
              have hs_V8_V16 := Lib.hid V8.hs
              have hs_V10_V16 := Lib.hid V10.hs
              have hlo_V16 := Lib.hid Kw.size
              have hl_a0_V16 := Lib.hid a0.lt
              have hl_a1_V16 := Lib.hid a1.lt
              replace a0 := a0.call hb
              replace a1 := a1.call hb
              replace V4 := V4.call hb
              replace V6 := V6.call hb
              replace V8 := V8.call hb
              replace V10 := V10.call hb
              replace Kw := belI_call Kw hb
              clear hb
              obtain ⟨a0_0, a0_1, a0_2⟩ := a0.cells
              obtain ⟨a1_0, a1_1, a1_2⟩ := a1.cells
              have V4_0 := V4.cell
              obtain ⟨V6_0, V6_1, V6_2⟩ := V6.cells
              obtain ⟨V8_0, V8_1, V8_2⟩ := V8.cells
              have V10_0 := V10.cell
              have V16_0 := V16.cell
              go_wp2_with fail
              clear a0_0 a0_1 a0_2 a1_0 a1_1 a1_2 V4_0 V6_0 V6_1 V6_2 V8_0 V8_1 V8_2 V10_0 V16_0
              refine (eqRg_same _ _ GR _ V16.rd V4.rd).mono ?_
              rintro e w19 ⟨rfl, hb⟩
              replace a0 := a0.call hb
              replace a1 := a1.call hb
              replace V4 := V4.call hb
              replace V6 := V6.call hb
              replace V8 := V8.call hb
              replace V10 := V10.call hb
              replace V16 := V16.call hb
              replace Kw := belI_call Kw hb
              clear hb
              obtain ⟨a0_0, a0_1, a0_2⟩ := a0.cells
              obtain ⟨a1_0, a1_1, a1_2⟩ := a1.cells
              have V4_0 := V4.cell
              obtain ⟨V6_0, V6_1, V6_2⟩ := V6.cells
              obtain ⟨V8_0, V8_1, V8_2⟩ := V8.cells
              have V10_0 := V10.cell
              have V16_0 := V16.cell
              go_wp2_with fail
              clear a0_0 a0_1 a0_2 a1_0 a1_1 a1_2 V4_0 V6_0 V6_1 V6_2 V8_0 V8_1 V8_2 V10_0 V16_0
              refine (heldRg _ 1 GR.length _ (by omega) V10.rd).mono ?_
              rintro e w20 ⟨rfl, hb⟩
              replace a0 := a0.call hb
              replace a1 := a1.call hb
              replace V4 := V4.call hb
              replace V6 := V6.call hb
              replace V8 := V8.call hb
              replace V10 := V10.call hb
              replace V16 := V16.call hb
              replace Kw := belI_call Kw hb
              clear hb
              go_wp2_with fail
              go_ret
              exact ⟨rfl, Kw⟩
end Go.Proofs.Ytmjndoedchiggaa
