/- The walk of the law FnExactCropImage: it returns true for every image and rectangle. -/
import Derived.Test.YtaggldhlnjbnhaaRd
import Derived.Test.YtaggldhlnjbnhaaIntR
import Derived.Test.YtaggldhlnjbnhaaImR
import Derived.Test.YtaggldhlnjbnhaaRectC
import Derived.Test.YtaggldhlnjbnhaaPixM
import Derived.Test.YtaggldhlnjbnhaaImL
import Derived.Test.YtaggldhlnjbnhaaImV
import Derived.Test.YtaggldhlnjbnhaaImD
import Derived.Test.YtaggldhlnjbnhaaBlk4
import Derived.Test.YtaggldhlnjbnhaaRectEq
import Derived.Test.YtaggldhlnjbnhaaLaw
import Derived.Test.YtaggldhlnjbnhaaHasC
import Derived.Test.YtaggldhlnjbnhaaRds
import Derived.Test.YtaggldhlnjbnhaaFilB
import Derived.Test.YtaggldhlnjbnhaaCrpB
import Derived.Test.YtaggldhlnjbnhaaCrpS
import Derived.Test.YtaggldhlnjbnhaaCrpI
import Derived.Test.YtaggldhlnjbnhaaProg
import Derived.WalkKit
import Derived.ProofKit
import Derived.OpenShut
import Derived.WalkLawsBesides
import Derived.WalkSpells
import Derived.ShutString
import Derived.ChangeOld
import Derived.Below
import Derived.Lib.Hide
import Derived.BigQuiet
import Derived.Deep.QuietTactic
import Derived.Maps.AppendAt
import Derived.Deep.OwnRows
import Derived.Handy
import Derived.Deep.Draws
import Derived.OwnWalk
import Derived.Deep.AppendLies
import Derived.Deep.LoopGhost
import Derived.Deep.Onto
import Derived.Deep.RegionHeld3
import Derived.Deep.DeepCutAuto
import Derived.Laws.BitsAllLaws
import Derived.Lib.QuoteBits
import Derived.Test.YtaggldhlnjbnhaaShelf
import Derived.Laws.CopyOwn
import Derived.Deep.RegionLaw
import Derived.Great.BuildSlice
import Derived.Deep.MidRow
import Derived.Deep.WholeRow
import Derived.Laws.AppendOwn
namespace Go.Proofs.Ytaggldhlnjbnhaa
open Go.RowKit
set_option maxHeartbeats 4000000 in
set_option maxRecDepth 10000 in
theorem walk_FnExactCropImage (X0 Y0 : Int) (v0 : Value) (L0 : List Int) (r1 : Rc) (w : World) (h0 : Rd w v0 L0.length (intCells L0)) :
    Calls Try.prog 14 #[.agg #[.int .i64 X0, .int .i64 Y0, v0], .agg #[.int .i64 r1.x, .int .i64 r1.y, .int .i64 r1.w, .int .i64 r1.h]] w fun e w' => e = .returned (.bool true) ∧ Below w.heap.size w w' := by
  obtain ⟨A0, c0, rfl⟩ := h0.form
  have hm0 : L0.length ≤ maxLen := h0.len.2
  have O0 := Lib.hid h0
  have Kw := Below.refl w.heap.size w
  have hb0 := belI_box w (.cells #[.int .i64 X0, .int .i64 Y0, .slice A0 L0.length c0] 35)
  have a0 : ImA (w.heap.size) X0 Y0 (.slice A0 L0.length c0) L0 (w.alloc (.cells #[.int .i64 X0, .int .i64 Y0, .slice A0 L0.length c0] 35)) := ⟨ImAt.newAt (w := w) (by simp) _ _ _ _, (h0.call Kw).call hb0⟩
  replace Kw := belI_call Kw hb0
  clear hb0
  have hb1 := belI_box (w.alloc (.cells #[.int .i64 X0, .int .i64 Y0, .slice A0 L0.length c0] 35)) (.cells #[.int .i64 r1.x, .int .i64 r1.y, .int .i64 r1.w, .int .i64 r1.h] 57)
  replace a0 := a0.call hb1
  have a1 : LcAt ((w.alloc (.cells #[.int .i64 X0, .int .i64 Y0, .slice A0 L0.length c0] 35)).alloc (.cells #[.int .i64 r1.x, .int .i64 r1.y, .int .i64 r1.w, .int .i64 r1.h] 57)) (w.heap.size + 1) r1 := LcAt.newAt (w := (w.alloc (.cells #[.int .i64 X0, .int .i64 Y0, .slice A0 L0.length c0] 35))) (by simp) r1
  replace Kw := belI_call Kw hb1
  clear hb1
  obtain ⟨w0, hw0⟩ : ∃ w0, w0 = ((w.alloc (.cells #[.int .i64 X0, .int .i64 Y0, .slice A0 L0.length c0] 35)).alloc (.cells #[.int .i64 r1.x, .int .i64 r1.y, .int .i64 r1.w, .int .i64 r1.h] 57)) := ⟨_, rfl⟩
  rw [← hw0] at Kw a0 a1
  have Hw := Lib.hid hw0
  clear hw0 h0
  by_cases g0 : L0.length ≤ 1048576
  rotate_left
  · have g' : ¬ L0.length ≤ 1048576 := g0
    obtain ⟨a0_0, a0_1, a0_2⟩ := a0.cells
    obtain ⟨a1_0, a1_1, a1_2, a1_3⟩ := a1.cells
    go_enter Try.func14, Try.ntmps14
    go_wp2_with fail
    rw [← Hw.out]
    clear a0_0 a0_1 a0_2 a1_0 a1_1 a1_2 a1_3
    have q0 : (0 : Int) ≤ (1048576 : Int) := by omega
    have q1 : (1048576 : Int) < (L0.length : Int) := by omega
    refine (szIm_no X0 Y0 L0.length A0 c0 hm0 _ q0 q1 _).mono ?_
    rintro e w1 ⟨rfl, hb⟩
    replace a0 := a0.call hb
    replace a1 := a1.callA hb
    replace Kw := belI_call Kw hb
    clear hb
    go_wp2_with fail
    go_ret
    exact ⟨rfl, Kw⟩
  have n0 : L0.length ≤ 1048576 := by omega
  have Hn0 := Lib.hid n0
  obtain ⟨XR, YR, LR, tR, hR, hlR⟩ : ∃ X Y L t, cropIm X0 Y0 L0 r1 = (⟨X, Y, L⟩, t) ∧ L.length ≤ 4194304 := ⟨_, _, _, _, rfl, (by have := crop_len X0 Y0 L0 r1; show (cropIm X0 Y0 L0 r1).1.d.length ≤ _; omega)⟩
  have PS := fun (W : World) u0 k0 => cropS_any X0 Y0 u0 L0 r1 W k0
  have PI := fun (W : World) u0 k0 => cropI_any X0 Y0 u0 L0 r1 W k0
  unfold AnsCr at PS PI
  rw [hR] at PS PI
  dsimp only at PS PI
  have HS := Lib.hid PS
  have HI := Lib.hid PI
  clear PS PI hR
  obtain ⟨a0_0, a0_1, a0_2⟩ := a0.cells
  obtain ⟨a1_0, a1_1, a1_2, a1_3⟩ := a1.cells
  go_enter Try.func14, Try.ntmps14
  go_wp2_with fail
  rw [← Hw.out]
  clear a0_0 a0_1 a0_2 a1_0 a1_1 a1_2 a1_3
  refine (szIm_yes X0 Y0 L0.length A0 c0 _ (by omega) (by omega) _).mono ?_
  rintro e w2 ⟨rfl, hb⟩
  replace a0 := a0.call hb
  replace a1 := a1.callA hb
  replace Kw := belI_call Kw hb
  clear hb
  have z0 : ¬ ((1048576 : Int) - (L0.length : Int)) < 0 := by omega
  have neg1 : ¬ ((1 + LR.length : Nat) : Int) < 0 := by omega
  obtain ⟨a0_0, a0_1, a0_2⟩ := a0.cells
  obtain ⟨a1_0, a1_1, a1_2, a1_3⟩ := a1.cells
  go_upto_region 5 with fail
  clear a0_0 a0_1 a0_2 a1_0 a1_1 a1_2 a1_3
  go_cut [6, 7] (fun s6 t7 wx => ∃ (b hi : Nat) (A : Option Addr) (c : Nat), s6 = .pointer (some ⟨b, 0, none⟩) ∧ t7 = .bool tR ∧ ImV w2.heap.size hi b XR YR (.slice A LR.length c) LR wx ∧ Below w2.heap.size w2 wx)
  case first =>
    refine wp_region_held_drew (S := fun W => Below w2.heap.size w2 W) (by kernel_rfl) (Below.refl _ _).drew (fun hS => ?_)
    refine wpAnyH_take (i := 0) (v := .agg #[.int .i64 X0, .int .i64 Y0, .slice A0 L0.length c0]) rfl (by kernel_rfl) (by kernel_rfl) (by kernel_rfl) (fun _ _ _ h => h) (Or.inl ⟨by kernel_rfl, by intro w' hSw; (try dsimp only at hSw); (obtain ⟨a0_0, a0_1, a0_2⟩ := (a0.call hSw).cells); (obtain ⟨a1_0, a1_1, a1_2, a1_3⟩ := (a1.callA hSw).cells); go_simp⟩) (by assumption) ?_
    refine wpAnyH_take (i := 2) (v := .agg #[.int .i64 r1.x, .int .i64 r1.y, .int .i64 r1.w, .int .i64 r1.h]) rfl (by kernel_rfl) (by kernel_rfl) (by kernel_rfl) (fun _ _ _ h => h) (Or.inl ⟨by kernel_rfl, by intro w' hSw; (try dsimp only at hSw); (obtain ⟨a0_0, a0_1, a0_2⟩ := (a0.call hSw).cells); (obtain ⟨a1_0, a1_1, a1_2, a1_3⟩ := (a1.callA hSw).cells); go_simp⟩) (by assumption) ?_
    (try simp only [Act.put]); (try simp only [List.setIfInBounds_toArray]); (try simp only [List.set_cons_zero, List.set_cons_succ])
    refine wpAnyH_ready (rs := [1, 8]) (by kernel_rfl) (by simp) ?_
    refine (AllReadyH.cons rfl (fun K hK => ?_) (AllReadyH.cons rfl (fun K hK => ?_) AllReadyH.nil))
    · rw [if_pos (by kernel_rfl)]
      (try simp only [List.getElem_toArray]); (try simp only [List.getElem_cons_succ]); (try simp only [List.getElem_cons_zero])
      go_simp
      with_reducible refine (toIm X0 Y0 _ L0 _ Hn0.out (a0.call hS).rd).mono ?_
      rintro e W' ⟨vo, rfl, u1, hb⟩
      obtain ⟨A_u1, c_u1, he⟩ := ownI_shape u1
      subst he
      dsimp only
      refine hK.out _ _ (belI_call hS hb) (fun hS => ?_)
      clear hK
      (try simp only [Act.put]); (try simp only [List.setIfInBounds_toArray]); (try simp only [List.set_cons_zero, List.set_cons_succ])
      refine wpAnyH_ready (rs := [3, 8]) (by kernel_rfl) (by simp) ?_
      refine (AllReadyH.cons rfl (fun K hK => ?_) (AllReadyH.cons rfl (fun K hK => ?_) AllReadyH.nil))
      · rw [if_pos (by kernel_rfl)]
        (try simp only [List.getElem_toArray]); (try simp only [List.getElem_cons_succ]); (try simp only [List.getElem_cons_zero])
        go_simp
        with_reducible refine (toRect_any r1 _).mono ?_
        rintro e W' ⟨rfl, hb⟩
        dsimp only
        have u1 := ownI_call u1 hb
        refine hK.out _ _ (belI_call hS hb) (fun hS => ?_)
        clear hK
        (try simp only [Act.put]); (try simp only [List.setIfInBounds_toArray]); (try simp only [List.set_cons_zero, List.set_cons_succ])
        refine wpAnyH_ready (rs := [4, 8]) (by kernel_rfl) (by simp) ?_
        refine (AllReadyH.cons rfl (fun K hK => ?_) (AllReadyH.cons rfl (fun K hK => ?_) AllReadyH.nil))
        · rw [if_pos (by kernel_rfl)]
          (try simp only [List.getElem_toArray]); (try simp only [List.getElem_cons_succ]); (try simp only [List.getElem_cons_zero])
          go_simp
          with_reducible refine (HS.out _ _ (RdI.of_own u1)).mono ?_
          rintro e W' ⟨vo, rfl, u2, hb⟩
          obtain ⟨A_u2, c_u2, he⟩ := ownI_shape u2
          subst he
          replace u2 := u2.mono hS.size
          dsimp only
          have u1 := ownI_call u1 hb
          refine hK.out _ _ (belI_call hS hb) (fun hS => ?_)
          clear hK
          (try simp only [Act.put]); (try simp only [List.setIfInBounds_toArray]); (try simp only [List.set_cons_zero, List.set_cons_succ])
          refine wpAnyH_take (i := 5) (v := .tuple #[.agg #[.int .i64 XR, .int .i64 YR, .slice A_u2 LR.length c_u2], .bool tR]) rfl (by kernel_rfl) (by kernel_rfl) (by kernel_rfl) (fun _ _ _ h => h) (Or.inl ⟨by kernel_rfl, by intro w' hSw; (try dsimp only at hSw); (obtain ⟨a0_0, a0_1, a0_2⟩ := (a0.call hSw).cells); (obtain ⟨a1_0, a1_1, a1_2, a1_3⟩ := (a1.callA hSw).cells); go_simp⟩) (by assumption) ?_
          refine wpAnyH_take (i := 6) (v := .agg #[.int .i64 XR, .int .i64 YR, .slice A_u2 LR.length c_u2]) rfl (by kernel_rfl) (by kernel_rfl) (by kernel_rfl) (fun _ _ _ h => h) (Or.inl ⟨by kernel_rfl, by intro w' hSw; (try dsimp only at hSw); (obtain ⟨a0_0, a0_1, a0_2⟩ := (a0.call hSw).cells); (obtain ⟨a1_0, a1_1, a1_2, a1_3⟩ := (a1.callA hSw).cells); go_simp⟩) (by assumption) ?_
          refine wpAnyH_take (i := 7) (v := .bool tR) rfl (by kernel_rfl) (by kernel_rfl) (by kernel_rfl) (fun _ _ _ h => h) (Or.inl ⟨by kernel_rfl, by intro w' hSw; (try dsimp only at hSw); (obtain ⟨a0_0, a0_1, a0_2⟩ := (a0.call hSw).cells); (obtain ⟨a1_0, a1_1, a1_2, a1_3⟩ := (a1.callA hSw).cells); go_simp⟩) (by assumption) ?_
          (try simp only [Act.put]); (try simp only [List.setIfInBounds_toArray]); (try simp only [List.set_cons_zero, List.set_cons_succ])
          refine wpAnyH_ready (rs := [8]) (by kernel_rfl) (by simp) ?_
          refine (AllReadyH.cons rfl (fun K hK => ?_) AllReadyH.nil)
          · rw [if_pos (by kernel_rfl)]
            (try simp only [List.getElem_toArray]); (try simp only [List.getElem_cons_succ]); (try simp only [List.getElem_cons_zero])
            refine wp_alloc_im 28 zero26 6 rfl rfl ?_
            intro bB W' hb GB lB
            have kB := Nat.le_trans hS.size lB
            have nB : ∀ k, (Value.slice A_u2 LR.length c_u2).ownBlock = some k → k ≠ bB := fun k hk => by have := (u2.lt k hk).2; omega
            have u1 := ownI_call u1 hb
            have u2 := ownI_call u2 hb
            refine hK.out _ _ (belI_call hS hb) (fun hS => ?_)
            clear hK
            (try simp only [Act.put]); (try simp only [List.setIfInBounds_toArray]); (try simp only [List.set_cons_zero, List.set_cons_succ])
            refine wpAnyH_ready (rs := [9]) (by kernel_rfl) (by simp) ?_
            refine (AllReadyH.cons rfl (fun K hK => ?_) AllReadyH.nil)
            · rw [if_pos (by kernel_rfl)]
              (try simp only [List.getElem_toArray]); (try simp only [List.getElem_cons_succ]); (try simp only [List.getElem_cons_zero])
              refine wp_store_im 28 size26 (.tmp 6) (.tmp 27) rfl bB 0 0 (.slice none 0 0) XR YR A_u2 LR.length c_u2 rfl (by first | with_reducible rfl | (go_simp; done) | rfl) GB ?_
              intro W3 IB hgB
              skip
              replace u2 := u2.kept hgB (ownA_ne nB)
              skip
              refine hK.out _ _ (hS.grown hgB hS.size (fun k hk => by injection hk with hk; omega)) (fun hS => ?_)
              clear hK
              (try simp only [Act.put]); (try simp only [List.setIfInBounds_toArray]); (try simp only [List.set_cons_zero, List.set_cons_succ])
              refine wpAnyH_take (i := 10) (v := .bool tR) rfl (by kernel_rfl) (by kernel_rfl) (by kernel_rfl) (fun _ _ _ h => h) (Or.inl ⟨by kernel_rfl, by intro w' hSw; (try dsimp only at hSw); (obtain ⟨a0_0, a0_1, a0_2⟩ := (a0.call hSw).cells); (obtain ⟨a1_0, a1_1, a1_2, a1_3⟩ := (a1.callA hSw).cells); go_simp⟩) (by assumption) ?_
              refine wpAnyH_done (by kernel_rfl) ?_ _
              go_wp2_with fail
              go_meet
              case rel => exact ⟨bB, _, _, _, rfl, rfl, ImV.made IB u2 kB nB, hS⟩
        · rw [if_pos (by kernel_rfl)]
          (try simp only [List.getElem_toArray]); (try simp only [List.getElem_cons_succ]); (try simp only [List.getElem_cons_zero])
          refine wp_alloc_im 28 zero26 6 rfl rfl ?_
          intro bB W' hb GB lB
          have kB := Nat.le_trans hS.size lB
          have u1 := ownI_call u1 hb
          refine hK.out _ _ (belI_call hS hb) (fun hS => ?_)
          clear hK
          (try simp only [Act.put]); (try simp only [List.setIfInBounds_toArray]); (try simp only [List.set_cons_zero, List.set_cons_succ])
          refine wpAnyH_ready (rs := [4]) (by kernel_rfl) (by simp) ?_
          refine (AllReadyH.cons rfl (fun K hK => ?_) AllReadyH.nil)
          · rw [if_pos (by kernel_rfl)]
            (try simp only [List.getElem_toArray]); (try simp only [List.getElem_cons_succ]); (try simp only [List.getElem_cons_zero])
            go_simp
            with_reducible refine (HS.out _ _ (RdI.of_own u1)).mono ?_
            rintro e W' ⟨vo, rfl, u2, hb⟩
            obtain ⟨A_u2, c_u2, he⟩ := ownI_shape u2
            subst he
            have nB : ∀ k, (Value.slice A_u2 LR.length c_u2).ownBlock = some k → k ≠ bB := fun k hk => by have := (u2.lt k hk).1; have := (Array.getElem?_eq_some_iff.1 GB).1; omega
            replace u2 := u2.mono hS.size
            dsimp only
            have u1 := ownI_call u1 hb
            have GB := blk_call GB hb
            refine hK.out _ _ (belI_call hS hb) (fun hS => ?_)
            clear hK
            (try simp only [Act.put]); (try simp only [List.setIfInBounds_toArray]); (try simp only [List.set_cons_zero, List.set_cons_succ])
            refine wpAnyH_take (i := 5) (v := .tuple #[.agg #[.int .i64 XR, .int .i64 YR, .slice A_u2 LR.length c_u2], .bool tR]) rfl (by kernel_rfl) (by kernel_rfl) (by kernel_rfl) (fun _ _ _ h => h) (Or.inl ⟨by kernel_rfl, by intro w' hSw; (try dsimp only at hSw); (obtain ⟨a0_0, a0_1, a0_2⟩ := (a0.call hSw).cells); (obtain ⟨a1_0, a1_1, a1_2, a1_3⟩ := (a1.callA hSw).cells); go_simp⟩) (by assumption) ?_
            refine wpAnyH_take (i := 6) (v := .agg #[.int .i64 XR, .int .i64 YR, .slice A_u2 LR.length c_u2]) rfl (by kernel_rfl) (by kernel_rfl) (by kernel_rfl) (fun _ _ _ h => h) (Or.inl ⟨by kernel_rfl, by intro w' hSw; (try dsimp only at hSw); (obtain ⟨a0_0, a0_1, a0_2⟩ := (a0.call hSw).cells); (obtain ⟨a1_0, a1_1, a1_2, a1_3⟩ := (a1.callA hSw).cells); go_simp⟩) (by assumption) ?_
            refine wpAnyH_take (i := 7) (v := .bool tR) rfl (by kernel_rfl) (by kernel_rfl) (by kernel_rfl) (fun _ _ _ h => h) (Or.inl ⟨by kernel_rfl, by intro w' hSw; (try dsimp only at hSw); (obtain ⟨a0_0, a0_1, a0_2⟩ := (a0.call hSw).cells); (obtain ⟨a1_0, a1_1, a1_2, a1_3⟩ := (a1.callA hSw).cells); go_simp⟩) (by assumption) ?_
            (try simp only [Act.put]); (try simp only [List.setIfInBounds_toArray]); (try simp only [List.set_cons_zero, List.set_cons_succ])
            refine wpAnyH_ready (rs := [9]) (by kernel_rfl) (by simp) ?_
            refine (AllReadyH.cons rfl (fun K hK => ?_) AllReadyH.nil)
            · rw [if_pos (by kernel_rfl)]
              (try simp only [List.getElem_toArray]); (try simp only [List.getElem_cons_succ]); (try simp only [List.getElem_cons_zero])
              refine wp_store_im 28 size26 (.tmp 6) (.tmp 27) rfl bB 0 0 (.slice none 0 0) XR YR A_u2 LR.length c_u2 rfl (by first | with_reducible rfl | (go_simp; done) | rfl) GB ?_
              intro W3 IB hgB
              skip
              skip
              replace u2 := u2.kept hgB (ownA_ne nB)
              refine hK.out _ _ (hS.grown hgB hS.size (fun k hk => by injection hk with hk; omega)) (fun hS => ?_)
              clear hK
              (try simp only [Act.put]); (try simp only [List.setIfInBounds_toArray]); (try simp only [List.set_cons_zero, List.set_cons_succ])
              refine wpAnyH_take (i := 10) (v := .bool tR) rfl (by kernel_rfl) (by kernel_rfl) (by kernel_rfl) (fun _ _ _ h => h) (Or.inl ⟨by kernel_rfl, by intro w' hSw; (try dsimp only at hSw); (obtain ⟨a0_0, a0_1, a0_2⟩ := (a0.call hSw).cells); (obtain ⟨a1_0, a1_1, a1_2, a1_3⟩ := (a1.callA hSw).cells); go_simp⟩) (by assumption) ?_
              refine wpAnyH_done (by kernel_rfl) ?_ _
              go_wp2_with fail
              go_meet
              case rel => exact ⟨bB, _, _, _, rfl, rfl, ImV.made IB u2 kB nB, hS⟩
      · rw [if_pos (by kernel_rfl)]
        (try simp only [List.getElem_toArray]); (try simp only [List.getElem_cons_succ]); (try simp only [List.getElem_cons_zero])
        refine wp_alloc_im 28 zero26 6 rfl rfl ?_
        intro bB W' hb GB lB
        have kB := Nat.le_trans hS.size lB
        have u1 := ownI_call u1 hb
        refine hK.out _ _ (belI_call hS hb) (fun hS => ?_)
        clear hK
        (try simp only [Act.put]); (try simp only [List.setIfInBounds_toArray]); (try simp only [List.set_cons_zero, List.set_cons_succ])
        refine wpAnyH_ready (rs := [3]) (by kernel_rfl) (by simp) ?_
        refine (AllReadyH.cons rfl (fun K hK => ?_) AllReadyH.nil)
        · rw [if_pos (by kernel_rfl)]
          (try simp only [List.getElem_toArray]); (try simp only [List.getElem_cons_succ]); (try simp only [List.getElem_cons_zero])
          go_simp
          with_reducible refine (toRect_any r1 _).mono ?_
          rintro e W' ⟨rfl, hb⟩
          dsimp only
          have u1 := ownI_call u1 hb
          have GB := blk_call GB hb
          refine hK.out _ _ (belI_call hS hb) (fun hS => ?_)
          clear hK
          (try simp only [Act.put]); (try simp only [List.setIfInBounds_toArray]); (try simp only [List.set_cons_zero, List.set_cons_succ])
          refine wpAnyH_ready (rs := [4]) (by kernel_rfl) (by simp) ?_
          refine (AllReadyH.cons rfl (fun K hK => ?_) AllReadyH.nil)
          · rw [if_pos (by kernel_rfl)]
            (try simp only [List.getElem_toArray]); (try simp only [List.getElem_cons_succ]); (try simp only [List.getElem_cons_zero])
            go_simp
            with_reducible refine (HS.out _ _ (RdI.of_own u1)).mono ?_
            rintro e W' ⟨vo, rfl, u2, hb⟩
            obtain ⟨A_u2, c_u2, he⟩ := ownI_shape u2
            subst he
            have nB : ∀ k, (Value.slice A_u2 LR.length c_u2).ownBlock = some k → k ≠ bB := fun k hk => by have := (u2.lt k hk).1; have := (Array.getElem?_eq_some_iff.1 GB).1; omega
            replace u2 := u2.mono hS.size
            dsimp only
            have u1 := ownI_call u1 hb
            have GB := blk_call GB hb
            refine hK.out _ _ (belI_call hS hb) (fun hS => ?_)
            clear hK
            (try simp only [Act.put]); (try simp only [List.setIfInBounds_toArray]); (try simp only [List.set_cons_zero, List.set_cons_succ])
            refine wpAnyH_take (i := 5) (v := .tuple #[.agg #[.int .i64 XR, .int .i64 YR, .slice A_u2 LR.length c_u2], .bool tR]) rfl (by kernel_rfl) (by kernel_rfl) (by kernel_rfl) (fun _ _ _ h => h) (Or.inl ⟨by kernel_rfl, by intro w' hSw; (try dsimp only at hSw); (obtain ⟨a0_0, a0_1, a0_2⟩ := (a0.call hSw).cells); (obtain ⟨a1_0, a1_1, a1_2, a1_3⟩ := (a1.callA hSw).cells); go_simp⟩) (by assumption) ?_
            refine wpAnyH_take (i := 6) (v := .agg #[.int .i64 XR, .int .i64 YR, .slice A_u2 LR.length c_u2]) rfl (by kernel_rfl) (by kernel_rfl) (by kernel_rfl) (fun _ _ _ h => h) (Or.inl ⟨by kernel_rfl, by intro w' hSw; (try dsimp only at hSw); (obtain ⟨a0_0, a0_1, a0_2⟩ := (a0.call hSw).cells); (obtain ⟨a1_0, a1_1, a1_2, a1_3⟩ := (a1.callA hSw).cells); go_simp⟩) (by assumption) ?_
            refine wpAnyH_take (i := 7) (v := .bool tR) rfl (by kernel_rfl) (by kernel_rfl) (by kernel_rfl) (fun _ _ _ h => h) (Or.inl ⟨by kernel_rfl, by intro w' hSw; (try dsimp only at hSw); (obtain ⟨a0_0, a0_1, a0_2⟩ := (a0.call hSw).cells); (obtain ⟨a1_0, a1_1, a1_2, a1_3⟩ := (a1.callA hSw).cells); go_simp⟩) (by assumption) ?_
            (try simp only [Act.put]); (try simp only [List.setIfInBounds_toArray]); (try simp only [List.set_cons_zero, List.set_cons_succ])
            refine wpAnyH_ready (rs := [9]) (by kernel_rfl) (by simp) ?_
            refine (AllReadyH.cons rfl (fun K hK => ?_) AllReadyH.nil)
            · rw [if_pos (by kernel_rfl)]
              (try simp only [List.getElem_toArray]); (try simp only [List.getElem_cons_succ]); (try simp only [List.getElem_cons_zero])
              refine wp_store_im 28 size26 (.tmp 6) (.tmp 27) rfl bB 0 0 (.slice none 0 0) XR YR A_u2 LR.length c_u2 rfl (by first | with_reducible rfl | (go_simp; done) | rfl) GB ?_
              intro W3 IB hgB
              skip
              skip
              replace u2 := u2.kept hgB (ownA_ne nB)
              refine hK.out _ _ (hS.grown hgB hS.size (fun k hk => by injection hk with hk; omega)) (fun hS => ?_)
              clear hK
              (try simp only [Act.put]); (try simp only [List.setIfInBounds_toArray]); (try simp only [List.set_cons_zero, List.set_cons_succ])
              refine wpAnyH_take (i := 10) (v := .bool tR) rfl (by kernel_rfl) (by kernel_rfl) (by kernel_rfl) (fun _ _ _ h => h) (Or.inl ⟨by kernel_rfl, by intro w' hSw; (try dsimp only at hSw); (obtain ⟨a0_0, a0_1, a0_2⟩ := (a0.call hSw).cells); (obtain ⟨a1_0, a1_1, a1_2, a1_3⟩ := (a1.callA hSw).cells); go_simp⟩) (by assumption) ?_
              refine wpAnyH_done (by kernel_rfl) ?_ _
              go_wp2_with fail
              go_meet
              case rel => exact ⟨bB, _, _, _, rfl, rfl, ImV.made IB u2 kB nB, hS⟩
    · rw [if_pos (by kernel_rfl)]
      (try simp only [List.getElem_toArray]); (try simp only [List.getElem_cons_succ]); (try simp only [List.getElem_cons_zero])
      refine wp_alloc_im 28 zero26 6 rfl rfl ?_
      intro bB W' hb GB lB
      have kB := Nat.le_trans hS.size lB
      refine hK.out _ _ (belI_call hS hb) (fun hS => ?_)
      clear hK
      (try simp only [Act.put]); (try simp only [List.setIfInBounds_toArray]); (try simp only [List.set_cons_zero, List.set_cons_succ])
      refine wpAnyH_ready (rs := [1]) (by kernel_rfl) (by simp) ?_
      refine (AllReadyH.cons rfl (fun K hK => ?_) AllReadyH.nil)
      · rw [if_pos (by kernel_rfl)]
        (try simp only [List.getElem_toArray]); (try simp only [List.getElem_cons_succ]); (try simp only [List.getElem_cons_zero])
        go_simp
        with_reducible refine (toIm X0 Y0 _ L0 _ Hn0.out (a0.call hS).rd).mono ?_
        rintro e W' ⟨vo, rfl, u1, hb⟩
        obtain ⟨A_u1, c_u1, he⟩ := ownI_shape u1
        subst he
        dsimp only
        have GB := blk_call GB hb
        refine hK.out _ _ (belI_call hS hb) (fun hS => ?_)
        clear hK
        (try simp only [Act.put]); (try simp only [List.setIfInBounds_toArray]); (try simp only [List.set_cons_zero, List.set_cons_succ])
        refine wpAnyH_ready (rs := [3]) (by kernel_rfl) (by simp) ?_
        refine (AllReadyH.cons rfl (fun K hK => ?_) AllReadyH.nil)
        · rw [if_pos (by kernel_rfl)]
          (try simp only [List.getElem_toArray]); (try simp only [List.getElem_cons_succ]); (try simp only [List.getElem_cons_zero])
          go_simp
          with_reducible refine (toRect_any r1 _).mono ?_
          rintro e W' ⟨rfl, hb⟩
          dsimp only
          have GB := blk_call GB hb
          have u1 := ownI_call u1 hb
          refine hK.out _ _ (belI_call hS hb) (fun hS => ?_)
          clear hK
          (try simp only [Act.put]); (try simp only [List.setIfInBounds_toArray]); (try simp only [List.set_cons_zero, List.set_cons_succ])
          refine wpAnyH_ready (rs := [4]) (by kernel_rfl) (by simp) ?_
          refine (AllReadyH.cons rfl (fun K hK => ?_) AllReadyH.nil)
          · rw [if_pos (by kernel_rfl)]
            (try simp only [List.getElem_toArray]); (try simp only [List.getElem_cons_succ]); (try simp only [List.getElem_cons_zero])
            go_simp
            with_reducible refine (HS.out _ _ (RdI.of_own u1)).mono ?_
            rintro e W' ⟨vo, rfl, u2, hb⟩
            obtain ⟨A_u2, c_u2, he⟩ := ownI_shape u2
            subst he
            have nB : ∀ k, (Value.slice A_u2 LR.length c_u2).ownBlock = some k → k ≠ bB := fun k hk => by have := (u2.lt k hk).1; have := (Array.getElem?_eq_some_iff.1 GB).1; omega
            replace u2 := u2.mono hS.size
            dsimp only
            have GB := blk_call GB hb
            have u1 := ownI_call u1 hb
            refine hK.out _ _ (belI_call hS hb) (fun hS => ?_)
            clear hK
            (try simp only [Act.put]); (try simp only [List.setIfInBounds_toArray]); (try simp only [List.set_cons_zero, List.set_cons_succ])
            refine wpAnyH_take (i := 5) (v := .tuple #[.agg #[.int .i64 XR, .int .i64 YR, .slice A_u2 LR.length c_u2], .bool tR]) rfl (by kernel_rfl) (by kernel_rfl) (by kernel_rfl) (fun _ _ _ h => h) (Or.inl ⟨by kernel_rfl, by intro w' hSw; (try dsimp only at hSw); (obtain ⟨a0_0, a0_1, a0_2⟩ := (a0.call hSw).cells); (obtain ⟨a1_0, a1_1, a1_2, a1_3⟩ := (a1.callA hSw).cells); go_simp⟩) (by assumption) ?_
            refine wpAnyH_take (i := 6) (v := .agg #[.int .i64 XR, .int .i64 YR, .slice A_u2 LR.length c_u2]) rfl (by kernel_rfl) (by kernel_rfl) (by kernel_rfl) (fun _ _ _ h => h) (Or.inl ⟨by kernel_rfl, by intro w' hSw; (try dsimp only at hSw); (obtain ⟨a0_0, a0_1, a0_2⟩ := (a0.call hSw).cells); (obtain ⟨a1_0, a1_1, a1_2, a1_3⟩ := (a1.callA hSw).cells); go_simp⟩) (by assumption) ?_
            refine wpAnyH_take (i := 7) (v := .bool tR) rfl (by kernel_rfl) (by kernel_rfl) (by kernel_rfl) (fun _ _ _ h => h) (Or.inl ⟨by kernel_rfl, by intro w' hSw; (try dsimp only at hSw); (obtain ⟨a0_0, a0_1, a0_2⟩ := (a0.call hSw).cells); (obtain ⟨a1_0, a1_1, a1_2, a1_3⟩ := (a1.callA hSw).cells); go_simp⟩) (by assumption) ?_
            (try simp only [Act.put]); (try simp only [List.setIfInBounds_toArray]); (try simp only [List.set_cons_zero, List.set_cons_succ])
            refine wpAnyH_ready (rs := [9]) (by kernel_rfl) (by simp) ?_
            refine (AllReadyH.cons rfl (fun K hK => ?_) AllReadyH.nil)
            · rw [if_pos (by kernel_rfl)]
              (try simp only [List.getElem_toArray]); (try simp only [List.getElem_cons_succ]); (try simp only [List.getElem_cons_zero])
              refine wp_store_im 28 size26 (.tmp 6) (.tmp 27) rfl bB 0 0 (.slice none 0 0) XR YR A_u2 LR.length c_u2 rfl (by first | with_reducible rfl | (go_simp; done) | rfl) GB ?_
              intro W3 IB hgB
              skip
              skip
              replace u2 := u2.kept hgB (ownA_ne nB)
              refine hK.out _ _ (hS.grown hgB hS.size (fun k hk => by injection hk with hk; omega)) (fun hS => ?_)
              clear hK
              (try simp only [Act.put]); (try simp only [List.setIfInBounds_toArray]); (try simp only [List.set_cons_zero, List.set_cons_succ])
              refine wpAnyH_take (i := 10) (v := .bool tR) rfl (by kernel_rfl) (by kernel_rfl) (by kernel_rfl) (fun _ _ _ h => h) (Or.inl ⟨by kernel_rfl, by intro w' hSw; (try dsimp only at hSw); (obtain ⟨a0_0, a0_1, a0_2⟩ := (a0.call hSw).cells); (obtain ⟨a1_0, a1_1, a1_2, a1_3⟩ := (a1.callA hSw).cells); go_simp⟩) (by assumption) ?_
              refine wpAnyH_done (by kernel_rfl) ?_ _
              go_wp2_with fail
              go_meet
              case rel => exact ⟨bB, _, _, _, rfl, rfl, ImV.made IB u2 kB nB, hS⟩
  case rest =>
    obtain ⟨b_V3, hi_V3, A_V3, c_V3, rfl, rfl, V3, hb⟩ := hcut
    obtain ⟨w3, hWy⟩ : ∃ w3, w3 = wc := ⟨_, rfl⟩
    subst hWy
    have hlo_V3 := Lib.hid Kw.size
    have hl_a0_V3 := Lib.hid a0.lt
    have hl_a1_V3 := Lib.hid a1.lt
    replace a0 := a0.call hb
    replace a1 := a1.callA hb
    replace Kw := belI_call Kw hb
    clear hb
    obtain ⟨a0_0, a0_1, a0_2⟩ := a0.cells
    obtain ⟨a1_0, a1_1, a1_2, a1_3⟩ := a1.cells
    obtain ⟨V3_0, V3_1, V3_2⟩ := V3.cells
    go_wp2_with fail
    clear a0_0 a0_1 a0_2 a1_0 a1_1 a1_2 a1_3 V3_0 V3_1 V3_2
    refine (toIm X0 Y0 _ L0 _ Hn0.out a0.rd).mono ?_
    rintro e w4 ⟨vo, rfl, u4, hb⟩
    obtain ⟨A_u4, c_u4, he⟩ := ownI_shape u4
    subst he
    have hs_V3_V5 := Lib.hid V3.hs
    have hlo_V5 := Lib.hid Kw.size
    have hl_a0_V5 := Lib.hid a0.lt
    have hl_a1_V5 := Lib.hid a1.lt
    have V5 := ImV.born (X := X0) (Y := Y0) hb u4
    replace hb := belI_call hb (belI_box w4 (.cells #[.int .i64 X0, .int .i64 Y0, .slice A_u4 L0.length c_u4] 28))
    replace a0 := a0.call hb
    replace a1 := a1.callA hb
    replace V3 := V3.call hb
    replace Kw := belI_call Kw hb
    clear hb u4
    obtain ⟨a0_0, a0_1, a0_2⟩ := a0.cells
    obtain ⟨a1_0, a1_1, a1_2, a1_3⟩ := a1.cells
    obtain ⟨V3_0, V3_1, V3_2⟩ := V3.cells
    obtain ⟨V5_0, V5_1, V5_2⟩ := V5.cells
    go_upto_region 7 with fail
    clear a0_0 a0_1 a0_2 a1_0 a1_1 a1_2 a1_3 V3_0 V3_1 V3_2 V5_0 V5_1 V5_2
    obtain ⟨wx7, hWx⟩ : ∃ wx7, wx7 = (w4.alloc (.cells #[.int .i64 X0, .int .i64 Y0, .slice A_u4 L0.length c_u4] 28)) := ⟨_, rfl⟩
    rw [← hWx]
    rw [← hWx] at Kw a0 a1 V3 V5
    clear hWx
    go_cut [9, 10] (fun s9 t10 wx => ∃ (b hi : Nat) (A : Option Addr) (c : Nat), s9 = .pointer (some ⟨b, 0, none⟩) ∧ t10 = .bool tR ∧ ImV wx7.heap.size hi b XR YR (.slice A LR.length c) LR wx ∧ Below wx7.heap.size wx7 wx)
    case first =>
      refine wp_region_held_drew (S := fun W => Below wx7.heap.size wx7 W) (by kernel_rfl) (Below.refl _ _).drew (fun hS => ?_)
      refine wpAnyH_take (i := 0) (v := .agg #[.int .i64 X0, .int .i64 Y0, .slice A_u4 L0.length c_u4]) rfl (by kernel_rfl) (by kernel_rfl) (by kernel_rfl) (fun _ _ _ h => h) (Or.inl ⟨by kernel_rfl, by intro w' hSw; (try dsimp only at hSw); (obtain ⟨a0_0, a0_1, a0_2⟩ := (a0.call hSw).cells); (obtain ⟨a1_0, a1_1, a1_2, a1_3⟩ := (a1.callA hSw).cells); (obtain ⟨V3_0, V3_1, V3_2⟩ := (V3.call hSw).cells); (obtain ⟨V5_0, V5_1, V5_2⟩ := (V5.call hSw).cells); go_simp⟩) (by assumption) ?_
      refine wpAnyH_take (i := 1) (v := .agg #[.int .i64 r1.x, .int .i64 r1.y, .int .i64 r1.w, .int .i64 r1.h]) rfl (by kernel_rfl) (by kernel_rfl) (by kernel_rfl) (fun _ _ _ h => h) (Or.inl ⟨by kernel_rfl, by intro w' hSw; (try dsimp only at hSw); (obtain ⟨a0_0, a0_1, a0_2⟩ := (a0.call hSw).cells); (obtain ⟨a1_0, a1_1, a1_2, a1_3⟩ := (a1.callA hSw).cells); (obtain ⟨V3_0, V3_1, V3_2⟩ := (V3.call hSw).cells); (obtain ⟨V5_0, V5_1, V5_2⟩ := (V5.call hSw).cells); go_simp⟩) (by assumption) ?_
      (try simp only [Act.put]); (try simp only [List.setIfInBounds_toArray]); (try simp only [List.set_cons_zero, List.set_cons_succ])
      refine wpAnyH_ready (rs := [2, 7]) (by kernel_rfl) (by simp) ?_
      refine (AllReadyH.cons rfl (fun K hK => ?_) (AllReadyH.cons rfl (fun K hK => ?_) AllReadyH.nil))
      · rw [if_pos (by kernel_rfl)]
        (try simp only [List.getElem_toArray]); (try simp only [List.getElem_cons_succ]); (try simp only [List.getElem_cons_zero])
        go_simp
        with_reducible refine (toRect_any r1 _).mono ?_
        rintro e W' ⟨rfl, hb⟩
        dsimp only
        refine hK.out _ _ (belI_call hS hb) (fun hS => ?_)
        clear hK
        (try simp only [Act.put]); (try simp only [List.setIfInBounds_toArray]); (try simp only [List.set_cons_zero, List.set_cons_succ])
        refine wpAnyH_ready (rs := [3, 7]) (by kernel_rfl) (by simp) ?_
        refine (AllReadyH.cons rfl (fun K hK => ?_) (AllReadyH.cons rfl (fun K hK => ?_) AllReadyH.nil))
        · rw [if_pos (by kernel_rfl)]
          (try simp only [List.getElem_toArray]); (try simp only [List.getElem_cons_succ]); (try simp only [List.getElem_cons_zero])
          go_simp
          with_reducible refine (HI.out _ _ (V5.call hS).rd).mono ?_
          rintro e W' ⟨vo, rfl, u6, hb⟩
          obtain ⟨A_u6, c_u6, he⟩ := ownI_shape u6
          subst he
          replace u6 := u6.mono hS.size
          dsimp only
          refine hK.out _ _ (belI_call hS hb) (fun hS => ?_)
          clear hK
          (try simp only [Act.put]); (try simp only [List.setIfInBounds_toArray]); (try simp only [List.set_cons_zero, List.set_cons_succ])
          refine wpAnyH_take (i := 4) (v := .tuple #[.agg #[.int .i64 XR, .int .i64 YR, .slice A_u6 LR.length c_u6], .bool tR]) rfl (by kernel_rfl) (by kernel_rfl) (by kernel_rfl) (fun _ _ _ h => h) (Or.inl ⟨by kernel_rfl, by intro w' hSw; (try dsimp only at hSw); (obtain ⟨a0_0, a0_1, a0_2⟩ := (a0.call hSw).cells); (obtain ⟨a1_0, a1_1, a1_2, a1_3⟩ := (a1.callA hSw).cells); (obtain ⟨V3_0, V3_1, V3_2⟩ := (V3.call hSw).cells); (obtain ⟨V5_0, V5_1, V5_2⟩ := (V5.call hSw).cells); go_simp⟩) (by assumption) ?_
          refine wpAnyH_take (i := 5) (v := .agg #[.int .i64 XR, .int .i64 YR, .slice A_u6 LR.length c_u6]) rfl (by kernel_rfl) (by kernel_rfl) (by kernel_rfl) (fun _ _ _ h => h) (Or.inl ⟨by kernel_rfl, by intro w' hSw; (try dsimp only at hSw); (obtain ⟨a0_0, a0_1, a0_2⟩ := (a0.call hSw).cells); (obtain ⟨a1_0, a1_1, a1_2, a1_3⟩ := (a1.callA hSw).cells); (obtain ⟨V3_0, V3_1, V3_2⟩ := (V3.call hSw).cells); (obtain ⟨V5_0, V5_1, V5_2⟩ := (V5.call hSw).cells); go_simp⟩) (by assumption) ?_
          refine wpAnyH_take (i := 6) (v := .bool tR) rfl (by kernel_rfl) (by kernel_rfl) (by kernel_rfl) (fun _ _ _ h => h) (Or.inl ⟨by kernel_rfl, by intro w' hSw; (try dsimp only at hSw); (obtain ⟨a0_0, a0_1, a0_2⟩ := (a0.call hSw).cells); (obtain ⟨a1_0, a1_1, a1_2, a1_3⟩ := (a1.callA hSw).cells); (obtain ⟨V3_0, V3_1, V3_2⟩ := (V3.call hSw).cells); (obtain ⟨V5_0, V5_1, V5_2⟩ := (V5.call hSw).cells); go_simp⟩) (by assumption) ?_
          (try simp only [Act.put]); (try simp only [List.setIfInBounds_toArray]); (try simp only [List.set_cons_zero, List.set_cons_succ])
          refine wpAnyH_ready (rs := [7]) (by kernel_rfl) (by simp) ?_
          refine (AllReadyH.cons rfl (fun K hK => ?_) AllReadyH.nil)
          · rw [if_pos (by kernel_rfl)]
            (try simp only [List.getElem_toArray]); (try simp only [List.getElem_cons_succ]); (try simp only [List.getElem_cons_zero])
            refine wp_alloc_im 28 zero26 9 rfl rfl ?_
            intro bB W' hb GB lB
            have kB := Nat.le_trans hS.size lB
            have nB : ∀ k, (Value.slice A_u6 LR.length c_u6).ownBlock = some k → k ≠ bB := fun k hk => by have := (u6.lt k hk).2; omega
            have u6 := ownI_call u6 hb
            refine hK.out _ _ (belI_call hS hb) (fun hS => ?_)
            clear hK
            (try simp only [Act.put]); (try simp only [List.setIfInBounds_toArray]); (try simp only [List.set_cons_zero, List.set_cons_succ])
            refine wpAnyH_ready (rs := [8]) (by kernel_rfl) (by simp) ?_
            refine (AllReadyH.cons rfl (fun K hK => ?_) AllReadyH.nil)
            · rw [if_pos (by kernel_rfl)]
              (try simp only [List.getElem_toArray]); (try simp only [List.getElem_cons_succ]); (try simp only [List.getElem_cons_zero])
              refine wp_store_im 28 size26 (.tmp 9) (.tmp 36) rfl bB 0 0 (.slice none 0 0) XR YR A_u6 LR.length c_u6 rfl (by first | with_reducible rfl | (go_simp; done) | rfl) GB ?_
              intro W3 IB hgB
              replace u6 := u6.kept hgB (ownA_ne nB)
              skip
              refine hK.out _ _ (hS.grown hgB hS.size (fun k hk => by injection hk with hk; omega)) (fun hS => ?_)
              clear hK
              (try simp only [Act.put]); (try simp only [List.setIfInBounds_toArray]); (try simp only [List.set_cons_zero, List.set_cons_succ])
              refine wpAnyH_take (i := 9) (v := .bool tR) rfl (by kernel_rfl) (by kernel_rfl) (by kernel_rfl) (fun _ _ _ h => h) (Or.inl ⟨by kernel_rfl, by intro w' hSw; (try dsimp only at hSw); (obtain ⟨a0_0, a0_1, a0_2⟩ := (a0.call hSw).cells); (obtain ⟨a1_0, a1_1, a1_2, a1_3⟩ := (a1.callA hSw).cells); (obtain ⟨V3_0, V3_1, V3_2⟩ := (V3.call hSw).cells); (obtain ⟨V5_0, V5_1, V5_2⟩ := (V5.call hSw).cells); go_simp⟩) (by assumption) ?_
              refine wpAnyH_done (by kernel_rfl) ?_ _
              go_wp2_with fail
              go_meet
              case rel => exact ⟨bB, _, _, _, rfl, rfl, ImV.made IB u6 kB nB, hS⟩
        · rw [if_pos (by kernel_rfl)]
          (try simp only [List.getElem_toArray]); (try simp only [List.getElem_cons_succ]); (try simp only [List.getElem_cons_zero])
          refine wp_alloc_im 28 zero26 9 rfl rfl ?_
          intro bB W' hb GB lB
          have kB := Nat.le_trans hS.size lB
          refine hK.out _ _ (belI_call hS hb) (fun hS => ?_)
          clear hK
          (try simp only [Act.put]); (try simp only [List.setIfInBounds_toArray]); (try simp only [List.set_cons_zero, List.set_cons_succ])
          refine wpAnyH_ready (rs := [3]) (by kernel_rfl) (by simp) ?_
          refine (AllReadyH.cons rfl (fun K hK => ?_) AllReadyH.nil)
          · rw [if_pos (by kernel_rfl)]
            (try simp only [List.getElem_toArray]); (try simp only [List.getElem_cons_succ]); (try simp only [List.getElem_cons_zero])
            go_simp
            with_reducible refine (HI.out _ _ (V5.call hS).rd).mono ?_
            rintro e W' ⟨vo, rfl, u6, hb⟩
            obtain ⟨A_u6, c_u6, he⟩ := ownI_shape u6
            subst he
            have nB : ∀ k, (Value.slice A_u6 LR.length c_u6).ownBlock = some k → k ≠ bB := fun k hk => by have := (u6.lt k hk).1; have := (Array.getElem?_eq_some_iff.1 GB).1; omega
            replace u6 := u6.mono hS.size
            dsimp only
            have GB := blk_call GB hb
            refine hK.out _ _ (belI_call hS hb) (fun hS => ?_)
            clear hK
            (try simp only [Act.put]); (try simp only [List.setIfInBounds_toArray]); (try simp only [List.set_cons_zero, List.set_cons_succ])
            refine wpAnyH_take (i := 4) (v := .tuple #[.agg #[.int .i64 XR, .int .i64 YR, .slice A_u6 LR.length c_u6], .bool tR]) rfl (by kernel_rfl) (by kernel_rfl) (by kernel_rfl) (fun _ _ _ h => h) (Or.inl ⟨by kernel_rfl, by intro w' hSw; (try dsimp only at hSw); (obtain ⟨a0_0, a0_1, a0_2⟩ := (a0.call hSw).cells); (obtain ⟨a1_0, a1_1, a1_2, a1_3⟩ := (a1.callA hSw).cells); (obtain ⟨V3_0, V3_1, V3_2⟩ := (V3.call hSw).cells); (obtain ⟨V5_0, V5_1, V5_2⟩ := (V5.call hSw).cells); go_simp⟩) (by assumption) ?_
            refine wpAnyH_take (i := 5) (v := .agg #[.int .i64 XR, .int .i64 YR, .slice A_u6 LR.length c_u6]) rfl (by kernel_rfl) (by kernel_rfl) (by kernel_rfl) (fun _ _ _ h => h) (Or.inl ⟨by kernel_rfl, by intro w' hSw; (try dsimp only at hSw); (obtain ⟨a0_0, a0_1, a0_2⟩ := (a0.call hSw).cells); (obtain ⟨a1_0, a1_1, a1_2, a1_3⟩ := (a1.callA hSw).cells); (obtain ⟨V3_0, V3_1, V3_2⟩ := (V3.call hSw).cells); (obtain ⟨V5_0, V5_1, V5_2⟩ := (V5.call hSw).cells); go_simp⟩) (by assumption) ?_
            refine wpAnyH_take (i := 6) (v := .bool tR) rfl (by kernel_rfl) (by kernel_rfl) (by kernel_rfl) (fun _ _ _ h => h) (Or.inl ⟨by kernel_rfl, by intro w' hSw; (try dsimp only at hSw); (obtain ⟨a0_0, a0_1, a0_2⟩ := (a0.call hSw).cells); (obtain ⟨a1_0, a1_1, a1_2, a1_3⟩ := (a1.callA hSw).cells); (obtain ⟨V3_0, V3_1, V3_2⟩ := (V3.call hSw).cells); (obtain ⟨V5_0, V5_1, V5_2⟩ := (V5.call hSw).cells); go_simp⟩) (by assumption) ?_
            (try simp only [Act.put]); (try simp only [List.setIfInBounds_toArray]); (try simp only [List.set_cons_zero, List.set_cons_succ])
            refine wpAnyH_ready (rs := [8]) (by kernel_rfl) (by simp) ?_
            refine (AllReadyH.cons rfl (fun K hK => ?_) AllReadyH.nil)
            · rw [if_pos (by kernel_rfl)]
              (try simp only [List.getElem_toArray]); (try simp only [List.getElem_cons_succ]); (try simp only [List.getElem_cons_zero])
              refine wp_store_im 28 size26 (.tmp 9) (.tmp 36) rfl bB 0 0 (.slice none 0 0) XR YR A_u6 LR.length c_u6 rfl (by first | with_reducible rfl | (go_simp; done) | rfl) GB ?_
              intro W3 IB hgB
              skip
              replace u6 := u6.kept hgB (ownA_ne nB)
              refine hK.out _ _ (hS.grown hgB hS.size (fun k hk => by injection hk with hk; omega)) (fun hS => ?_)
              clear hK
              (try simp only [Act.put]); (try simp only [List.setIfInBounds_toArray]); (try simp only [List.set_cons_zero, List.set_cons_succ])
              refine wpAnyH_take (i := 9) (v := .bool tR) rfl (by kernel_rfl) (by kernel_rfl) (by kernel_rfl) (fun _ _ _ h => h) (Or.inl ⟨by kernel_rfl, by intro w' hSw; (try dsimp only at hSw); (obtain ⟨a0_0, a0_1, a0_2⟩ := (a0.call hSw).cells); (obtain ⟨a1_0, a1_1, a1_2, a1_3⟩ := (a1.callA hSw).cells); (obtain ⟨V3_0, V3_1, V3_2⟩ := (V3.call hSw).cells); (obtain ⟨V5_0, V5_1, V5_2⟩ := (V5.call hSw).cells); go_simp⟩) (by assumption) ?_
              refine wpAnyH_done (by kernel_rfl) ?_ _
              go_wp2_with fail
              go_meet
              case rel => exact ⟨bB, _, _, _, rfl, rfl, ImV.made IB u6 kB nB, hS⟩
      · rw [if_pos (by kernel_rfl)]
        (try simp only [List.getElem_toArray]); (try simp only [List.getElem_cons_succ]); (try simp only [List.getElem_cons_zero])
        refine wp_alloc_im 28 zero26 9 rfl rfl ?_
        intro bB W' hb GB lB
        have kB := Nat.le_trans hS.size lB
        refine hK.out _ _ (belI_call hS hb) (fun hS => ?_)
        clear hK
        (try simp only [Act.put]); (try simp only [List.setIfInBounds_toArray]); (try simp only [List.set_cons_zero, List.set_cons_succ])
        refine wpAnyH_ready (rs := [2]) (by kernel_rfl) (by simp) ?_
        refine (AllReadyH.cons rfl (fun K hK => ?_) AllReadyH.nil)
        · rw [if_pos (by kernel_rfl)]
          (try simp only [List.getElem_toArray]); (try simp only [List.getElem_cons_succ]); (try simp only [List.getElem_cons_zero])
          go_simp
          with_reducible refine (toRect_any r1 _).mono ?_
          rintro e W' ⟨rfl, hb⟩
          dsimp only
          have GB := blk_call GB hb
          refine hK.out _ _ (belI_call hS hb) (fun hS => ?_)
          clear hK
          (try simp only [Act.put]); (try simp only [List.setIfInBounds_toArray]); (try simp only [List.set_cons_zero, List.set_cons_succ])
          refine wpAnyH_ready (rs := [3]) (by kernel_rfl) (by simp) ?_
          refine (AllReadyH.cons rfl (fun K hK => ?_) AllReadyH.nil)
          · rw [if_pos (by kernel_rfl)]
            (try simp only [List.getElem_toArray]); (try simp only [List.getElem_cons_succ]); (try simp only [List.getElem_cons_zero])
            go_simp
            with_reducible refine (HI.out _ _ (V5.call hS).rd).mono ?_
            rintro e W' ⟨vo, rfl, u6, hb⟩
            obtain ⟨A_u6, c_u6, he⟩ := ownI_shape u6
            subst he
            have nB : ∀ k, (Value.slice A_u6 LR.length c_u6).ownBlock = some k → k ≠ bB := fun k hk => by have := (u6.lt k hk).1; have := (Array.getElem?_eq_some_iff.1 GB).1; omega
            replace u6 := u6.mono hS.size
            dsimp only
            have GB := blk_call GB hb
            refine hK.out _ _ (belI_call hS hb) (fun hS => ?_)
            clear hK
            (try simp only [Act.put]); (try simp only [List.setIfInBounds_toArray]); (try simp only [List.set_cons_zero, List.set_cons_succ])
            refine wpAnyH_take (i := 4) (v := .tuple #[.agg #[.int .i64 XR, .int .i64 YR, .slice A_u6 LR.length c_u6], .bool tR]) rfl (by kernel_rfl) (by kernel_rfl) (by kernel_rfl) (fun _ _ _ h => h) (Or.inl ⟨by kernel_rfl, by intro w' hSw; (try dsimp only at hSw); (obtain ⟨a0_0, a0_1, a0_2⟩ := (a0.call hSw).cells); (obtain ⟨a1_0, a1_1, a1_2, a1_3⟩ := (a1.callA hSw).cells); (obtain ⟨V3_0, V3_1, V3_2⟩ := (V3.call hSw).cells); (obtain ⟨V5_0, V5_1, V5_2⟩ := (V5.call hSw).cells); go_simp⟩) (by assumption) ?_
            refine wpAnyH_take (i := 5) (v := .agg #[.int .i64 XR, .int .i64 YR, .slice A_u6 LR.length c_u6]) rfl (by kernel_rfl) (by kernel_rfl) (by kernel_rfl) (fun _ _ _ h => h) (Or.inl ⟨by kernel_rfl, by intro w' hSw; (try dsimp only at hSw); (obtain ⟨a0_0, a0_1, a0_2⟩ := (a0.call hSw).cells); (obtain ⟨a1_0, a1_1, a1_2, a1_3⟩ := (a1.callA hSw).cells); (obtain ⟨V3_0, V3_1, V3_2⟩ := (V3.call hSw).cells); (obtain ⟨V5_0, V5_1, V5_2⟩ := (V5.call hSw).cells); go_simp⟩) (by assumption) ?_
            refine wpAnyH_take (i := 6) (v := .bool tR) rfl (by kernel_rfl) (by kernel_rfl) (by kernel_rfl) (fun _ _ _ h => h) (Or.inl ⟨by kernel_rfl, by intro w' hSw; (try dsimp only at hSw); (obtain ⟨a0_0, a0_1, a0_2⟩ := (a0.call hSw).cells); (obtain ⟨a1_0, a1_1, a1_2, a1_3⟩ := (a1.callA hSw).cells); (obtain ⟨V3_0, V3_1, V3_2⟩ := (V3.call hSw).cells); (obtain ⟨V5_0, V5_1, V5_2⟩ := (V5.call hSw).cells); go_simp⟩) (by assumption) ?_
            (try simp only [Act.put]); (try simp only [List.setIfInBounds_toArray]); (try simp only [List.set_cons_zero, List.set_cons_succ])
            refine wpAnyH_ready (rs := [8]) (by kernel_rfl) (by simp) ?_
            refine (AllReadyH.cons rfl (fun K hK => ?_) AllReadyH.nil)
            · rw [if_pos (by kernel_rfl)]
              (try simp only [List.getElem_toArray]); (try simp only [List.getElem_cons_succ]); (try simp only [List.getElem_cons_zero])
              refine wp_store_im 28 size26 (.tmp 9) (.tmp 36) rfl bB 0 0 (.slice none 0 0) XR YR A_u6 LR.length c_u6 rfl (by first | with_reducible rfl | (go_simp; done) | rfl) GB ?_
              intro W3 IB hgB
              skip
              replace u6 := u6.kept hgB (ownA_ne nB)
              refine hK.out _ _ (hS.grown hgB hS.size (fun k hk => by injection hk with hk; omega)) (fun hS => ?_)
              clear hK
              (try simp only [Act.put]); (try simp only [List.setIfInBounds_toArray]); (try simp only [List.set_cons_zero, List.set_cons_succ])
              refine wpAnyH_take (i := 9) (v := .bool tR) rfl (by kernel_rfl) (by kernel_rfl) (by kernel_rfl) (fun _ _ _ h => h) (Or.inl ⟨by kernel_rfl, by intro w' hSw; (try dsimp only at hSw); (obtain ⟨a0_0, a0_1, a0_2⟩ := (a0.call hSw).cells); (obtain ⟨a1_0, a1_1, a1_2, a1_3⟩ := (a1.callA hSw).cells); (obtain ⟨V3_0, V3_1, V3_2⟩ := (V3.call hSw).cells); (obtain ⟨V5_0, V5_1, V5_2⟩ := (V5.call hSw).cells); go_simp⟩) (by assumption) ?_
              refine wpAnyH_done (by kernel_rfl) ?_ _
              go_wp2_with fail
              go_meet
              case rel => exact ⟨bB, _, _, _, rfl, rfl, ImV.made IB u6 kB nB, hS⟩
    case rest =>
      obtain ⟨b_V7, hi_V7, A_V7, c_V7, rfl, rfl, V7, hb⟩ := hcut
      obtain ⟨w5, hWy⟩ : ∃ w5, w5 = wc := ⟨_, rfl⟩
      subst hWy
      have hs_V3_V7 := Lib.hid V3.hs
      have hs_V5_V7 := Lib.hid V5.hs
      have hlo_V7 := Lib.hid Kw.size
      have hl_a0_V7 := Lib.hid a0.lt
      have hl_a1_V7 := Lib.hid a1.lt
      replace a0 := a0.call hb
      replace a1 := a1.callA hb
      replace V3 := V3.call hb
      replace V5 := V5.call hb
      replace Kw := belI_call Kw hb
      clear hb
      obtain ⟨a0_0, a0_1, a0_2⟩ := a0.cells
      obtain ⟨a1_0, a1_1, a1_2, a1_3⟩ := a1.cells
      obtain ⟨V3_0, V3_1, V3_2⟩ := V3.cells
      obtain ⟨V5_0, V5_1, V5_2⟩ := V5.cells
      obtain ⟨V7_0, V7_1, V7_2⟩ := V7.cells
      go_wp2_with fail
      clear a0_0 a0_1 a0_2 a1_0 a1_1 a1_2 a1_3 V3_0 V3_1 V3_2 V5_0 V5_1 V5_2 V7_0 V7_1 V7_2
      refine (eqIm_same _ _ _ _ LR _ V7.rd V3.rd).mono ?_
      rintro e w6 ⟨rfl, hb⟩
      replace a0 := a0.call hb
      replace a1 := a1.callA hb
      replace V3 := V3.call hb
      replace V5 := V5.call hb
      replace V7 := V7.call hb
      replace Kw := belI_call Kw hb
      clear hb
      obtain ⟨a0_0, a0_1, a0_2⟩ := a0.cells
      obtain ⟨a1_0, a1_1, a1_2, a1_3⟩ := a1.cells
      obtain ⟨V3_0, V3_1, V3_2⟩ := V3.cells
      obtain ⟨V5_0, V5_1, V5_2⟩ := V5.cells
      obtain ⟨V7_0, V7_1, V7_2⟩ := V7.cells
      go_upto_region 10 with fail
      clear a0_0 a0_1 a0_2 a1_0 a1_1 a1_2 a1_3 V3_0 V3_1 V3_2 V5_0 V5_1 V5_2 V7_0 V7_1 V7_2
      refine wp_region_held_drew (S := fun W => Below w6.heap.size w6 W) (by kernel_rfl) (Below.refl _ _).drew (fun hS => ?_)
      refine wpAnyH_take (i := 0) (v := .agg #[.int .i64 X0, .int .i64 Y0, .slice A_u4 L0.length c_u4]) rfl (by kernel_rfl) (by kernel_rfl) (by kernel_rfl) (fun _ _ _ h => h) (Or.inl ⟨by kernel_rfl, by intro w' hSw; (try dsimp only at hSw); (obtain ⟨a0_0, a0_1, a0_2⟩ := (a0.call hSw).cells); (obtain ⟨a1_0, a1_1, a1_2, a1_3⟩ := (a1.callA hSw).cells); (obtain ⟨V3_0, V3_1, V3_2⟩ := (V3.call hSw).cells); (obtain ⟨V5_0, V5_1, V5_2⟩ := (V5.call hSw).cells); (obtain ⟨V7_0, V7_1, V7_2⟩ := (V7.call hSw).cells); go_simp⟩) (by assumption) ?_
      refine wpAnyH_take (i := 1) (v := .agg #[.int .i64 X0, .int .i64 Y0, .slice A0 L0.length c0]) rfl (by kernel_rfl) (by kernel_rfl) (by kernel_rfl) (fun _ _ _ h => h) (Or.inl ⟨by kernel_rfl, by intro w' hSw; (try dsimp only at hSw); (obtain ⟨a0_0, a0_1, a0_2⟩ := (a0.call hSw).cells); (obtain ⟨a1_0, a1_1, a1_2, a1_3⟩ := (a1.callA hSw).cells); (obtain ⟨V3_0, V3_1, V3_2⟩ := (V3.call hSw).cells); (obtain ⟨V5_0, V5_1, V5_2⟩ := (V5.call hSw).cells); (obtain ⟨V7_0, V7_1, V7_2⟩ := (V7.call hSw).cells); go_simp⟩) (by assumption) ?_
      (try simp only [Act.put]); (try simp only [List.setIfInBounds_toArray]); (try simp only [List.set_cons_zero, List.set_cons_succ])
      refine wpAnyH_ready (rs := [2]) (by kernel_rfl) (by simp) ?_
      refine (AllReadyH.cons rfl (fun K hK => ?_) AllReadyH.nil)
      · rw [if_pos (by kernel_rfl)]
        (try simp only [List.getElem_toArray]); (try simp only [List.getElem_cons_succ]); (try simp only [List.getElem_cons_zero])
        go_simp
        with_reducible refine (toIm X0 Y0 _ L0 _ Hn0.out (a0.call hS).rd).mono ?_
        rintro e W' ⟨vo, rfl, u8, hb⟩
        obtain ⟨A_u8, c_u8, he⟩ := ownI_shape u8
        subst he
        dsimp only
        refine hK.out _ _ (belI_call hS hb) (fun hS => ?_)
        clear hK
        (try simp only [Act.put]); (try simp only [List.setIfInBounds_toArray]); (try simp only [List.set_cons_zero, List.set_cons_succ])
        refine wpAnyH_ready (rs := [3]) (by kernel_rfl) (by simp) ?_
        refine (AllReadyH.cons rfl (fun K hK => ?_) AllReadyH.nil)
        · rw [if_pos (by kernel_rfl)]
          (try simp only [List.getElem_toArray]); (try simp only [List.getElem_cons_succ]); (try simp only [List.getElem_cons_zero])
          go_simp
          with_reducible refine (eqIm_same _ _ _ _ L0 _ (V5.call hS).rd (RdI.of_own u8)).mono ?_
          rintro e W' ⟨rfl, hb⟩
          dsimp only
          have u8 := ownI_call u8 hb
          refine hK.out _ _ (belI_call hS hb) (fun hS => ?_)
          clear hK
          (try simp only [Act.put]); (try simp only [List.setIfInBounds_toArray]); (try simp only [List.set_cons_zero, List.set_cons_succ])
          refine wpAnyH_take (i := 4) (v := .bool false) rfl (by kernel_rfl) (by kernel_rfl) (by kernel_rfl) (fun _ _ _ h => h) (Or.inl ⟨by kernel_rfl, by intro w' hSw; (try dsimp only at hSw); (obtain ⟨a0_0, a0_1, a0_2⟩ := (a0.call hSw).cells); (obtain ⟨a1_0, a1_1, a1_2, a1_3⟩ := (a1.callA hSw).cells); (obtain ⟨V3_0, V3_1, V3_2⟩ := (V3.call hSw).cells); (obtain ⟨V5_0, V5_1, V5_2⟩ := (V5.call hSw).cells); (obtain ⟨V7_0, V7_1, V7_2⟩ := (V7.call hSw).cells); go_simp⟩) (by assumption) ?_
          refine wpAnyH_done (by kernel_rfl) ?_ _
          have hb := hS
          replace a0 := a0.call hb
          replace a1 := a1.callA hb
          replace V3 := V3.call hb
          replace V5 := V5.call hb
          replace V7 := V7.call hb
          replace Kw := belI_call Kw hb
          clear hb hS
          clear u8
          obtain ⟨w7, hWy⟩ : ∃ w7, w7 = W' := ⟨_, rfl⟩
          subst hWy
          obtain ⟨a0_0, a0_1, a0_2⟩ := a0.cells
          obtain ⟨a1_0, a1_1, a1_2, a1_3⟩ := a1.cells
          obtain ⟨V3_0, V3_1, V3_2⟩ := V3.cells
          obtain ⟨V5_0, V5_1, V5_2⟩ := V5.cells
          obtain ⟨V7_0, V7_1, V7_2⟩ := V7.cells
          go_wp2_with fail
          clear a0_0 a0_1 a0_2 a1_0 a1_1 a1_2 a1_3 V3_0 V3_1 V3_2 V5_0 V5_1 V5_2 V7_0 V7_1 V7_2
          refine (markImI _ X0 Y0 _ L0 (1) _ _ (by omega) (by omega) V5.own).mono ?_
          rintro e w8 ⟨rfl, hown, hg⟩
          replace Kw := belI_mark Kw V5 (by have := hlo_V5.out; omega) hg
          replace a0 : ImA _ _ _ _ _ _ := ⟨a0.at_.grown hg (fun e => by have := (V5.row _ e.symm).1; have := hl_a0_V5.out; omega), O0.out.call Kw⟩
          replace a1 : LcAt _ _ _ := lc_other a1 hg (fun e => by have := (V5.row _ e.symm).1; have := hl_a1_V5.out; omega)
          replace V3 := V3.other hg (fun k hk => by have := V5.row k hk; have := hs_V3_V5.out; omega)
          replace V7 := V7.other hg (fun k hk => by have := V5.row k hk; have := hs_V5_V7.out; omega)
          replace V5 := V5.mark hown (marksI_length _ _) hg
          clear hown hg
          have hk_w8 : ¬ ((1 + L0.length : Nat) : Int) < 0 := by omega
          obtain ⟨a0_0, a0_1, a0_2⟩ := a0.cells
          obtain ⟨a1_0, a1_1, a1_2, a1_3⟩ := a1.cells
          obtain ⟨V3_0, V3_1, V3_2⟩ := V3.cells
          obtain ⟨V5_0, V5_1, V5_2⟩ := V5.cells
          obtain ⟨V7_0, V7_1, V7_2⟩ := V7.cells
          go_wp2_with fail
          clear a0_0 a0_1 a0_2 a1_0 a1_1 a1_2 a1_3 V3_0 V3_1 V3_2 V5_0 V5_1 V5_2 V7_0 V7_1 V7_2
          refine (eqIm_same _ _ _ _ LR _ V7.rd V3.rd).mono ?_
          rintro e w9 ⟨rfl, hb⟩
          replace a0 := a0.call hb
          replace a1 := a1.callA hb
          replace V3 := V3.call hb
          replace V5 := V5.call hb
          replace V7 := V7.call hb
          replace Kw := belI_call Kw hb
          clear hb
          obtain ⟨a0_0, a0_1, a0_2⟩ := a0.cells
          obtain ⟨a1_0, a1_1, a1_2, a1_3⟩ := a1.cells
          obtain ⟨V3_0, V3_1, V3_2⟩ := V3.cells
          obtain ⟨V5_0, V5_1, V5_2⟩ := V5.cells
          obtain ⟨V7_0, V7_1, V7_2⟩ := V7.cells
          go_wp2_with fail
          clear a0_0 a0_1 a0_2 a1_0 a1_1 a1_2 a1_3 V3_0 V3_1 V3_2 V5_0 V5_1 V5_2 V7_0 V7_1 V7_2
          refine (markImI _ XR YR _ LR (1) _ _ (by omega) (by omega) V7.own).mono ?_
          rintro e w10 ⟨rfl, hown, hg⟩
          replace Kw := belI_mark Kw V7 (by have := hlo_V7.out; omega) hg
          replace a0 : ImA _ _ _ _ _ _ := ⟨a0.at_.grown hg (fun e => by have := (V7.row _ e.symm).1; have := hl_a0_V7.out; omega), O0.out.call Kw⟩
          replace a1 : LcAt _ _ _ := lc_other a1 hg (fun e => by have := (V7.row _ e.symm).1; have := hl_a1_V7.out; omega)
          replace V3 := V3.other hg (fun k hk => by have := V7.row k hk; have := hs_V3_V7.out; omega)
          replace V5 := V5.other hg (fun k hk => by have := V7.row k hk; have := hs_V5_V7.out; omega)
          replace V7 := V7.mark hown (marksI_length _ _) hg
          clear hown hg
          have hk_w10 : ¬ ((1 + LR.length : Nat) : Int) < 0 := by omega
          obtain ⟨a0_0, a0_1, a0_2⟩ := a0.cells
          obtain ⟨a1_0, a1_1, a1_2, a1_3⟩ := a1.cells
          obtain ⟨V3_0, V3_1, V3_2⟩ := V3.cells
          obtain ⟨V5_0, V5_1, V5_2⟩ := V5.cells
          obtain ⟨V7_0, V7_1, V7_2⟩ := V7.cells
          go_wp2_with fail
          clear a0_0 a0_1 a0_2 a1_0 a1_1 a1_2 a1_3 V3_0 V3_1 V3_2 V5_0 V5_1 V5_2 V7_0 V7_1 V7_2
          refine (heldIm XR YR _ 1 LR.length _ (by omega) V7.rd).mono ?_
          rintro e w11 ⟨rfl, hb⟩
          replace a0 := a0.call hb
          replace a1 := a1.callA hb
          replace V3 := V3.call hb
          replace V5 := V5.call hb
          replace V7 := V7.call hb
          replace Kw := belI_call Kw hb
          clear hb
          obtain ⟨a0_0, a0_1, a0_2⟩ := a0.cells
          obtain ⟨a1_0, a1_1, a1_2, a1_3⟩ := a1.cells
          obtain ⟨V3_0, V3_1, V3_2⟩ := V3.cells
          obtain ⟨V5_0, V5_1, V5_2⟩ := V5.cells
          obtain ⟨V7_0, V7_1, V7_2⟩ := V7.cells
          go_upto_region 24 with fail
          clear a0_0 a0_1 a0_2 a1_0 a1_1 a1_2 a1_3 V3_0 V3_1 V3_2 V5_0 V5_1 V5_2 V7_0 V7_1 V7_2
          go_cut [14, 15] (fun s14 t15 wx => ∃ (b hi : Nat) (A : Option Addr) (c : Nat), s14 = .pointer (some ⟨b, 0, none⟩) ∧ t15 = .bool tR ∧ ImV w11.heap.size hi b XR YR (.slice A LR.length c) LR wx ∧ Below w11.heap.size w11 wx)
          case first =>
            refine wp_region_held_drew (S := fun W => Below w11.heap.size w11 W) (by kernel_rfl) (Below.refl _ _).drew (fun hS => ?_)
            refine wpAnyH_take (i := 0) (v := .agg #[.int .i64 X0, .int .i64 Y0, .slice A0 L0.length c0]) rfl (by kernel_rfl) (by kernel_rfl) (by kernel_rfl) (fun _ _ _ h => h) (Or.inl ⟨by kernel_rfl, by intro w' hSw; (try dsimp only at hSw); (obtain ⟨a0_0, a0_1, a0_2⟩ := (a0.call hSw).cells); (obtain ⟨a1_0, a1_1, a1_2, a1_3⟩ := (a1.callA hSw).cells); (obtain ⟨V3_0, V3_1, V3_2⟩ := (V3.call hSw).cells); (obtain ⟨V5_0, V5_1, V5_2⟩ := (V5.call hSw).cells); (obtain ⟨V7_0, V7_1, V7_2⟩ := (V7.call hSw).cells); go_simp⟩) (by assumption) ?_
            refine wpAnyH_take (i := 2) (v := .agg #[.int .i64 r1.x, .int .i64 r1.y, .int .i64 r1.w, .int .i64 r1.h]) rfl (by kernel_rfl) (by kernel_rfl) (by kernel_rfl) (fun _ _ _ h => h) (Or.inl ⟨by kernel_rfl, by intro w' hSw; (try dsimp only at hSw); (obtain ⟨a0_0, a0_1, a0_2⟩ := (a0.call hSw).cells); (obtain ⟨a1_0, a1_1, a1_2, a1_3⟩ := (a1.callA hSw).cells); (obtain ⟨V3_0, V3_1, V3_2⟩ := (V3.call hSw).cells); (obtain ⟨V5_0, V5_1, V5_2⟩ := (V5.call hSw).cells); (obtain ⟨V7_0, V7_1, V7_2⟩ := (V7.call hSw).cells); go_simp⟩) (by assumption) ?_
            (try simp only [Act.put]); (try simp only [List.setIfInBounds_toArray]); (try simp only [List.set_cons_zero, List.set_cons_succ])
            refine wpAnyH_ready (rs := [1, 8]) (by kernel_rfl) (by simp) ?_
            refine (AllReadyH.cons rfl (fun K hK => ?_) (AllReadyH.cons rfl (fun K hK => ?_) AllReadyH.nil))
            · rw [if_pos (by kernel_rfl)]
              (try simp only [List.getElem_toArray]); (try simp only [List.getElem_cons_succ]); (try simp only [List.getElem_cons_zero])
              go_simp
              with_reducible refine (toIm X0 Y0 _ L0 _ Hn0.out (a0.call hS).rd).mono ?_
              rintro e W' ⟨vo, rfl, u9, hb⟩
              obtain ⟨A_u9, c_u9, he⟩ := ownI_shape u9
              subst he
              dsimp only
              refine hK.out _ _ (belI_call hS hb) (fun hS => ?_)
              clear hK
              (try simp only [Act.put]); (try simp only [List.setIfInBounds_toArray]); (try simp only [List.set_cons_zero, List.set_cons_succ])
              refine wpAnyH_ready (rs := [3, 8]) (by kernel_rfl) (by simp) ?_
              refine (AllReadyH.cons rfl (fun K hK => ?_) (AllReadyH.cons rfl (fun K hK => ?_) AllReadyH.nil))
              · rw [if_pos (by kernel_rfl)]
                (try simp only [List.getElem_toArray]); (try simp only [List.getElem_cons_succ]); (try simp only [List.getElem_cons_zero])
                go_simp
                with_reducible refine (toRect_any r1 _).mono ?_
                rintro e W' ⟨rfl, hb⟩
                dsimp only
                have u9 := ownI_call u9 hb
                refine hK.out _ _ (belI_call hS hb) (fun hS => ?_)
                clear hK
                (try simp only [Act.put]); (try simp only [List.setIfInBounds_toArray]); (try simp only [List.set_cons_zero, List.set_cons_succ])
                refine wpAnyH_ready (rs := [4, 8]) (by kernel_rfl) (by simp) ?_
                refine (AllReadyH.cons rfl (fun K hK => ?_) (AllReadyH.cons rfl (fun K hK => ?_) AllReadyH.nil))
                · rw [if_pos (by kernel_rfl)]
                  (try simp only [List.getElem_toArray]); (try simp only [List.getElem_cons_succ]); (try simp only [List.getElem_cons_zero])
                  go_simp
                  with_reducible refine (HI.out _ _ (RdI.of_own u9)).mono ?_
                  rintro e W' ⟨vo, rfl, u10, hb⟩
                  obtain ⟨A_u10, c_u10, he⟩ := ownI_shape u10
                  subst he
                  replace u10 := u10.mono hS.size
                  dsimp only
                  have u9 := ownI_call u9 hb
                  refine hK.out _ _ (belI_call hS hb) (fun hS => ?_)
                  clear hK
                  (try simp only [Act.put]); (try simp only [List.setIfInBounds_toArray]); (try simp only [List.set_cons_zero, List.set_cons_succ])
                  refine wpAnyH_take (i := 5) (v := .tuple #[.agg #[.int .i64 XR, .int .i64 YR, .slice A_u10 LR.length c_u10], .bool tR]) rfl (by kernel_rfl) (by kernel_rfl) (by kernel_rfl) (fun _ _ _ h => h) (Or.inl ⟨by kernel_rfl, by intro w' hSw; (try dsimp only at hSw); (obtain ⟨a0_0, a0_1, a0_2⟩ := (a0.call hSw).cells); (obtain ⟨a1_0, a1_1, a1_2, a1_3⟩ := (a1.callA hSw).cells); (obtain ⟨V3_0, V3_1, V3_2⟩ := (V3.call hSw).cells); (obtain ⟨V5_0, V5_1, V5_2⟩ := (V5.call hSw).cells); (obtain ⟨V7_0, V7_1, V7_2⟩ := (V7.call hSw).cells); go_simp⟩) (by assumption) ?_
                  refine wpAnyH_take (i := 6) (v := .agg #[.int .i64 XR, .int .i64 YR, .slice A_u10 LR.length c_u10]) rfl (by kernel_rfl) (by kernel_rfl) (by kernel_rfl) (fun _ _ _ h => h) (Or.inl ⟨by kernel_rfl, by intro w' hSw; (try dsimp only at hSw); (obtain ⟨a0_0, a0_1, a0_2⟩ := (a0.call hSw).cells); (obtain ⟨a1_0, a1_1, a1_2, a1_3⟩ := (a1.callA hSw).cells); (obtain ⟨V3_0, V3_1, V3_2⟩ := (V3.call hSw).cells); (obtain ⟨V5_0, V5_1, V5_2⟩ := (V5.call hSw).cells); (obtain ⟨V7_0, V7_1, V7_2⟩ := (V7.call hSw).cells); go_simp⟩) (by assumption) ?_
                  refine wpAnyH_take (i := 7) (v := .bool tR) rfl (by kernel_rfl) (by kernel_rfl) (by kernel_rfl) (fun _ _ _ h => h) (Or.inl ⟨by kernel_rfl, by intro w' hSw; (try dsimp only at hSw); (obtain ⟨a0_0, a0_1, a0_2⟩ := (a0.call hSw).cells); (obtain ⟨a1_0, a1_1, a1_2, a1_3⟩ := (a1.callA hSw).cells); (obtain ⟨V3_0, V3_1, V3_2⟩ := (V3.call hSw).cells); (obtain ⟨V5_0, V5_1, V5_2⟩ := (V5.call hSw).cells); (obtain ⟨V7_0, V7_1, V7_2⟩ := (V7.call hSw).cells); go_simp⟩) (by assumption) ?_
                  (try simp only [Act.put]); (try simp only [List.setIfInBounds_toArray]); (try simp only [List.set_cons_zero, List.set_cons_succ])
                  refine wpAnyH_ready (rs := [8]) (by kernel_rfl) (by simp) ?_
                  refine (AllReadyH.cons rfl (fun K hK => ?_) AllReadyH.nil)
                  · rw [if_pos (by kernel_rfl)]
                    (try simp only [List.getElem_toArray]); (try simp only [List.getElem_cons_succ]); (try simp only [List.getElem_cons_zero])
                    refine wp_alloc_im 28 zero26 14 rfl rfl ?_
                    intro bB W' hb GB lB
                    have kB := Nat.le_trans hS.size lB
                    have nB : ∀ k, (Value.slice A_u10 LR.length c_u10).ownBlock = some k → k ≠ bB := fun k hk => by have := (u10.lt k hk).2; omega
                    have u9 := ownI_call u9 hb
                    have u10 := ownI_call u10 hb
                    refine hK.out _ _ (belI_call hS hb) (fun hS => ?_)
                    clear hK
                    (try simp only [Act.put]); (try simp only [List.setIfInBounds_toArray]); (try simp only [List.set_cons_zero, List.set_cons_succ])
                    refine wpAnyH_ready (rs := [9]) (by kernel_rfl) (by simp) ?_
                    refine (AllReadyH.cons rfl (fun K hK => ?_) AllReadyH.nil)
                    · rw [if_pos (by kernel_rfl)]
                      (try simp only [List.getElem_toArray]); (try simp only [List.getElem_cons_succ]); (try simp only [List.getElem_cons_zero])
                      refine wp_store_im 28 size26 (.tmp 14) (.tmp 85) rfl bB 0 0 (.slice none 0 0) XR YR A_u10 LR.length c_u10 rfl (by first | with_reducible rfl | (go_simp; done) | rfl) GB ?_
                      intro W3 IB hgB
                      skip
                      replace u10 := u10.kept hgB (ownA_ne nB)
                      skip
                      refine hK.out _ _ (hS.grown hgB hS.size (fun k hk => by injection hk with hk; omega)) (fun hS => ?_)
                      clear hK
                      (try simp only [Act.put]); (try simp only [List.setIfInBounds_toArray]); (try simp only [List.set_cons_zero, List.set_cons_succ])
                      refine wpAnyH_take (i := 10) (v := .bool tR) rfl (by kernel_rfl) (by kernel_rfl) (by kernel_rfl) (fun _ _ _ h => h) (Or.inl ⟨by kernel_rfl, by intro w' hSw; (try dsimp only at hSw); (obtain ⟨a0_0, a0_1, a0_2⟩ := (a0.call hSw).cells); (obtain ⟨a1_0, a1_1, a1_2, a1_3⟩ := (a1.callA hSw).cells); (obtain ⟨V3_0, V3_1, V3_2⟩ := (V3.call hSw).cells); (obtain ⟨V5_0, V5_1, V5_2⟩ := (V5.call hSw).cells); (obtain ⟨V7_0, V7_1, V7_2⟩ := (V7.call hSw).cells); go_simp⟩) (by assumption) ?_
                      refine wpAnyH_done (by kernel_rfl) ?_ _
                      go_wp2_with fail
                      go_meet
                      case rel => exact ⟨bB, _, _, _, rfl, rfl, ImV.made IB u10 kB nB, hS⟩
                · rw [if_pos (by kernel_rfl)]
                  (try simp only [List.getElem_toArray]); (try simp only [List.getElem_cons_succ]); (try simp only [List.getElem_cons_zero])
                  refine wp_alloc_im 28 zero26 14 rfl rfl ?_
                  intro bB W' hb GB lB
                  have kB := Nat.le_trans hS.size lB
                  have u9 := ownI_call u9 hb
                  refine hK.out _ _ (belI_call hS hb) (fun hS => ?_)
                  clear hK
                  (try simp only [Act.put]); (try simp only [List.setIfInBounds_toArray]); (try simp only [List.set_cons_zero, List.set_cons_succ])
                  refine wpAnyH_ready (rs := [4]) (by kernel_rfl) (by simp) ?_
                  refine (AllReadyH.cons rfl (fun K hK => ?_) AllReadyH.nil)
                  · rw [if_pos (by kernel_rfl)]
                    (try simp only [List.getElem_toArray]); (try simp only [List.getElem_cons_succ]); (try simp only [List.getElem_cons_zero])
                    go_simp
                    with_reducible refine (HI.out _ _ (RdI.of_own u9)).mono ?_
                    rintro e W' ⟨vo, rfl, u10, hb⟩
                    obtain ⟨A_u10, c_u10, he⟩ := ownI_shape u10
                    subst he
                    have nB : ∀ k, (Value.slice A_u10 LR.length c_u10).ownBlock = some k → k ≠ bB := fun k hk => by have := (u10.lt k hk).1; have := (Array.getElem?_eq_some_iff.1 GB).1; omega
                    replace u10 := u10.mono hS.size
                    dsimp only
                    have u9 := ownI_call u9 hb
                    have GB := blk_call GB hb
                    refine hK.out _ _ (belI_call hS hb) (fun hS => ?_)
                    clear hK
                    (try simp only [Act.put]); (try simp only [List.setIfInBounds_toArray]); (try simp only [List.set_cons_zero, List.set_cons_succ])
                    refine wpAnyH_take (i := 5) (v := .tuple #[.agg #[.int .i64 XR, .int .i64 YR, .slice A_u10 LR.length c_u10], .bool tR]) rfl (by kernel_rfl) (by kernel_rfl) (by kernel_rfl) (fun _ _ _ h => h) (Or.inl ⟨by kernel_rfl, by intro w' hSw; (try dsimp only at hSw); (obtain ⟨a0_0, a0_1, a0_2⟩ := (a0.call hSw).cells); (obtain ⟨a1_0, a1_1, a1_2, a1_3⟩ := (a1.callA hSw).cells); (obtain ⟨V3_0, V3_1, V3_2⟩ := (V3.call hSw).cells); (obtain ⟨V5_0, V5_1, V5_2⟩ := (V5.call hSw).cells); (obtain ⟨V7_0, V7_1, V7_2⟩ := (V7.call hSw).cells); go_simp⟩) (by assumption) ?_
                    refine wpAnyH_take (i := 6) (v := .agg #[.int .i64 XR, .int .i64 YR, .slice A_u10 LR.length c_u10]) rfl (by kernel_rfl) (by kernel_rfl) (by kernel_rfl) (fun _ _ _ h => h) (Or.inl ⟨by kernel_rfl, by intro w' hSw; (try dsimp only at hSw); (obtain ⟨a0_0, a0_1, a0_2⟩ := (a0.call hSw).cells); (obtain ⟨a1_0, a1_1, a1_2, a1_3⟩ := (a1.callA hSw).cells); (obtain ⟨V3_0, V3_1, V3_2⟩ := (V3.call hSw).cells); (obtain ⟨V5_0, V5_1, V5_2⟩ := (V5.call hSw).cells); (obtain ⟨V7_0, V7_1, V7_2⟩ := (V7.call hSw).cells); go_simp⟩) (by assumption) ?_
                    refine wpAnyH_take (i := 7) (v := .bool tR) rfl (by kernel_rfl) (by kernel_rfl) (by kernel_rfl) (fun _ _ _ h => h) (Or.inl ⟨by kernel_rfl, by intro w' hSw; (try dsimp only at hSw); (obtain ⟨a0_0, a0_1, a0_2⟩ := (a0.call hSw).cells); (obtain ⟨a1_0, a1_1, a1_2, a1_3⟩ := (a1.callA hSw).cells); (obtain ⟨V3_0, V3_1, V3_2⟩ := (V3.call hSw).cells); (obtain ⟨V5_0, V5_1, V5_2⟩ := (V5.call hSw).cells); (obtain ⟨V7_0, V7_1, V7_2⟩ := (V7.call hSw).cells); go_simp⟩) (by assumption) ?_
                    (try simp only [Act.put]); (try simp only [List.setIfInBounds_toArray]); (try simp only [List.set_cons_zero, List.set_cons_succ])
                    refine wpAnyH_ready (rs := [9]) (by kernel_rfl) (by simp) ?_
                    refine (AllReadyH.cons rfl (fun K hK => ?_) AllReadyH.nil)
                    · rw [if_pos (by kernel_rfl)]
                      (try simp only [List.getElem_toArray]); (try simp only [List.getElem_cons_succ]); (try simp only [List.getElem_cons_zero])
                      refine wp_store_im 28 size26 (.tmp 14) (.tmp 85) rfl bB 0 0 (.slice none 0 0) XR YR A_u10 LR.length c_u10 rfl (by first | with_reducible rfl | (go_simp; done) | rfl) GB ?_
                      intro W3 IB hgB
                      skip
                      skip
                      replace u10 := u10.kept hgB (ownA_ne nB)
                      refine hK.out _ _ (hS.grown hgB hS.size (fun k hk => by injection hk with hk; omega)) (fun hS => ?_)
                      clear hK
                      (try simp only [Act.put]); (try simp only [List.setIfInBounds_toArray]); (try simp only [List.set_cons_zero, List.set_cons_succ])
                      refine wpAnyH_take (i := 10) (v := .bool tR) rfl (by kernel_rfl) (by kernel_rfl) (by kernel_rfl) (fun _ _ _ h => h) (Or.inl ⟨by kernel_rfl, by intro w' hSw; (try dsimp only at hSw); (obtain ⟨a0_0, a0_1, a0_2⟩ := (a0.call hSw).cells); (obtain ⟨a1_0, a1_1, a1_2, a1_3⟩ := (a1.callA hSw).cells); (obtain ⟨V3_0, V3_1, V3_2⟩ := (V3.call hSw).cells); (obtain ⟨V5_0, V5_1, V5_2⟩ := (V5.call hSw).cells); (obtain ⟨V7_0, V7_1, V7_2⟩ := (V7.call hSw).cells); go_simp⟩) (by assumption) ?_
                      refine wpAnyH_done (by kernel_rfl) ?_ _
                      go_wp2_with fail
                      go_meet
                      case rel => exact ⟨bB, _, _, _, rfl, rfl, ImV.made IB u10 kB nB, hS⟩
              · rw [if_pos (by kernel_rfl)]
                (try simp only [List.getElem_toArray]); (try simp only [List.getElem_cons_succ]); (try simp only [List.getElem_cons_zero])
                refine wp_alloc_im 28 zero26 14 rfl rfl ?_
                intro bB W' hb GB lB
                have kB := Nat.le_trans hS.size lB
                have u9 := ownI_call u9 hb
                refine hK.out _ _ (belI_call hS hb) (fun hS => ?_)
                clear hK
                (try simp only [Act.put]); (try simp only [List.setIfInBounds_toArray]); (try simp only [List.set_cons_zero, List.set_cons_succ])
                refine wpAnyH_ready (rs := [3]) (by kernel_rfl) (by simp) ?_
                refine (AllReadyH.cons rfl (fun K hK => ?_) AllReadyH.nil)
                · rw [if_pos (by kernel_rfl)]
                  (try simp only [List.getElem_toArray]); (try simp only [List.getElem_cons_succ]); (try simp only [List.getElem_cons_zero])
                  go_simp
                  with_reducible refine (toRect_any r1 _).mono ?_
                  rintro e W' ⟨rfl, hb⟩
                  dsimp only
                  have u9 := ownI_call u9 hb
                  have GB := blk_call GB hb
                  refine hK.out _ _ (belI_call hS hb) (fun hS => ?_)
                  clear hK
                  (try simp only [Act.put]); (try simp only [List.setIfInBounds_toArray]); (try simp only [List.set_cons_zero, List.set_cons_succ])
                  refine wpAnyH_ready (rs := [4]) (by kernel_rfl) (by simp) ?_
                  refine (AllReadyH.cons rfl (fun K hK => ?_) AllReadyH.nil)
                  · rw [if_pos (by kernel_rfl)]
                    (try simp only [List.getElem_toArray]); (try simp only [List.getElem_cons_succ]); (try simp only [List.getElem_cons_zero])
                    go_simp
                    with_reducible refine (HI.out _ _ (RdI.of_own u9)).mono ?_
                    rintro e W' ⟨vo, rfl, u10, hb⟩
                    obtain ⟨A_u10, c_u10, he⟩ := ownI_shape u10
                    subst he
                    have nB : ∀ k, (Value.slice A_u10 LR.length c_u10).ownBlock = some k → k ≠ bB := fun k hk => by have := (u10.lt k hk).1; have := (Array.getElem?_eq_some_iff.1 GB).1; omega
                    replace u10 := u10.mono hS.size
                    dsimp only
                    have u9 := ownI_call u9 hb
                    have GB := blk_call GB hb
                    refine hK.out _ _ (belI_call hS hb) (fun hS => ?_)
                    clear hK
                    (try simp only [Act.put]); (try simp only [List.setIfInBounds_toArray]); (try simp only [List.set_cons_zero, List.set_cons_succ])
                    refine wpAnyH_take (i := 5) (v := .tuple #[.agg #[.int .i64 XR, .int .i64 YR, .slice A_u10 LR.length c_u10], .bool tR]) rfl (by kernel_rfl) (by kernel_rfl) (by kernel_rfl) (fun _ _ _ h => h) (Or.inl ⟨by kernel_rfl, by intro w' hSw; (try dsimp only at hSw); (obtain ⟨a0_0, a0_1, a0_2⟩ := (a0.call hSw).cells); (obtain ⟨a1_0, a1_1, a1_2, a1_3⟩ := (a1.callA hSw).cells); (obtain ⟨V3_0, V3_1, V3_2⟩ := (V3.call hSw).cells); (obtain ⟨V5_0, V5_1, V5_2⟩ := (V5.call hSw).cells); (obtain ⟨V7_0, V7_1, V7_2⟩ := (V7.call hSw).cells); go_simp⟩) (by assumption) ?_
                    refine wpAnyH_take (i := 6) (v := .agg #[.int .i64 XR, .int .i64 YR, .slice A_u10 LR.length c_u10]) rfl (by kernel_rfl) (by kernel_rfl) (by kernel_rfl) (fun _ _ _ h => h) (Or.inl ⟨by kernel_rfl, by intro w' hSw; (try dsimp only at hSw); (obtain ⟨a0_0, a0_1, a0_2⟩ := (a0.call hSw).cells); (obtain ⟨a1_0, a1_1, a1_2, a1_3⟩ := (a1.callA hSw).cells); (obtain ⟨V3_0, V3_1, V3_2⟩ := (V3.call hSw).cells); (obtain ⟨V5_0, V5_1, V5_2⟩ := (V5.call hSw).cells); (obtain ⟨V7_0, V7_1, V7_2⟩ := (V7.call hSw).cells); go_simp⟩) (by assumption) ?_
                    refine wpAnyH_take (i := 7) (v := .bool tR) rfl (by kernel_rfl) (by kernel_rfl) (by kernel_rfl) (fun _ _ _ h => h) (Or.inl ⟨by kernel_rfl, by intro w' hSw; (try dsimp only at hSw); (obtain ⟨a0_0, a0_1, a0_2⟩ := (a0.call hSw).cells); (obtain ⟨a1_0, a1_1, a1_2, a1_3⟩ := (a1.callA hSw).cells); (obtain ⟨V3_0, V3_1, V3_2⟩ := (V3.call hSw).cells); (obtain ⟨V5_0, V5_1, V5_2⟩ := (V5.call hSw).cells); (obtain ⟨V7_0, V7_1, V7_2⟩ := (V7.call hSw).cells); go_simp⟩) (by assumption) ?_
                    (try simp only [Act.put]); (try simp only [List.setIfInBounds_toArray]); (try simp only [List.set_cons_zero, List.set_cons_succ])
                    refine wpAnyH_ready (rs := [9]) (by kernel_rfl) (by simp) ?_
                    refine (AllReadyH.cons rfl (fun K hK => ?_) AllReadyH.nil)
                    · rw [if_pos (by kernel_rfl)]
                      (try simp only [List.getElem_toArray]); (try simp only [List.getElem_cons_succ]); (try simp only [List.getElem_cons_zero])
                      refine wp_store_im 28 size26 (.tmp 14) (.tmp 85) rfl bB 0 0 (.slice none 0 0) XR YR A_u10 LR.length c_u10 rfl (by first | with_reducible rfl | (go_simp; done) | rfl) GB ?_
                      intro W3 IB hgB
                      skip
                      skip
                      replace u10 := u10.kept hgB (ownA_ne nB)
                      refine hK.out _ _ (hS.grown hgB hS.size (fun k hk => by injection hk with hk; omega)) (fun hS => ?_)
                      clear hK
                      (try simp only [Act.put]); (try simp only [List.setIfInBounds_toArray]); (try simp only [List.set_cons_zero, List.set_cons_succ])
                      refine wpAnyH_take (i := 10) (v := .bool tR) rfl (by kernel_rfl) (by kernel_rfl) (by kernel_rfl) (fun _ _ _ h => h) (Or.inl ⟨by kernel_rfl, by intro w' hSw; (try dsimp only at hSw); (obtain ⟨a0_0, a0_1, a0_2⟩ := (a0.call hSw).cells); (obtain ⟨a1_0, a1_1, a1_2, a1_3⟩ := (a1.callA hSw).cells); (obtain ⟨V3_0, V3_1, V3_2⟩ := (V3.call hSw).cells); (obtain ⟨V5_0, V5_1, V5_2⟩ := (V5.call hSw).cells); (obtain ⟨V7_0, V7_1, V7_2⟩ := (V7.call hSw).cells); go_simp⟩) (by assumption) ?_
                      refine wpAnyH_done (by kernel_rfl) ?_ _
                      go_wp2_with fail
                      go_meet
                      case rel => exact ⟨bB, _, _, _, rfl, rfl, ImV.made IB u10 kB nB, hS⟩
            · rw [if_pos (by kernel_rfl)]
              (try simp only [List.getElem_toArray]); (try simp only [List.getElem_cons_succ]); (try simp only [List.getElem_cons_zero])
              refine wp_alloc_im 28 zero26 14 rfl rfl ?_
              intro bB W' hb GB lB
              have kB := Nat.le_trans hS.size lB
              refine hK.out _ _ (belI_call hS hb) (fun hS => ?_)
              clear hK
              (try simp only [Act.put]); (try simp only [List.setIfInBounds_toArray]); (try simp only [List.set_cons_zero, List.set_cons_succ])
              refine wpAnyH_ready (rs := [1]) (by kernel_rfl) (by simp) ?_
              refine (AllReadyH.cons rfl (fun K hK => ?_) AllReadyH.nil)
              · rw [if_pos (by kernel_rfl)]
                (try simp only [List.getElem_toArray]); (try simp only [List.getElem_cons_succ]); (try simp only [List.getElem_cons_zero])
                go_simp
                with_reducible refine (toIm X0 Y0 _ L0 _ Hn0.out (a0.call hS).rd).mono ?_
                rintro e W' ⟨vo, rfl, u9, hb⟩
                obtain ⟨A_u9, c_u9, he⟩ := ownI_shape u9
                subst he
                dsimp only
                have GB := blk_call GB hb
                refine hK.out _ _ (belI_call hS hb) (fun hS => ?_)
                clear hK
                (try simp only [Act.put]); (try simp only [List.setIfInBounds_toArray]); (try simp only [List.set_cons_zero, List.set_cons_succ])
                refine wpAnyH_ready (rs := [3]) (by kernel_rfl) (by simp) ?_
                refine (AllReadyH.cons rfl (fun K hK => ?_) AllReadyH.nil)
                · rw [if_pos (by kernel_rfl)]
                  (try simp only [List.getElem_toArray]); (try simp only [List.getElem_cons_succ]); (try simp only [List.getElem_cons_zero])
                  go_simp
                  with_reducible refine (toRect_any r1 _).mono ?_
                  rintro e W' ⟨rfl, hb⟩
                  dsimp only
                  have GB := blk_call GB hb
                  have u9 := ownI_call u9 hb
                  refine hK.out _ _ (belI_call hS hb) (fun hS => ?_)
                  clear hK
                  (try simp only [Act.put]); (try simp only [List.setIfInBounds_toArray]); (try simp only [List.set_cons_zero, List.set_cons_succ])
                  refine wpAnyH_ready (rs := [4]) (by kernel_rfl) (by simp) ?_
                  refine (AllReadyH.cons rfl (fun K hK => ?_) AllReadyH.nil)
                  · rw [if_pos (by kernel_rfl)]
                    (try simp only [List.getElem_toArray]); (try simp only [List.getElem_cons_succ]); (try simp only [List.getElem_cons_zero])
                    go_simp
                    with_reducible refine (HI.out _ _ (RdI.of_own u9)).mono ?_
                    rintro e W' ⟨vo, rfl, u10, hb⟩
                    obtain ⟨A_u10, c_u10, he⟩ := ownI_shape u10
                    subst he
                    have nB : ∀ k, (Value.slice A_u10 LR.length c_u10).ownBlock = some k → k ≠ bB := fun k hk => by have := (u10.lt k hk).1; have := (Array.getElem?_eq_some_iff.1 GB).1; omega
                    replace u10 := u10.mono hS.size
                    dsimp only
                    have GB := blk_call GB hb
                    have u9 := ownI_call u9 hb
                    refine hK.out _ _ (belI_call hS hb) (fun hS => ?_)
                    clear hK
                    (try simp only [Act.put]); (try simp only [List.setIfInBounds_toArray]); (try simp only [List.set_cons_zero, List.set_cons_succ])
                    refine wpAnyH_take (i := 5) (v := .tuple #[.agg #[.int .i64 XR, .int .i64 YR, .slice A_u10 LR.length c_u10], .bool tR]) rfl (by kernel_rfl) (by kernel_rfl) (by kernel_rfl) (fun _ _ _ h => h) (Or.inl ⟨by kernel_rfl, by intro w' hSw; (try dsimp only at hSw); (obtain ⟨a0_0, a0_1, a0_2⟩ := (a0.call hSw).cells); (obtain ⟨a1_0, a1_1, a1_2, a1_3⟩ := (a1.callA hSw).cells); (obtain ⟨V3_0, V3_1, V3_2⟩ := (V3.call hSw).cells); (obtain ⟨V5_0, V5_1, V5_2⟩ := (V5.call hSw).cells); (obtain ⟨V7_0, V7_1, V7_2⟩ := (V7.call hSw).cells); go_simp⟩) (by assumption) ?_
                    refine wpAnyH_take (i := 6) (v := .agg #[.int .i64 XR, .int .i64 YR, .slice A_u10 LR.length c_u10]) rfl (by kernel_rfl) (by kernel_rfl) (by kernel_rfl) (fun _ _ _ h => h) (Or.inl ⟨by kernel_rfl, by intro w' hSw; (try dsimp only at hSw); (obtain ⟨a0_0, a0_1, a0_2⟩ := (a0.call hSw).cells); (obtain ⟨a1_0, a1_1, a1_2, a1_3⟩ := (a1.callA hSw).cells); (obtain ⟨V3_0, V3_1, V3_2⟩ := (V3.call hSw).cells); (obtain ⟨V5_0, V5_1, V5_2⟩ := (V5.call hSw).cells); (obtain ⟨V7_0, V7_1, V7_2⟩ := (V7.call hSw).cells); go_simp⟩) (by assumption) ?_
                    refine wpAnyH_take (i := 7) (v := .bool tR) rfl (by kernel_rfl) (by kernel_rfl) (by kernel_rfl) (fun _ _ _ h => h) (Or.inl ⟨by kernel_rfl, by intro w' hSw; (try dsimp only at hSw); (obtain ⟨a0_0, a0_1, a0_2⟩ := (a0.call hSw).cells); (obtain ⟨a1_0, a1_1, a1_2, a1_3⟩ := (a1.callA hSw).cells); (obtain ⟨V3_0, V3_1, V3_2⟩ := (V3.call hSw).cells); (obtain ⟨V5_0, V5_1, V5_2⟩ := (V5.call hSw).cells); (obtain ⟨V7_0, V7_1, V7_2⟩ := (V7.call hSw).cells); go_simp⟩) (by assumption) ?_
                    (try simp only [Act.put]); (try simp only [List.setIfInBounds_toArray]); (try simp only [List.set_cons_zero, List.set_cons_succ])
                    refine wpAnyH_ready (rs := [9]) (by kernel_rfl) (by simp) ?_
                    refine (AllReadyH.cons rfl (fun K hK => ?_) AllReadyH.nil)
                    · rw [if_pos (by kernel_rfl)]
                      (try simp only [List.getElem_toArray]); (try simp only [List.getElem_cons_succ]); (try simp only [List.getElem_cons_zero])
                      refine wp_store_im 28 size26 (.tmp 14) (.tmp 85) rfl bB 0 0 (.slice none 0 0) XR YR A_u10 LR.length c_u10 rfl (by first | with_reducible rfl | (go_simp; done) | rfl) GB ?_
                      intro W3 IB hgB
                      skip
                      skip
                      replace u10 := u10.kept hgB (ownA_ne nB)
                      refine hK.out _ _ (hS.grown hgB hS.size (fun k hk => by injection hk with hk; omega)) (fun hS => ?_)
                      clear hK
                      (try simp only [Act.put]); (try simp only [List.setIfInBounds_toArray]); (try simp only [List.set_cons_zero, List.set_cons_succ])
                      refine wpAnyH_take (i := 10) (v := .bool tR) rfl (by kernel_rfl) (by kernel_rfl) (by kernel_rfl) (fun _ _ _ h => h) (Or.inl ⟨by kernel_rfl, by intro w' hSw; (try dsimp only at hSw); (obtain ⟨a0_0, a0_1, a0_2⟩ := (a0.call hSw).cells); (obtain ⟨a1_0, a1_1, a1_2, a1_3⟩ := (a1.callA hSw).cells); (obtain ⟨V3_0, V3_1, V3_2⟩ := (V3.call hSw).cells); (obtain ⟨V5_0, V5_1, V5_2⟩ := (V5.call hSw).cells); (obtain ⟨V7_0, V7_1, V7_2⟩ := (V7.call hSw).cells); go_simp⟩) (by assumption) ?_
                      refine wpAnyH_done (by kernel_rfl) ?_ _
                      go_wp2_with fail
                      go_meet
                      case rel => exact ⟨bB, _, _, _, rfl, rfl, ImV.made IB u10 kB nB, hS⟩
          case rest =>
            obtain ⟨b_V11, hi_V11, A_V11, c_V11, rfl, rfl, V11, hb⟩ := hcut
            obtain ⟨w12, hWy⟩ : ∃ w12, w12 = wc := ⟨_, rfl⟩
            subst hWy
            have hs_V3_V11 := Lib.hid V3.hs
            have hs_V5_V11 := Lib.hid V5.hs
            have hs_V7_V11 := Lib.hid V7.hs
            have hlo_V11 := Lib.hid Kw.size
            have hl_a0_V11 := Lib.hid a0.lt
            have hl_a1_V11 := Lib.hid a1.lt
            replace a0 := a0.call hb
            replace a1 := a1.callA hb
            replace V3 := V3.call hb
            replace V5 := V5.call hb
            replace V7 := V7.call hb
            replace Kw := belI_call Kw hb
            clear hb
            obtain ⟨a0_0, a0_1, a0_2⟩ := a0.cells
            obtain ⟨a1_0, a1_1, a1_2, a1_3⟩ := a1.cells
            obtain ⟨V3_0, V3_1, V3_2⟩ := V3.cells
            obtain ⟨V5_0, V5_1, V5_2⟩ := V5.cells
            obtain ⟨V7_0, V7_1, V7_2⟩ := V7.cells
            obtain ⟨V11_0, V11_1, V11_2⟩ := V11.cells
            go_wp2_with fail
            clear a0_0 a0_1 a0_2 a1_0 a1_1 a1_2 a1_3 V3_0 V3_1 V3_2 V5_0 V5_1 V5_2 V7_0 V7_1 V7_2 V11_0 V11_1 V11_2
            refine (eqIm_same _ _ _ _ LR _ V11.rd V3.rd).mono ?_
            rintro e w13 ⟨rfl, hb⟩
            replace a0 := a0.call hb
            replace a1 := a1.callA hb
            replace V3 := V3.call hb
            replace V5 := V5.call hb
            replace V7 := V7.call hb
            replace V11 := V11.call hb
            replace Kw := belI_call Kw hb
            clear hb
            obtain ⟨a0_0, a0_1, a0_2⟩ := a0.cells
            obtain ⟨a1_0, a1_1, a1_2, a1_3⟩ := a1.cells
            obtain ⟨V3_0, V3_1, V3_2⟩ := V3.cells
            obtain ⟨V5_0, V5_1, V5_2⟩ := V5.cells
            obtain ⟨V7_0, V7_1, V7_2⟩ := V7.cells
            obtain ⟨V11_0, V11_1, V11_2⟩ := V11.cells
            go_wp2_with fail
            clear a0_0 a0_1 a0_2 a1_0 a1_1 a1_2 a1_3 V3_0 V3_1 V3_2 V5_0 V5_1 V5_2 V7_0 V7_1 V7_2 V11_0 V11_1 V11_2
            refine (heldIm XR YR _ 1 LR.length _ (by omega) V7.rd).mono ?_
            rintro e w14 ⟨rfl, hb⟩
            replace a0 := a0.call hb
            replace a1 := a1.callA hb
            replace V3 := V3.call hb
            replace V5 := V5.call hb
            replace V7 := V7.call hb
            replace V11 := V11.call hb
            replace Kw := belI_call Kw hb
            clear hb
            go_wp2_with fail
            go_ret
            exact ⟨rfl, Kw⟩
end Go.Proofs.Ytaggldhlnjbnhaa
