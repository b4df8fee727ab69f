/- The walk of the law FnExactColorImage: it returns true for every color map and image. -/
import Derived.Test.YtaggldhlnjbnhaaRd
import Derived.Test.YtaggldhlnjbnhaaIntR
import Derived.Test.YtaggldhlnjbnhaaImR
import Derived.Test.YtaggldhlnjbnhaaPixM
import Derived.Test.YtaggldhlnjbnhaaImL
import Derived.Test.YtaggldhlnjbnhaaImV
import Derived.Test.YtaggldhlnjbnhaaImN
import Derived.Test.YtaggldhlnjbnhaaImD
import Derived.Test.YtaggldhlnjbnhaaBlk4
import Derived.Test.YtaggldhlnjbnhaaRectEq
import Derived.Test.YtaggldhlnjbnhaaLaw
import Derived.Test.YtaggldhlnjbnhaaPixA
import Derived.Test.YtaggldhlnjbnhaaBk
import Derived.Test.YtaggldhlnjbnhaaHasC
import Derived.Test.YtaggldhlnjbnhaaRds
import Derived.Test.YtaggldhlnjbnhaaFilB
import Derived.Test.YtaggldhlnjbnhaaCrpB
import Derived.Test.YtaggldhlnjbnhaaColM
import Derived.Test.YtaggldhlnjbnhaaCmB
import Derived.Test.YtaggldhlnjbnhaaCmP
import Derived.Test.YtaggldhlnjbnhaaCmQ
import Derived.Test.YtaggldhlnjbnhaaCmE
import Derived.Test.YtaggldhlnjbnhaaCmI
import Derived.Test.YtaggldhlnjbnhaaProg
import Derived.WalkKit
import Derived.ProofKit
import Derived.OpenShut
import Derived.WalkLawsBesides
import Derived.WalkSpells
import Derived.ShutString
import Derived.ChangeOld
import Derived.Below
import Derived.Lib.Hide
import Derived.BigQuiet
import Derived.Deep.QuietTactic
import Derived.Maps.AppendAt
import Derived.Deep.OwnRows
import Derived.Handy
import Derived.Deep.Draws
import Derived.OwnWalk
import Derived.Deep.AppendLies
import Derived.Deep.LoopGhost
import Derived.Deep.Onto
import Derived.Deep.RegionHeld3
import Derived.Deep.DeepCutAuto
import Derived.Laws.BitsAllLaws
import Derived.Lib.QuoteBits
import Derived.Test.YtaggldhlnjbnhaaShelf
import Derived.Laws.CopyOwn
import Derived.Deep.RegionLaw
import Derived.Great.BuildSlice
import Derived.Deep.MidRow
import Derived.Deep.WholeRow
import Derived.Laws.AppendOwn
import Derived.ChangeKeysEq
namespace Go.Proofs.Ytaggldhlnjbnhaa
open Go.RowKit
set_option maxHeartbeats 4000000 in
set_option maxRecDepth 10000 in
theorem walk_FnExactColorImage (v0 v0c : Value) (L0 C0 : List Int) (X1 Y1 : Int) (v1 : Value) (L1 : List Int) (w : World) (h0 : Rd w v0 L0.length (intCells L0)) (h0c : Rd w v0c C0.length (intCells C0)) (h1 : Rd w v1 L1.length (intCells L1)) :
    Calls Try.prog 12 #[.agg #[v0, v0c], .agg #[.int .i64 X1, .int .i64 Y1, v1]] w fun e w' => e = .returned (.bool true) ∧ Below w.heap.size w w' := by
  obtain ⟨A0, c0, rfl⟩ := h0.form
  have hm0 : L0.length ≤ maxLen := h0.len.2
  obtain ⟨B0, d0, rfl⟩ := h0c.form
  have hm0c : C0.length ≤ maxLen := h0c.len.2
  obtain ⟨A1, c1, rfl⟩ := h1.form
  have hm1 : L1.length ≤ maxLen := h1.len.2
  have O0 := Lib.hid h0
  have O1 := Lib.hid h1
  have O0c := Lib.hid h0c
  have Kw := Below.refl w.heap.size w
  have hb0 := belI_box w (.cells #[.slice A0 L0.length c0, .slice B0 C0.length d0] 46)
  have a0 : CmA (w.heap.size) (.slice A0 L0.length c0) (.slice B0 C0.length d0) L0 C0 (w.alloc (.cells #[.slice A0 L0.length c0, .slice B0 C0.length d0] 46)) := ⟨cmA_at (w := w) (by simp) _ _, (h0.call Kw).call hb0, (h0c.call Kw).call hb0⟩
  replace Kw := belI_call Kw hb0
  clear hb0
  have hb1 := belI_box (w.alloc (.cells #[.slice A0 L0.length c0, .slice B0 C0.length d0] 46)) (.cells #[.int .i64 X1, .int .i64 Y1, .slice A1 L1.length c1] 35)
  replace a0 := a0.call hb1
  have a1 : ImA (w.heap.size + 1) X1 Y1 (.slice A1 L1.length c1) L1 ((w.alloc (.cells #[.slice A0 L0.length c0, .slice B0 C0.length d0] 46)).alloc (.cells #[.int .i64 X1, .int .i64 Y1, .slice A1 L1.length c1] 35)) := ⟨ImAt.newAt (w := (w.alloc (.cells #[.slice A0 L0.length c0, .slice B0 C0.length d0] 46))) (by simp) _ _ _ _, (h1.call Kw).call hb1⟩
  replace Kw := belI_call Kw hb1
  clear hb1
  obtain ⟨w0, hw0⟩ : ∃ w0, w0 = ((w.alloc (.cells #[.slice A0 L0.length c0, .slice B0 C0.length d0] 46)).alloc (.cells #[.int .i64 X1, .int .i64 Y1, .slice A1 L1.length c1] 35)) := ⟨_, rfl⟩
  rw [← hw0] at Kw a0 a1
  have Hw := Lib.hid hw0
  clear hw0 h0 h0c h1
  by_cases g0 : (L0.length + C0.length) ≤ 1048576
  rotate_left
  · have g' : ¬ (L0.length + C0.length) ≤ 1048576 := g0
    obtain ⟨a0_0, a0_1⟩ := a0.cells
    obtain ⟨a1_0, a1_1, a1_2⟩ := a1.cells
    go_enter Try.func12, Try.ntmps12
    go_wp2_with fail
    rw [← Hw.out]
    clear a0_0 a0_1 a1_0 a1_1 a1_2
    have q0 : (0 : Int) ≤ (1048576 : Int) := by omega
    have q1 : (1048576 : Int) < (((L0.length + C0.length) : Nat) : Int) := by omega
    refine (szCm_no L0.length C0.length A0 B0 c0 d0 hm0 hm0c _ q0 (by omega) q1 _).mono ?_
    rintro e w1 ⟨rfl, hb⟩
    replace a0 := a0.call hb
    replace a1 := a1.call hb
    replace Kw := belI_call Kw hb
    clear hb
    go_wp2_with fail
    go_ret
    exact ⟨rfl, Kw⟩
  by_cases g1 : (L0.length + C0.length) + L1.length ≤ 1048576
  rotate_left
  · have g' : ¬ (L0.length + C0.length) + L1.length ≤ 1048576 := g1
    obtain ⟨a0_0, a0_1⟩ := a0.cells
    obtain ⟨a1_0, a1_1, a1_2⟩ := a1.cells
    go_enter Try.func12, Try.ntmps12
    go_wp2_with fail
    rw [← Hw.out]
    clear a0_0 a0_1 a1_0 a1_1 a1_2
    refine (szCm_yes L0.length C0.length A0 B0 c0 d0 _ (by omega) (by omega) _).mono ?_
    rintro e w2 ⟨rfl, hb⟩
    replace a0 := a0.call hb
    replace a1 := a1.call hb
    replace Kw := belI_call Kw hb
    clear hb
    have z0 : ¬ ((1048576 : Int) - (((L0.length + C0.length) : Nat) : Int)) < 0 := by omega
    obtain ⟨a0_0, a0_1⟩ := a0.cells
    obtain ⟨a1_0, a1_1, a1_2⟩ := a1.cells
    go_wp2_with fail
    clear a0_0 a0_1 a1_0 a1_1 a1_2
    have q0 : (0 : Int) ≤ ((1048576 : Int) - (((L0.length + C0.length) : Nat) : Int)) := by omega
    have q1 : ((1048576 : Int) - (((L0.length + C0.length) : Nat) : Int)) < ((L1.length : Nat) : Int) := by omega
    refine (szIm_no X1 Y1 L1.length A1 c1 hm1 _ q0 q1 _).mono ?_
    rintro e w3 ⟨rfl, hb⟩
    replace a0 := a0.call hb
    replace a1 := a1.call hb
    replace Kw := belI_call Kw hb
    clear hb
    go_wp2_with fail
    go_ret
    exact ⟨rfl, Kw⟩
  have n0 : L0.length ≤ 1048576 := by omega
  have n1 : L1.length ≤ 1048576 := by omega
  have n0c : C0.length ≤ 1048576 := by omega
  have Hn0c := Lib.hid n0c
  have Hn0 := Lib.hid n0
  have Hn1 := Lib.hid n1
  obtain ⟨XR, YR, LR, hR, hlR⟩ : ∃ X Y L, corIm L0 C0 X1 Y1 L1 = ⟨X, Y, L⟩ ∧ L.length ≤ 4194304 := ⟨_, _, _, rfl, (by have := corIm_len L0 C0 X1 Y1 L1; show (corIm L0 C0 X1 Y1 L1).d.length ≤ _; omega)⟩
  have PS := fun (W : World) u0 u0c k0 k0c u1 k1 => cimgS u0 u0c L0 C0 X1 Y1 u1 L1 W k0 k0c k1
  have PI := fun (W : World) u0 u0c k0 k0c u1 k1 => cimgI u0 u0c L0 C0 X1 Y1 u1 L1 W k0 k0c k1
  unfold AnsIm at PS PI
  rw [hR] at PS PI
  dsimp only at PS PI
  have HS := Lib.hid PS
  have HI := Lib.hid PI
  clear PS PI hR
  obtain ⟨a0_0, a0_1⟩ := a0.cells
  obtain ⟨a1_0, a1_1, a1_2⟩ := a1.cells
  go_enter Try.func12, Try.ntmps12
  go_wp2_with fail
  rw [← Hw.out]
  clear a0_0 a0_1 a1_0 a1_1 a1_2
  refine (szCm_yes L0.length C0.length A0 B0 c0 d0 _ (by omega) (by omega) _).mono ?_
  rintro e w4 ⟨rfl, hb⟩
  replace a0 := a0.call hb
  replace a1 := a1.call hb
  replace Kw := belI_call Kw hb
  clear hb
  have z0 : ¬ ((1048576 : Int) - (((L0.length + C0.length) : Nat) : Int)) < 0 := by omega
  obtain ⟨a0_0, a0_1⟩ := a0.cells
  obtain ⟨a1_0, a1_1, a1_2⟩ := a1.cells
  go_wp2_with fail
  clear a0_0 a0_1 a1_0 a1_1 a1_2
  refine (szIm_yes X1 Y1 L1.length A1 c1 _ (by omega) (by omega) _).mono ?_
  rintro e w5 ⟨rfl, hb⟩
  replace a0 := a0.call hb
  replace a1 := a1.call hb
  replace Kw := belI_call Kw hb
  clear hb
  have z1 : ¬ (((1048576 : Int) - (((L0.length + C0.length) : Nat) : Int)) - ((L1.length : Nat) : Int)) < 0 := by omega
  have neg1 : ¬ ((1 + LR.length : Nat) : Int) < 0 := by omega
  obtain ⟨a0_0, a0_1⟩ := a0.cells
  obtain ⟨a1_0, a1_1, a1_2⟩ := a1.cells
  go_upto_region 8 with fail
  clear a0_0 a0_1 a1_0 a1_1 a1_2
  go_cut [6] (fun s6 wx => ∃ (b hi : Nat) (A : Option Addr) (c : Nat), s6 = .pointer (some ⟨b, 0, none⟩) ∧ ImV w5.heap.size hi b XR YR (.slice A LR.length c) LR wx ∧ Below w5.heap.size w5 wx)
  case first =>
    refine wp_region_held_drew (S := fun W => Below w5.heap.size w5 W) (by kernel_rfl) (Below.refl _ _).drew (fun hS => ?_)
    refine wpAnyH_take (i := 0) (v := .agg #[.slice A0 L0.length c0, .slice B0 C0.length d0]) rfl (by kernel_rfl) (by kernel_rfl) (by kernel_rfl) (fun _ _ _ h => h) (Or.inl ⟨by kernel_rfl, by intro w' hSw; (try dsimp only at hSw); (obtain ⟨a0_0, a0_1⟩ := (a0.call hSw).cells); (obtain ⟨a1_0, a1_1, a1_2⟩ := (a1.call hSw).cells); go_simp⟩) (by assumption) ?_
    refine wpAnyH_take (i := 2) (v := .agg #[.int .i64 X1, .int .i64 Y1, .slice A1 L1.length c1]) rfl (by kernel_rfl) (by kernel_rfl) (by kernel_rfl) (fun _ _ _ h => h) (Or.inl ⟨by kernel_rfl, by intro w' hSw; (try dsimp only at hSw); (obtain ⟨a0_0, a0_1⟩ := (a0.call hSw).cells); (obtain ⟨a1_0, a1_1, a1_2⟩ := (a1.call hSw).cells); go_simp⟩) (by assumption) ?_
    (try simp only [Act.put]); (try simp only [List.setIfInBounds_toArray]); (try simp only [List.set_cons_zero, List.set_cons_succ])
    refine wpAnyH_ready (rs := [1, 5]) (by kernel_rfl) (by simp) ?_
    refine (AllReadyH.cons rfl (fun K hK => ?_) (AllReadyH.cons rfl (fun K hK => ?_) AllReadyH.nil))
    · rw [if_pos (by kernel_rfl)]
      (try simp only [List.getElem_toArray]); (try simp only [List.getElem_cons_succ]); (try simp only [List.getElem_cons_zero])
      go_simp
      with_reducible refine (toCm _ _ L0 C0 _ Hn0.out Hn0c.out (a0.call hS).rm (a0.call hS).rc).mono ?_
      rintro e W' ⟨vo, vp, rfl, u1, u1c, u1n, hb⟩
      obtain ⟨A_u1, c_u1, he⟩ := ownI_shape u1
      subst he
      obtain ⟨B_u1, d_u1, he⟩ := ownI_shape u1c
      subst he
      dsimp only
      refine hK.out _ _ (belI_call hS hb) (fun hS => ?_)
      clear hK
      (try simp only [Act.put]); (try simp only [List.setIfInBounds_toArray]); (try simp only [List.set_cons_zero, List.set_cons_succ])
      refine wpAnyH_ready (rs := [3, 5]) (by kernel_rfl) (by simp) ?_
      refine (AllReadyH.cons rfl (fun K hK => ?_) (AllReadyH.cons rfl (fun K hK => ?_) AllReadyH.nil))
      · rw [if_pos (by kernel_rfl)]
        (try simp only [List.getElem_toArray]); (try simp only [List.getElem_cons_succ]); (try simp only [List.getElem_cons_zero])
        go_simp
        with_reducible refine (toIm X1 Y1 _ L1 _ Hn1.out (a1.call hS).rd).mono ?_
        rintro e W' ⟨vo, rfl, u2, hb⟩
        obtain ⟨A_u2, c_u2, he⟩ := ownI_shape u2
        subst he
        dsimp only
        have u1 := ownI_call u1 hb
        have u1c := ownI_call u1c hb
        refine hK.out _ _ (belI_call hS hb) (fun hS => ?_)
        clear hK
        (try simp only [Act.put]); (try simp only [List.setIfInBounds_toArray]); (try simp only [List.set_cons_zero, List.set_cons_succ])
        refine wpAnyH_ready (rs := [4, 5]) (by kernel_rfl) (by simp) ?_
        refine (AllReadyH.cons rfl (fun K hK => ?_) (AllReadyH.cons rfl (fun K hK => ?_) AllReadyH.nil))
        · rw [if_pos (by kernel_rfl)]
          (try simp only [List.getElem_toArray]); (try simp only [List.getElem_cons_succ]); (try simp only [List.getElem_cons_zero])
          go_simp
          with_reducible refine (HS.out _ _ _ (RdI.of_own u1) (RdI.of_own u1c) _ (RdI.of_own u2)).mono ?_
          rintro e W' ⟨vo, rfl, u3, hb⟩
          obtain ⟨A_u3, c_u3, he⟩ := ownI_shape u3
          subst he
          replace u3 := u3.mono hS.size
          dsimp only
          have u1 := ownI_call u1 hb
          have u1c := ownI_call u1c hb
          have u2 := ownI_call u2 hb
          refine hK.out _ _ (belI_call hS hb) (fun hS => ?_)
          clear hK
          (try simp only [Act.put]); (try simp only [List.setIfInBounds_toArray]); (try simp only [List.set_cons_zero, List.set_cons_succ])
          refine wpAnyH_ready (rs := [5]) (by kernel_rfl) (by simp) ?_
          refine (AllReadyH.cons rfl (fun K hK => ?_) AllReadyH.nil)
          · rw [if_pos (by kernel_rfl)]
            (try simp only [List.getElem_toArray]); (try simp only [List.getElem_cons_succ]); (try simp only [List.getElem_cons_zero])
            refine wp_alloc_im 28 zero26 6 rfl rfl ?_
            intro bB W' hb GB lB
            have kB := Nat.le_trans hS.size lB
            have nB : ∀ k, (Value.slice A_u3 LR.length c_u3).ownBlock = some k → k ≠ bB := fun k hk => by have := (u3.lt k hk).2; omega
            have u1 := ownI_call u1 hb
            have u1c := ownI_call u1c hb
            have u2 := ownI_call u2 hb
            have u3 := ownI_call u3 hb
            refine hK.out _ _ (belI_call hS hb) (fun hS => ?_)
            clear hK
            (try simp only [Act.put]); (try simp only [List.setIfInBounds_toArray]); (try simp only [List.set_cons_zero, List.set_cons_succ])
            refine wpAnyH_ready (rs := [6]) (by kernel_rfl) (by simp) ?_
            refine (AllReadyH.cons rfl (fun K hK => ?_) AllReadyH.nil)
            · rw [if_pos (by kernel_rfl)]
              (try simp only [List.getElem_toArray]); (try simp only [List.getElem_cons_succ]); (try simp only [List.getElem_cons_zero])
              refine wp_store_im 28 size26 (.tmp 6) (.tmp 28) rfl bB 0 0 (.slice none 0 0) XR YR A_u3 LR.length c_u3 rfl (by first | with_reducible rfl | (go_simp; done) | rfl) GB ?_
              intro W3 IB hgB
              skip
              skip
              skip
              replace u3 := u3.kept hgB (ownA_ne nB)
              skip
              refine hK.out _ _ (hS.grown hgB hS.size (fun k hk => by injection hk with hk; omega)) (fun hS => ?_)
              clear hK
              (try simp only [Act.put]); (try simp only [List.setIfInBounds_toArray]); (try simp only [List.set_cons_zero, List.set_cons_succ])
              refine wpAnyH_done (by kernel_rfl) ?_ _
              go_wp2_with fail
              go_meet
              case rel => exact ⟨bB, _, _, _, rfl, ImV.made IB u3 kB nB, hS⟩
        · rw [if_pos (by kernel_rfl)]
          (try simp only [List.getElem_toArray]); (try simp only [List.getElem_cons_succ]); (try simp only [List.getElem_cons_zero])
          refine wp_alloc_im 28 zero26 6 rfl rfl ?_
          intro bB W' hb GB lB
          have kB := Nat.le_trans hS.size lB
          have u1 := ownI_call u1 hb
          have u1c := ownI_call u1c hb
          have u2 := ownI_call u2 hb
          refine hK.out _ _ (belI_call hS hb) (fun hS => ?_)
          clear hK
          (try simp only [Act.put]); (try simp only [List.setIfInBounds_toArray]); (try simp only [List.set_cons_zero, List.set_cons_succ])
          refine wpAnyH_ready (rs := [4]) (by kernel_rfl) (by simp) ?_
          refine (AllReadyH.cons rfl (fun K hK => ?_) AllReadyH.nil)
          · rw [if_pos (by kernel_rfl)]
            (try simp only [List.getElem_toArray]); (try simp only [List.getElem_cons_succ]); (try simp only [List.getElem_cons_zero])
            go_simp
            with_reducible refine (HS.out _ _ _ (RdI.of_own u1) (RdI.of_own u1c) _ (RdI.of_own u2)).mono ?_
            rintro e W' ⟨vo, rfl, u3, hb⟩
            obtain ⟨A_u3, c_u3, he⟩ := ownI_shape u3
            subst he
            have nB : ∀ k, (Value.slice A_u3 LR.length c_u3).ownBlock = some k → k ≠ bB := fun k hk => by have := (u3.lt k hk).1; have := (Array.getElem?_eq_some_iff.1 GB).1; omega
            replace u3 := u3.mono hS.size
            dsimp only
            have u1 := ownI_call u1 hb
            have u1c := ownI_call u1c hb
            have u2 := ownI_call u2 hb
            have GB := blk_call GB hb
            refine hK.out _ _ (belI_call hS hb) (fun hS => ?_)
            clear hK
            (try simp only [Act.put]); (try simp only [List.setIfInBounds_toArray]); (try simp only [List.set_cons_zero, List.set_cons_succ])
            refine wpAnyH_ready (rs := [6]) (by kernel_rfl) (by simp) ?_
            refine (AllReadyH.cons rfl (fun K hK => ?_) AllReadyH.nil)
            · rw [if_pos (by kernel_rfl)]
              (try simp only [List.getElem_toArray]); (try simp only [List.getElem_cons_succ]); (try simp only [List.getElem_cons_zero])
              refine wp_store_im 28 size26 (.tmp 6) (.tmp 28) rfl bB 0 0 (.slice none 0 0) XR YR A_u3 LR.length c_u3 rfl (by first | with_reducible rfl | (go_simp; done) | rfl) GB ?_
              intro W3 IB hgB
              skip
              skip
              skip
              skip
              replace u3 := u3.kept hgB (ownA_ne nB)
              refine hK.out _ _ (hS.grown hgB hS.size (fun k hk => by injection hk with hk; omega)) (fun hS => ?_)
              clear hK
              (try simp only [Act.put]); (try simp only [List.setIfInBounds_toArray]); (try simp only [List.set_cons_zero, List.set_cons_succ])
              refine wpAnyH_done (by kernel_rfl) ?_ _
              go_wp2_with fail
              go_meet
              case rel => exact ⟨bB, _, _, _, rfl, ImV.made IB u3 kB nB, hS⟩
      · rw [if_pos (by kernel_rfl)]
        (try simp only [List.getElem_toArray]); (try simp only [List.getElem_cons_succ]); (try simp only [List.getElem_cons_zero])
        refine wp_alloc_im 28 zero26 6 rfl rfl ?_
        intro bB W' hb GB lB
        have kB := Nat.le_trans hS.size lB
        have u1 := ownI_call u1 hb
        have u1c := ownI_call u1c hb
        refine hK.out _ _ (belI_call hS hb) (fun hS => ?_)
        clear hK
        (try simp only [Act.put]); (try simp only [List.setIfInBounds_toArray]); (try simp only [List.set_cons_zero, List.set_cons_succ])
        refine wpAnyH_ready (rs := [3]) (by kernel_rfl) (by simp) ?_
        refine (AllReadyH.cons rfl (fun K hK => ?_) AllReadyH.nil)
        · rw [if_pos (by kernel_rfl)]
          (try simp only [List.getElem_toArray]); (try simp only [List.getElem_cons_succ]); (try simp only [List.getElem_cons_zero])
          go_simp
          with_reducible refine (toIm X1 Y1 _ L1 _ Hn1.out (a1.call hS).rd).mono ?_
          rintro e W' ⟨vo, rfl, u2, hb⟩
          obtain ⟨A_u2, c_u2, he⟩ := ownI_shape u2
          subst he
          dsimp only
          have u1 := ownI_call u1 hb
          have u1c := ownI_call u1c hb
          have GB := blk_call GB hb
          refine hK.out _ _ (belI_call hS hb) (fun hS => ?_)
          clear hK
          (try simp only [Act.put]); (try simp only [List.setIfInBounds_toArray]); (try simp only [List.set_cons_zero, List.set_cons_succ])
          refine wpAnyH_ready (rs := [4]) (by kernel_rfl) (by simp) ?_
          refine (AllReadyH.cons rfl (fun K hK => ?_) AllReadyH.nil)
          · rw [if_pos (by kernel_rfl)]
            (try simp only [List.getElem_toArray]); (try simp only [List.getElem_cons_succ]); (try simp only [List.getElem_cons_zero])
            go_simp
            with_reducible refine (HS.out _ _ _ (RdI.of_own u1) (RdI.of_own u1c) _ (RdI.of_own u2)).mono ?_
            rintro e W' ⟨vo, rfl, u3, hb⟩
            obtain ⟨A_u3, c_u3, he⟩ := ownI_shape u3
            subst he
            have nB : ∀ k, (Value.slice A_u3 LR.length c_u3).ownBlock = some k → k ≠ bB := fun k hk => by have := (u3.lt k hk).1; have := (Array.getElem?_eq_some_iff.1 GB).1; omega
            replace u3 := u3.mono hS.size
            dsimp only
            have u1 := ownI_call u1 hb
            have u1c := ownI_call u1c hb
            have GB := blk_call GB hb
            have u2 := ownI_call u2 hb
            refine hK.out _ _ (belI_call hS hb) (fun hS => ?_)
            clear hK
            (try simp only [Act.put]); (try simp only [List.setIfInBounds_toArray]); (try simp only [List.set_cons_zero, List.set_cons_succ])
            refine wpAnyH_ready (rs := [6]) (by kernel_rfl) (by simp) ?_
            refine (AllReadyH.cons rfl (fun K hK => ?_) AllReadyH.nil)
            · rw [if_pos (by kernel_rfl)]
              (try simp only [List.getElem_toArray]); (try simp only [List.getElem_cons_succ]); (try simp only [List.getElem_cons_zero])
              refine wp_store_im 28 size26 (.tmp 6) (.tmp 28) rfl bB 0 0 (.slice none 0 0) XR YR A_u3 LR.length c_u3 rfl (by first | with_reducible rfl | (go_simp; done) | rfl) GB ?_
              intro W3 IB hgB
              skip
              skip
              skip
              skip
              replace u3 := u3.kept hgB (ownA_ne nB)
              refine hK.out _ _ (hS.grown hgB hS.size (fun k hk => by injection hk with hk; omega)) (fun hS => ?_)
              clear hK
              (try simp only [Act.put]); (try simp only [List.setIfInBounds_toArray]); (try simp only [List.set_cons_zero, List.set_cons_succ])
              refine wpAnyH_done (by kernel_rfl) ?_ _
              go_wp2_with fail
              go_meet
              case rel => exact ⟨bB, _, _, _, rfl, ImV.made IB u3 kB nB, hS⟩
    · rw [if_pos (by kernel_rfl)]
      (try simp only [List.getElem_toArray]); (try simp only [List.getElem_cons_succ]); (try simp only [List.getElem_cons_zero])
      refine wp_alloc_im 28 zero26 6 rfl rfl ?_
      intro bB W' hb GB lB
      have kB := Nat.le_trans hS.size lB
      refine hK.out _ _ (belI_call hS hb) (fun hS => ?_)
      clear hK
      (try simp only [Act.put]); (try simp only [List.setIfInBounds_toArray]); (try simp only [List.set_cons_zero, List.set_cons_succ])
      refine wpAnyH_ready (rs := [1]) (by kernel_rfl) (by simp) ?_
      refine (AllReadyH.cons rfl (fun K hK => ?_) AllReadyH.nil)
      · rw [if_pos (by kernel_rfl)]
        (try simp only [List.getElem_toArray]); (try simp only [List.getElem_cons_succ]); (try simp only [List.getElem_cons_zero])
        go_simp
        with_reducible refine (toCm _ _ L0 C0 _ Hn0.out Hn0c.out (a0.call hS).rm (a0.call hS).rc).mono ?_
        rintro e W' ⟨vo, vp, rfl, u1, u1c, u1n, hb⟩
        obtain ⟨A_u1, c_u1, he⟩ := ownI_shape u1
        subst he
        obtain ⟨B_u1, d_u1, he⟩ := ownI_shape u1c
        subst he
        dsimp only
        have GB := blk_call GB hb
        refine hK.out _ _ (belI_call hS hb) (fun hS => ?_)
        clear hK
        (try simp only [Act.put]); (try simp only [List.setIfInBounds_toArray]); (try simp only [List.set_cons_zero, List.set_cons_succ])
        refine wpAnyH_ready (rs := [3]) (by kernel_rfl) (by simp) ?_
        refine (AllReadyH.cons rfl (fun K hK => ?_) AllReadyH.nil)
        · rw [if_pos (by kernel_rfl)]
          (try simp only [List.getElem_toArray]); (try simp only [List.getElem_cons_succ]); (try simp only [List.getElem_cons_zero])
          go_simp
          with_reducible refine (toIm X1 Y1 _ L1 _ Hn1.out (a1.call hS).rd).mono ?_
          rintro e W' ⟨vo, rfl, u2, hb⟩
          obtain ⟨A_u2, c_u2, he⟩ := ownI_shape u2
          subst he
          dsimp only
          have GB := blk_call GB hb
          have u1 := ownI_call u1 hb
          have u1c := ownI_call u1c hb
          refine hK.out _ _ (belI_call hS hb) (fun hS => ?_)
          clear hK
          (try simp only [Act.put]); (try simp only [List.setIfInBounds_toArray]); (try simp only [List.set_cons_zero, List.set_cons_succ])
          refine wpAnyH_ready (rs := [4]) (by kernel_rfl) (by simp) ?_
          refine (AllReadyH.cons rfl (fun K hK => ?_) AllReadyH.nil)
          · rw [if_pos (by kernel_rfl)]
            (try simp only [List.getElem_toArray]); (try simp only [List.getElem_cons_succ]); (try simp only [List.getElem_cons_zero])
            go_simp
            with_reducible refine (HS.out _ _ _ (RdI.of_own u1) (RdI.of_own u1c) _ (RdI.of_own u2)).mono ?_
            rintro e W' ⟨vo, rfl, u3, hb⟩
            obtain ⟨A_u3, c_u3, he⟩ := ownI_shape u3
            subst he
            have nB : ∀ k, (Value.slice A_u3 LR.length c_u3).ownBlock = some k → k ≠ bB := fun k hk => by have := (u3.lt k hk).1; have := (Array.getElem?_eq_some_iff.1 GB).1; omega
            replace u3 := u3.mono hS.size
            dsimp only
            have GB := blk_call GB hb
            have u1 := ownI_call u1 hb
            have u1c := ownI_call u1c hb
            have u2 := ownI_call u2 hb
            refine hK.out _ _ (belI_call hS hb) (fun hS => ?_)
            clear hK
            (try simp only [Act.put]); (try simp only [List.setIfInBounds_toArray]); (try simp only [List.set_cons_zero, List.set_cons_succ])
            refine wpAnyH_ready (rs := [6]) (by kernel_rfl) (by simp) ?_
            refine (AllReadyH.cons rfl (fun K hK => ?_) AllReadyH.nil)
            · rw [if_pos (by kernel_rfl)]
              (try simp only [List.getElem_toArray]); (try simp only [List.getElem_cons_succ]); (try simp only [List.getElem_cons_zero])
              refine wp_store_im 28 size26 (.tmp 6) (.tmp 28) rfl bB 0 0 (.slice none 0 0) XR YR A_u3 LR.length c_u3 rfl (by first | with_reducible rfl | (go_simp; done) | rfl) GB ?_
              intro W3 IB hgB
              skip
              skip
              skip
              skip
              replace u3 := u3.kept hgB (ownA_ne nB)
              refine hK.out _ _ (hS.grown hgB hS.size (fun k hk => by injection hk with hk; omega)) (fun hS => ?_)
              clear hK
              (try simp only [Act.put]); (try simp only [List.setIfInBounds_toArray]); (try simp only [List.set_cons_zero, List.set_cons_succ])
              refine wpAnyH_done (by kernel_rfl) ?_ _
              go_wp2_with fail
              go_meet
              case rel => exact ⟨bB, _, _, _, rfl, ImV.made IB u3 kB nB, hS⟩
  case rest =>
    obtain ⟨b_V4, hi_V4, A_V4, c_V4, rfl, V4, hb⟩ := hcut
    obtain ⟨w6, hWy⟩ : ∃ w6, w6 = wc := ⟨_, rfl⟩
    subst hWy
    have hlo_V4 := Lib.hid Kw.size
    have hl_a0_V4 := Lib.hid a0.lt
    have hl_a1_V4 := Lib.hid a1.lt
    replace a0 := a0.call hb
    replace a1 := a1.call hb
    replace Kw := belI_call Kw hb
    clear hb
    obtain ⟨a0_0, a0_1⟩ := a0.cells
    obtain ⟨a1_0, a1_1, a1_2⟩ := a1.cells
    obtain ⟨V4_0, V4_1, V4_2⟩ := V4.cells
    go_wp2_with fail
    clear a0_0 a0_1 a1_0 a1_1 a1_2 V4_0 V4_1 V4_2
    refine (toCm _ _ L0 C0 _ Hn0.out Hn0c.out a0.rm a0.rc).mono ?_
    rintro e w7 ⟨vo, vp, rfl, u5, u5c, u5n, hb⟩
    obtain ⟨A_u5, c_u5, he⟩ := ownI_shape u5
    subst he
    obtain ⟨B_u5, d_u5, he⟩ := ownI_shape u5c
    subst he
    have hs_V4_V6 := Lib.hid V4.hs
    have hlo_V6 := Lib.hid Kw.size
    have hl_a0_V6 := Lib.hid a0.lt
    have hl_a1_V6 := Lib.hid a1.lt
    have V6 := CmV.born hb u5 u5c u5n
    replace hb := belI_call hb (belI_box w7 (.cells #[.slice A_u5 L0.length c_u5, .slice B_u5 C0.length d_u5] 49))
    replace a0 := a0.call hb
    replace a1 := a1.call hb
    replace V4 := V4.call hb
    replace Kw := belI_call Kw hb
    clear hb u5 u5c u5n
    obtain ⟨a0_0, a0_1⟩ := a0.cells
    obtain ⟨a1_0, a1_1, a1_2⟩ := a1.cells
    obtain ⟨V4_0, V4_1, V4_2⟩ := V4.cells
    obtain ⟨V6_0, V6_1⟩ := V6.cells
    go_wp2_with fail
    clear a0_0 a0_1 a1_0 a1_1 a1_2 V4_0 V4_1 V4_2 V6_0 V6_1
    refine (toIm X1 Y1 _ L1 _ Hn1.out a1.rd).mono ?_
    rintro e w8 ⟨vo, rfl, u7, hb⟩
    obtain ⟨A_u7, c_u7, he⟩ := ownI_shape u7
    subst he
    have hs_V4_V8 := Lib.hid V4.hs
    have hs_V6_V8 := Lib.hid V6.hs
    have hlo_V8 := Lib.hid Kw.size
    have hl_a0_V8 := Lib.hid a0.lt
    have hl_a1_V8 := Lib.hid a1.lt
    have V8 := ImV.born (X := X1) (Y := Y1) hb u7
    replace hb := belI_call hb (belI_box w8 (.cells #[.int .i64 X1, .int .i64 Y1, .slice A_u7 L1.length c_u7] 28))
    replace a0 := a0.call hb
    replace a1 := a1.call hb
    replace V4 := V4.call hb
    replace V6 := V6.call hb
    replace Kw := belI_call Kw hb
    clear hb u7
    obtain ⟨a0_0, a0_1⟩ := a0.cells
    obtain ⟨a1_0, a1_1, a1_2⟩ := a1.cells
    obtain ⟨V4_0, V4_1, V4_2⟩ := V4.cells
    obtain ⟨V6_0, V6_1⟩ := V6.cells
    obtain ⟨V8_0, V8_1, V8_2⟩ := V8.cells
    go_wp2_with fail
    clear a0_0 a0_1 a1_0 a1_1 a1_2 V4_0 V4_1 V4_2 V6_0 V6_1 V8_0 V8_1 V8_2
    refine (HI.out _ _ _ V6.rm V6.rc _ V8.rd).mono ?_
    rintro e w9 ⟨vo, rfl, u9, hb⟩
    obtain ⟨A_u9, c_u9, he⟩ := ownI_shape u9
    subst he
    have hs_V4_V10 := Lib.hid V4.hs
    have hs_V6_V10 := Lib.hid V6.hs
    have hs_V8_V10 := Lib.hid V8.hs
    have hlo_V10 := Lib.hid Kw.size
    have hl_a0_V10 := Lib.hid a0.lt
    have hl_a1_V10 := Lib.hid a1.lt
    have V10 := ImV.born (X := XR) (Y := YR) hb u9
    replace hb := belI_call hb (belI_box w9 (.cells #[.int .i64 XR, .int .i64 YR, .slice A_u9 LR.length c_u9] 28))
    replace a0 := a0.call hb
    replace a1 := a1.call hb
    replace V4 := V4.call hb
    replace V6 := V6.call hb
    replace V8 := V8.call hb
    replace Kw := belI_call Kw hb
    clear hb u9
    obtain ⟨a0_0, a0_1⟩ := a0.cells
    obtain ⟨a1_0, a1_1, a1_2⟩ := a1.cells
    obtain ⟨V4_0, V4_1, V4_2⟩ := V4.cells
    obtain ⟨V6_0, V6_1⟩ := V6.cells
    obtain ⟨V8_0, V8_1, V8_2⟩ := V8.cells
    obtain ⟨V10_0, V10_1, V10_2⟩ := V10.cells
    go_wp2_with fail
    clear a0_0 a0_1 a1_0 a1_1 a1_2 V4_0 V4_1 V4_2 V6_0 V6_1 V8_0 V8_1 V8_2 V10_0 V10_1 V10_2
    refine (eqIm_same _ _ _ _ LR _ V10.rd V4.rd).mono ?_
    rintro e w10 ⟨rfl, hb⟩
    replace a0 := a0.call hb
    replace a1 := a1.call hb
    replace V4 := V4.call hb
    replace V6 := V6.call hb
    replace V8 := V8.call hb
    replace V10 := V10.call hb
    replace Kw := belI_call Kw hb
    clear hb
    obtain ⟨a0_0, a0_1⟩ := a0.cells
    obtain ⟨a1_0, a1_1, a1_2⟩ := a1.cells
    obtain ⟨V4_0, V4_1, V4_2⟩ := V4.cells
    obtain ⟨V6_0, V6_1⟩ := V6.cells
    obtain ⟨V8_0, V8_1, V8_2⟩ := V8.cells
    obtain ⟨V10_0, V10_1, V10_2⟩ := V10.cells
    go_upto_region 14 with fail
    clear a0_0 a0_1 a1_0 a1_1 a1_2 V4_0 V4_1 V4_2 V6_0 V6_1 V8_0 V8_1 V8_2 V10_0 V10_1 V10_2
    refine wp_region_held_drew (S := fun W => Below w10.heap.size w10 W) (by kernel_rfl) (Below.refl _ _).drew (fun hS => ?_)
    refine wpAnyH_take (i := 0) (v := .agg #[.slice A_u5 L0.length c_u5, .slice B_u5 C0.length d_u5]) rfl (by kernel_rfl) (by kernel_rfl) (by kernel_rfl) (fun _ _ _ h => h) (Or.inl ⟨by kernel_rfl, by intro w' hSw; (try dsimp only at hSw); (obtain ⟨a0_0, a0_1⟩ := (a0.call hSw).cells); (obtain ⟨a1_0, a1_1, a1_2⟩ := (a1.call hSw).cells); (obtain ⟨V4_0, V4_1, V4_2⟩ := (V4.call hSw).cells); (obtain ⟨V6_0, V6_1⟩ := (V6.call hSw).cells); (obtain ⟨V8_0, V8_1, V8_2⟩ := (V8.call hSw).cells); (obtain ⟨V10_0, V10_1, V10_2⟩ := (V10.call hSw).cells); go_simp⟩) (by assumption) ?_
    refine wpAnyH_take (i := 1) (v := .agg #[.slice A0 L0.length c0, .slice B0 C0.length d0]) rfl (by kernel_rfl) (by kernel_rfl) (by kernel_rfl) (fun _ _ _ h => h) (Or.inl ⟨by kernel_rfl, by intro w' hSw; (try dsimp only at hSw); (obtain ⟨a0_0, a0_1⟩ := (a0.call hSw).cells); (obtain ⟨a1_0, a1_1, a1_2⟩ := (a1.call hSw).cells); (obtain ⟨V4_0, V4_1, V4_2⟩ := (V4.call hSw).cells); (obtain ⟨V6_0, V6_1⟩ := (V6.call hSw).cells); (obtain ⟨V8_0, V8_1, V8_2⟩ := (V8.call hSw).cells); (obtain ⟨V10_0, V10_1, V10_2⟩ := (V10.call hSw).cells); go_simp⟩) (by assumption) ?_
    (try simp only [Act.put]); (try simp only [List.setIfInBounds_toArray]); (try simp only [List.set_cons_zero, List.set_cons_succ])
    refine wpAnyH_ready (rs := [2]) (by kernel_rfl) (by simp) ?_
    refine (AllReadyH.cons rfl (fun K hK => ?_) AllReadyH.nil)
    · rw [if_pos (by kernel_rfl)]
      (try simp only [List.getElem_toArray]); (try simp only [List.getElem_cons_succ]); (try simp only [List.getElem_cons_zero])
      go_simp
      with_reducible refine (toCm _ _ L0 C0 _ Hn0.out Hn0c.out (a0.call hS).rm (a0.call hS).rc).mono ?_
      rintro e W' ⟨vo, vp, rfl, u11, u11c, u11n, hb⟩
      obtain ⟨A_u11, c_u11, he⟩ := ownI_shape u11
      subst he
      obtain ⟨B_u11, d_u11, he⟩ := ownI_shape u11c
      subst he
      dsimp only
      refine hK.out _ _ (belI_call hS hb) (fun hS => ?_)
      clear hK
      (try simp only [Act.put]); (try simp only [List.setIfInBounds_toArray]); (try simp only [List.set_cons_zero, List.set_cons_succ])
      refine wpAnyH_ready (rs := [3]) (by kernel_rfl) (by simp) ?_
      refine (AllReadyH.cons rfl (fun K hK => ?_) AllReadyH.nil)
      · rw [if_pos (by kernel_rfl)]
        (try simp only [List.getElem_toArray]); (try simp only [List.getElem_cons_succ]); (try simp only [List.getElem_cons_zero])
        go_simp
        with_reducible refine (eqCm_same _ _ _ _ L0 C0 _ (V6.call hS).rm (V6.call hS).rc (RdI.of_own u11) (RdI.of_own u11c)).mono ?_
        rintro e W' ⟨rfl, hb⟩
        dsimp only
        have u11 := ownI_call u11 hb
        have u11c := ownI_call u11c hb
        refine hK.out _ _ (belI_call hS hb) (fun hS => ?_)
        clear hK
        (try simp only [Act.put]); (try simp only [List.setIfInBounds_toArray]); (try simp only [List.set_cons_zero, List.set_cons_succ])
        refine wpAnyH_take (i := 4) (v := .bool false) rfl (by kernel_rfl) (by kernel_rfl) (by kernel_rfl) (fun _ _ _ h => h) (Or.inl ⟨by kernel_rfl, by intro w' hSw; (try dsimp only at hSw); (obtain ⟨a0_0, a0_1⟩ := (a0.call hSw).cells); (obtain ⟨a1_0, a1_1, a1_2⟩ := (a1.call hSw).cells); (obtain ⟨V4_0, V4_1, V4_2⟩ := (V4.call hSw).cells); (obtain ⟨V6_0, V6_1⟩ := (V6.call hSw).cells); (obtain ⟨V8_0, V8_1, V8_2⟩ := (V8.call hSw).cells); (obtain ⟨V10_0, V10_1, V10_2⟩ := (V10.call hSw).cells); go_simp⟩) (by assumption) ?_
        refine wpAnyH_done (by kernel_rfl) ?_ _
        have hb := hS
        replace a0 := a0.call hb
        replace a1 := a1.call hb
        replace V4 := V4.call hb
        replace V6 := V6.call hb
        replace V8 := V8.call hb
        replace V10 := V10.call hb
        replace Kw := belI_call Kw hb
        clear hb hS
        obtain ⟨w11, hWy⟩ : ∃ w11, w11 = W' := ⟨_, rfl⟩
        subst hWy
        obtain ⟨a0_0, a0_1⟩ := a0.cells
        obtain ⟨a1_0, a1_1, a1_2⟩ := a1.cells
        obtain ⟨V4_0, V4_1, V4_2⟩ := V4.cells
        obtain ⟨V6_0, V6_1⟩ := V6.cells
        obtain ⟨V8_0, V8_1, V8_2⟩ := V8.cells
        obtain ⟨V10_0, V10_1, V10_2⟩ := V10.cells
        go_upto_region 16 with fail
        clear a0_0 a0_1 a1_0 a1_1 a1_2 V4_0 V4_1 V4_2 V6_0 V6_1 V8_0 V8_1 V8_2 V10_0 V10_1 V10_2
        refine wp_region_held_drew (S := fun W => Below w11.heap.size w11 W) (by kernel_rfl) (Below.refl _ _).drew (fun hS => ?_)
        refine wpAnyH_take (i := 0) (v := .agg #[.int .i64 X1, .int .i64 Y1, .slice A_u7 L1.length c_u7]) rfl (by kernel_rfl) (by kernel_rfl) (by kernel_rfl) (fun _ _ _ h => h) (Or.inl ⟨by kernel_rfl, by intro w' hSw; (try dsimp only at hSw); (obtain ⟨a0_0, a0_1⟩ := (a0.call hSw).cells); (obtain ⟨a1_0, a1_1, a1_2⟩ := (a1.call hSw).cells); (obtain ⟨V4_0, V4_1, V4_2⟩ := (V4.call hSw).cells); (obtain ⟨V6_0, V6_1⟩ := (V6.call hSw).cells); (obtain ⟨V8_0, V8_1, V8_2⟩ := (V8.call hSw).cells); (obtain ⟨V10_0, V10_1, V10_2⟩ := (V10.call hSw).cells); go_simp⟩) (by assumption) ?_
        refine wpAnyH_take (i := 1) (v := .agg #[.int .i64 X1, .int .i64 Y1, .slice A1 L1.length c1]) rfl (by kernel_rfl) (by kernel_rfl) (by kernel_rfl) (fun _ _ _ h => h) (Or.inl ⟨by kernel_rfl, by intro w' hSw; (try dsimp only at hSw); (obtain ⟨a0_0, a0_1⟩ := (a0.call hSw).cells); (obtain ⟨a1_0, a1_1, a1_2⟩ := (a1.call hSw).cells); (obtain ⟨V4_0, V4_1, V4_2⟩ := (V4.call hSw).cells); (obtain ⟨V6_0, V6_1⟩ := (V6.call hSw).cells); (obtain ⟨V8_0, V8_1, V8_2⟩ := (V8.call hSw).cells); (obtain ⟨V10_0, V10_1, V10_2⟩ := (V10.call hSw).cells); go_simp⟩) (by assumption) ?_
        (try simp only [Act.put]); (try simp only [List.setIfInBounds_toArray]); (try simp only [List.set_cons_zero, List.set_cons_succ])
        refine wpAnyH_ready (rs := [2]) (by kernel_rfl) (by simp) ?_
        refine (AllReadyH.cons rfl (fun K hK => ?_) AllReadyH.nil)
        · rw [if_pos (by kernel_rfl)]
          (try simp only [List.getElem_toArray]); (try simp only [List.getElem_cons_succ]); (try simp only [List.getElem_cons_zero])
          go_simp
          with_reducible refine (toIm X1 Y1 _ L1 _ Hn1.out (a1.call hS).rd).mono ?_
          rintro e W' ⟨vo, rfl, u12, hb⟩
          obtain ⟨A_u12, c_u12, he⟩ := ownI_shape u12
          subst he
          dsimp only
          refine hK.out _ _ (belI_call hS hb) (fun hS => ?_)
          clear hK
          (try simp only [Act.put]); (try simp only [List.setIfInBounds_toArray]); (try simp only [List.set_cons_zero, List.set_cons_succ])
          refine wpAnyH_ready (rs := [3]) (by kernel_rfl) (by simp) ?_
          refine (AllReadyH.cons rfl (fun K hK => ?_) AllReadyH.nil)
          · rw [if_pos (by kernel_rfl)]
            (try simp only [List.getElem_toArray]); (try simp only [List.getElem_cons_succ]); (try simp only [List.getElem_cons_zero])
            go_simp
            with_reducible refine (eqIm_same _ _ _ _ L1 _ (V8.call hS).rd (RdI.of_own u12)).mono ?_
            rintro e W' ⟨rfl, hb⟩
            dsimp only
            have u12 := ownI_call u12 hb
            refine hK.out _ _ (belI_call hS hb) (fun hS => ?_)
            clear hK
            (try simp only [Act.put]); (try simp only [List.setIfInBounds_toArray]); (try simp only [List.set_cons_zero, List.set_cons_succ])
            refine wpAnyH_take (i := 4) (v := .bool false) rfl (by kernel_rfl) (by kernel_rfl) (by kernel_rfl) (fun _ _ _ h => h) (Or.inl ⟨by kernel_rfl, by intro w' hSw; (try dsimp only at hSw); (obtain ⟨a0_0, a0_1⟩ := (a0.call hSw).cells); (obtain ⟨a1_0, a1_1, a1_2⟩ := (a1.call hSw).cells); (obtain ⟨V4_0, V4_1, V4_2⟩ := (V4.call hSw).cells); (obtain ⟨V6_0, V6_1⟩ := (V6.call hSw).cells); (obtain ⟨V8_0, V8_1, V8_2⟩ := (V8.call hSw).cells); (obtain ⟨V10_0, V10_1, V10_2⟩ := (V10.call hSw).cells); go_simp⟩) (by assumption) ?_
            refine wpAnyH_done (by kernel_rfl) ?_ _
            have hb := hS
            replace a0 := a0.call hb
            replace a1 := a1.call hb
            replace V4 := V4.call hb
            replace V6 := V6.call hb
            replace V8 := V8.call hb
            replace V10 := V10.call hb
            replace Kw := belI_call Kw hb
            clear hb hS
            clear u12
            obtain ⟨w12, hWy⟩ : ∃ w12, w12 = W' := ⟨_, rfl⟩
            subst hWy
            obtain ⟨a0_0, a0_1⟩ := a0.cells
            obtain ⟨a1_0, a1_1, a1_2⟩ := a1.cells
            obtain ⟨V4_0, V4_1, V4_2⟩ := V4.cells
            obtain ⟨V6_0, V6_1⟩ := V6.cells
            obtain ⟨V8_0, V8_1, V8_2⟩ := V8.cells
            obtain ⟨V10_0, V10_1, V10_2⟩ := V10.cells
            go_wp2_with fail
            clear a0_0 a0_1 a1_0 a1_1 a1_2 V4_0 V4_1 V4_2 V6_0 V6_1 V8_0 V8_1 V8_2 V10_0 V10_1 V10_2
            refine (markCm _ _ _ L0 C0 (1) _ _ (by omega) (by omega) V6.o1 V6.o2 V6.ne).mono ?_
            rintro e w13 ⟨rfl, hown, howc, wmid, hg, hg2⟩
            replace Kw := belC_mark Kw V6 (by have := hlo_V6.out; omega) hg hg2
            replace a0 : CmA _ _ _ _ _ _ := ⟨(a0.at_.grown hg (fun e => by have := (V6.row _ (.inl e.symm)).1; have := hl_a0_V6.out; omega)).grown hg2 (fun e => by have := (V6.row _ (.inr e.symm)).1; have := hl_a0_V6.out; omega), O0.out.call Kw, O0c.out.call Kw⟩
            replace a1 : ImA _ _ _ _ _ _ := ⟨(a1.at_.grown hg (fun e => by have := (V6.row _ (.inl e.symm)).1; have := hl_a1_V6.out; omega)).grown hg2 (fun e => by have := (V6.row _ (.inr e.symm)).1; have := hl_a1_V6.out; omega), O1.out.call Kw⟩
            replace V4 := (V4.other hg (fun k hk => by have := V6.row k (.inl hk); have := hs_V4_V6.out; omega)).other hg2 (fun k hk => by have := V6.row k (.inr hk); have := hs_V4_V6.out; omega)
            replace V8 := (V8.other hg (fun k hk => by have := V6.row k (.inl hk); have := hs_V6_V8.out; omega)).other hg2 (fun k hk => by have := V6.row k (.inr hk); have := hs_V6_V8.out; omega)
            replace V10 := (V10.other hg (fun k hk => by have := V6.row k (.inl hk); have := hs_V6_V10.out; omega)).other hg2 (fun k hk => by have := V6.row k (.inr hk); have := hs_V6_V10.out; omega)
            replace V6 := V6.mark hown howc (marksI_length _ _) (marksI_length _ _) hg hg2
            clear hown howc hg hg2
            have hk_w13 : ¬ ((1 + (L0.length + C0.length) : Nat) : Int) < 0 := by omega
            obtain ⟨a0_0, a0_1⟩ := a0.cells
            obtain ⟨a1_0, a1_1, a1_2⟩ := a1.cells
            obtain ⟨V4_0, V4_1, V4_2⟩ := V4.cells
            obtain ⟨V6_0, V6_1⟩ := V6.cells
            obtain ⟨V8_0, V8_1, V8_2⟩ := V8.cells
            obtain ⟨V10_0, V10_1, V10_2⟩ := V10.cells
            go_wp2_with fail
            clear a0_0 a0_1 a1_0 a1_1 a1_2 V4_0 V4_1 V4_2 V6_0 V6_1 V8_0 V8_1 V8_2 V10_0 V10_1 V10_2
            refine (markImI _ X1 Y1 _ L1 (1 + (L0.length + C0.length)) _ _ (by omega) (by omega) V8.own).mono ?_
            rintro e w14 ⟨rfl, hown, hg⟩
            replace Kw := belI_mark Kw V8 (by have := hlo_V8.out; omega) hg
            replace a0 : CmA _ _ _ _ _ _ := ⟨a0.at_.grown hg (fun e => by have := (V8.row _ e.symm).1; have := hl_a0_V8.out; omega), O0.out.call Kw, O0c.out.call Kw⟩
            replace a1 : ImA _ _ _ _ _ _ := ⟨a1.at_.grown hg (fun e => by have := (V8.row _ e.symm).1; have := hl_a1_V8.out; omega), O1.out.call Kw⟩
            replace V4 := V4.other hg (fun k hk => by have := V8.row k hk; have := hs_V4_V8.out; omega)
            replace V6 := V6.other hg (fun k hk => by have := V8.row k hk; have := hs_V6_V8.out; omega)
            replace V10 := V10.other hg (fun k hk => by have := V8.row k hk; have := hs_V8_V10.out; omega)
            replace V8 := V8.mark hown (marksI_length _ _) hg
            clear hown hg
            have hk_w14 : ¬ ((1 + (L0.length + C0.length) + L1.length : Nat) : Int) < 0 := by omega
            obtain ⟨a0_0, a0_1⟩ := a0.cells
            obtain ⟨a1_0, a1_1, a1_2⟩ := a1.cells
            obtain ⟨V4_0, V4_1, V4_2⟩ := V4.cells
            obtain ⟨V6_0, V6_1⟩ := V6.cells
            obtain ⟨V8_0, V8_1, V8_2⟩ := V8.cells
            obtain ⟨V10_0, V10_1, V10_2⟩ := V10.cells
            go_wp2_with fail
            clear a0_0 a0_1 a1_0 a1_1 a1_2 V4_0 V4_1 V4_2 V6_0 V6_1 V8_0 V8_1 V8_2 V10_0 V10_1 V10_2
            refine (eqIm_same _ _ _ _ LR _ V10.rd V4.rd).mono ?_
            rintro e w15 ⟨rfl, hb⟩
            replace a0 := a0.call hb
            replace a1 := a1.call hb
            replace V4 := V4.call hb
            replace V6 := V6.call hb
            replace V8 := V8.call hb
            replace V10 := V10.call hb
            replace Kw := belI_call Kw hb
            clear hb
            obtain ⟨a0_0, a0_1⟩ := a0.cells
            obtain ⟨a1_0, a1_1, a1_2⟩ := a1.cells
            obtain ⟨V4_0, V4_1, V4_2⟩ := V4.cells
            obtain ⟨V6_0, V6_1⟩ := V6.cells
            obtain ⟨V8_0, V8_1, V8_2⟩ := V8.cells
            obtain ⟨V10_0, V10_1, V10_2⟩ := V10.cells
            go_wp2_with fail
            clear a0_0 a0_1 a1_0 a1_1 a1_2 V4_0 V4_1 V4_2 V6_0 V6_1 V8_0 V8_1 V8_2 V10_0 V10_1 V10_2
            refine (markImI _ XR YR _ LR (1) _ _ (by omega) (by omega) V10.own).mono ?_
            rintro e w16 ⟨rfl, hown, hg⟩
            replace Kw := belI_mark Kw V10 (by have := hlo_V10.out; omega) hg
            replace a0 : CmA _ _ _ _ _ _ := ⟨a0.at_.grown hg (fun e => by have := (V10.row _ e.symm).1; have := hl_a0_V10.out; omega), O0.out.call Kw, O0c.out.call Kw⟩
            replace a1 : ImA _ _ _ _ _ _ := ⟨a1.at_.grown hg (fun e => by have := (V10.row _ e.symm).1; have := hl_a1_V10.out; omega), O1.out.call Kw⟩
            replace V4 := V4.other hg (fun k hk => by have := V10.row k hk; have := hs_V4_V10.out; omega)
            replace V6 := V6.other hg (fun k hk => by have := V10.row k hk; have := hs_V6_V10.out; omega)
            replace V8 := V8.other hg (fun k hk => by have := V10.row k hk; have := hs_V8_V10.out; omega)
            replace V10 := V10.mark hown (marksI_length _ _) hg
            clear hown hg
            have hk_w16 : ¬ ((1 + LR.length : Nat) : Int) < 0 := by omega
            obtain ⟨a0_0, a0_1⟩ := a0.cells
            obtain ⟨a1_0, a1_1, a1_2⟩ := a1.cells
            obtain ⟨V4_0, V4_1, V4_2⟩ := V4.cells
            obtain ⟨V6_0, V6_1⟩ := V6.cells
            obtain ⟨V8_0, V8_1, V8_2⟩ := V8.cells
            obtain ⟨V10_0, V10_1, V10_2⟩ := V10.cells
            go_wp2_with fail
            clear a0_0 a0_1 a1_0 a1_1 a1_2 V4_0 V4_1 V4_2 V6_0 V6_1 V8_0 V8_1 V8_2 V10_0 V10_1 V10_2
            refine (heldIm XR YR _ 1 LR.length _ (by omega) V10.rd).mono ?_
            rintro e w17 ⟨rfl, hb⟩
            replace a0 := a0.call hb
            replace a1 := a1.call hb
            replace V4 := V4.call hb
            replace V6 := V6.call hb
            replace V8 := V8.call hb
            replace V10 := V10.call hb
            replace Kw := belI_call Kw hb
            clear hb
            obtain ⟨a0_0, a0_1⟩ := a0.cells
            obtain ⟨a1_0, a1_1, a1_2⟩ := a1.cells
            obtain ⟨V4_0, V4_1, V4_2⟩ := V4.cells
            obtain ⟨V6_0, V6_1⟩ := V6.cells
            obtain ⟨V8_0, V8_1, V8_2⟩ := V8.cells
            obtain ⟨V10_0, V10_1, V10_2⟩ := V10.cells
            go_upto_region 31 with fail
            clear a0_0 a0_1 a1_0 a1_1 a1_2 V4_0 V4_1 V4_2 V6_0 V6_1 V8_0 V8_1 V8_2 V10_0 V10_1 V10_2
            go_cut [13] (fun s13 wx => ∃ (b hi : Nat) (A : Option Addr) (c : Nat), s13 = .pointer (some ⟨b, 0, none⟩) ∧ ImV w17.heap.size hi b XR YR (.slice A LR.length c) LR wx ∧ Below w17.heap.size w17 wx)
            case first =>
              refine wp_region_held_drew (S := fun W => Below w17.heap.size w17 W) (by kernel_rfl) (Below.refl _ _).drew (fun hS => ?_)
              refine wpAnyH_take (i := 0) (v := .agg #[.slice A0 L0.length c0, .slice B0 C0.length d0]) rfl (by kernel_rfl) (by kernel_rfl) (by kernel_rfl) (fun _ _ _ h => h) (Or.inl ⟨by kernel_rfl, by intro w' hSw; (try dsimp only at hSw); (obtain ⟨a0_0, a0_1⟩ := (a0.call hSw).cells); (obtain ⟨a1_0, a1_1, a1_2⟩ := (a1.call hSw).cells); (obtain ⟨V4_0, V4_1, V4_2⟩ := (V4.call hSw).cells); (obtain ⟨V6_0, V6_1⟩ := (V6.call hSw).cells); (obtain ⟨V8_0, V8_1, V8_2⟩ := (V8.call hSw).cells); (obtain ⟨V10_0, V10_1, V10_2⟩ := (V10.call hSw).cells); go_simp⟩) (by assumption) ?_
              refine wpAnyH_take (i := 2) (v := .agg #[.int .i64 X1, .int .i64 Y1, .slice A1 L1.length c1]) rfl (by kernel_rfl) (by kernel_rfl) (by kernel_rfl) (fun _ _ _ h => h) (Or.inl ⟨by kernel_rfl, by intro w' hSw; (try dsimp only at hSw); (obtain ⟨a0_0, a0_1⟩ := (a0.call hSw).cells); (obtain ⟨a1_0, a1_1, a1_2⟩ := (a1.call hSw).cells); (obtain ⟨V4_0, V4_1, V4_2⟩ := (V4.call hSw).cells); (obtain ⟨V6_0, V6_1⟩ := (V6.call hSw).cells); (obtain ⟨V8_0, V8_1, V8_2⟩ := (V8.call hSw).cells); (obtain ⟨V10_0, V10_1, V10_2⟩ := (V10.call hSw).cells); go_simp⟩) (by assumption) ?_
              (try simp only [Act.put]); (try simp only [List.setIfInBounds_toArray]); (try simp only [List.set_cons_zero, List.set_cons_succ])
              refine wpAnyH_ready (rs := [1, 5]) (by kernel_rfl) (by simp) ?_
              refine (AllReadyH.cons rfl (fun K hK => ?_) (AllReadyH.cons rfl (fun K hK => ?_) AllReadyH.nil))
              · rw [if_pos (by kernel_rfl)]
                (try simp only [List.getElem_toArray]); (try simp only [List.getElem_cons_succ]); (try simp only [List.getElem_cons_zero])
                go_simp
                with_reducible refine (toCm _ _ L0 C0 _ Hn0.out Hn0c.out (a0.call hS).rm (a0.call hS).rc).mono ?_
                rintro e W' ⟨vo, vp, rfl, u13, u13c, u13n, hb⟩
                obtain ⟨A_u13, c_u13, he⟩ := ownI_shape u13
                subst he
                obtain ⟨B_u13, d_u13, he⟩ := ownI_shape u13c
                subst he
                dsimp only
                refine hK.out _ _ (belI_call hS hb) (fun hS => ?_)
                clear hK
                (try simp only [Act.put]); (try simp only [List.setIfInBounds_toArray]); (try simp only [List.set_cons_zero, List.set_cons_succ])
                refine wpAnyH_ready (rs := [3, 5]) (by kernel_rfl) (by simp) ?_
                refine (AllReadyH.cons rfl (fun K hK => ?_) (AllReadyH.cons rfl (fun K hK => ?_) AllReadyH.nil))
                · rw [if_pos (by kernel_rfl)]
                  (try simp only [List.getElem_toArray]); (try simp only [List.getElem_cons_succ]); (try simp only [List.getElem_cons_zero])
                  go_simp
                  with_reducible refine (toIm X1 Y1 _ L1 _ Hn1.out (a1.call hS).rd).mono ?_
                  rintro e W' ⟨vo, rfl, u14, hb⟩
                  obtain ⟨A_u14, c_u14, he⟩ := ownI_shape u14
                  subst he
                  dsimp only
                  have u13 := ownI_call u13 hb
                  have u13c := ownI_call u13c hb
                  refine hK.out _ _ (belI_call hS hb) (fun hS => ?_)
                  clear hK
                  (try simp only [Act.put]); (try simp only [List.setIfInBounds_toArray]); (try simp only [List.set_cons_zero, List.set_cons_succ])
                  refine wpAnyH_ready (rs := [4, 5]) (by kernel_rfl) (by simp) ?_
                  refine (AllReadyH.cons rfl (fun K hK => ?_) (AllReadyH.cons rfl (fun K hK => ?_) AllReadyH.nil))
                  · rw [if_pos (by kernel_rfl)]
                    (try simp only [List.getElem_toArray]); (try simp only [List.getElem_cons_succ]); (try simp only [List.getElem_cons_zero])
                    go_simp
                    with_reducible refine (HI.out _ _ _ (RdI.of_own u13) (RdI.of_own u13c) _ (RdI.of_own u14)).mono ?_
                    rintro e W' ⟨vo, rfl, u15, hb⟩
                    obtain ⟨A_u15, c_u15, he⟩ := ownI_shape u15
                    subst he
                    replace u15 := u15.mono hS.size
                    dsimp only
                    have u13 := ownI_call u13 hb
                    have u13c := ownI_call u13c hb
                    have u14 := ownI_call u14 hb
                    refine hK.out _ _ (belI_call hS hb) (fun hS => ?_)
                    clear hK
                    (try simp only [Act.put]); (try simp only [List.setIfInBounds_toArray]); (try simp only [List.set_cons_zero, List.set_cons_succ])
                    refine wpAnyH_ready (rs := [5]) (by kernel_rfl) (by simp) ?_
                    refine (AllReadyH.cons rfl (fun K hK => ?_) AllReadyH.nil)
                    · rw [if_pos (by kernel_rfl)]
                      (try simp only [List.getElem_toArray]); (try simp only [List.getElem_cons_succ]); (try simp only [List.getElem_cons_zero])
                      refine wp_alloc_im 28 zero26 13 rfl rfl ?_
                      intro bB W' hb GB lB
                      have kB := Nat.le_trans hS.size lB
                      have nB : ∀ k, (Value.slice A_u15 LR.length c_u15).ownBlock = some k → k ≠ bB := fun k hk => by have := (u15.lt k hk).2; omega
                      have u13 := ownI_call u13 hb
                      have u13c := ownI_call u13c hb
                      have u14 := ownI_call u14 hb
                      have u15 := ownI_call u15 hb
                      refine hK.out _ _ (belI_call hS hb) (fun hS => ?_)
                      clear hK
                      (try simp only [Act.put]); (try simp only [List.setIfInBounds_toArray]); (try simp only [List.set_cons_zero, List.set_cons_succ])
                      refine wpAnyH_ready (rs := [6]) (by kernel_rfl) (by simp) ?_
                      refine (AllReadyH.cons rfl (fun K hK => ?_) AllReadyH.nil)
                      · rw [if_pos (by kernel_rfl)]
                        (try simp only [List.getElem_toArray]); (try simp only [List.getElem_cons_succ]); (try simp only [List.getElem_cons_zero])
                        refine wp_store_im 28 size26 (.tmp 13) (.tmp 79) rfl bB 0 0 (.slice none 0 0) XR YR A_u15 LR.length c_u15 rfl (by first | with_reducible rfl | (go_simp; done) | rfl) GB ?_
                        intro W3 IB hgB
                        skip
                        skip
                        skip
                        replace u15 := u15.kept hgB (ownA_ne nB)
                        skip
                        refine hK.out _ _ (hS.grown hgB hS.size (fun k hk => by injection hk with hk; omega)) (fun hS => ?_)
                        clear hK
                        (try simp only [Act.put]); (try simp only [List.setIfInBounds_toArray]); (try simp only [List.set_cons_zero, List.set_cons_succ])
                        refine wpAnyH_done (by kernel_rfl) ?_ _
                        go_wp2_with fail
                        go_meet
                        case rel => exact ⟨bB, _, _, _, rfl, ImV.made IB u15 kB nB, hS⟩
                  · rw [if_pos (by kernel_rfl)]
                    (try simp only [List.getElem_toArray]); (try simp only [List.getElem_cons_succ]); (try simp only [List.getElem_cons_zero])
                    refine wp_alloc_im 28 zero26 13 rfl rfl ?_
                    intro bB W' hb GB lB
                    have kB := Nat.le_trans hS.size lB
                    have u13 := ownI_call u13 hb
                    have u13c := ownI_call u13c hb
                    have u14 := ownI_call u14 hb
                    refine hK.out _ _ (belI_call hS hb) (fun hS => ?_)
                    clear hK
                    (try simp only [Act.put]); (try simp only [List.setIfInBounds_toArray]); (try simp only [List.set_cons_zero, List.set_cons_succ])
                    refine wpAnyH_ready (rs := [4]) (by kernel_rfl) (by simp) ?_
                    refine (AllReadyH.cons rfl (fun K hK => ?_) AllReadyH.nil)
                    · rw [if_pos (by kernel_rfl)]
                      (try simp only [List.getElem_toArray]); (try simp only [List.getElem_cons_succ]); (try simp only [List.getElem_cons_zero])
                      go_simp
                      with_reducible refine (HI.out _ _ _ (RdI.of_own u13) (RdI.of_own u13c) _ (RdI.of_own u14)).mono ?_
                      rintro e W' ⟨vo, rfl, u15, hb⟩
                      obtain ⟨A_u15, c_u15, he⟩ := ownI_shape u15
                      subst he
                      have nB : ∀ k, (Value.slice A_u15 LR.length c_u15).ownBlock = some k → k ≠ bB := fun k hk => by have := (u15.lt k hk).1; have := (Array.getElem?_eq_some_iff.1 GB).1; omega
                      replace u15 := u15.mono hS.size
                      dsimp only
                      have u13 := ownI_call u13 hb
                      have u13c := ownI_call u13c hb
                      have u14 := ownI_call u14 hb
                      have GB := blk_call GB hb
                      refine hK.out _ _ (belI_call hS hb) (fun hS => ?_)
                      clear hK
                      (try simp only [Act.put]); (try simp only [List.setIfInBounds_toArray]); (try simp only [List.set_cons_zero, List.set_cons_succ])
                      refine wpAnyH_ready (rs := [6]) (by kernel_rfl) (by simp) ?_
                      refine (AllReadyH.cons rfl (fun K hK => ?_) AllReadyH.nil)
                      · rw [if_pos (by kernel_rfl)]
                        (try simp only [List.getElem_toArray]); (try simp only [List.getElem_cons_succ]); (try simp only [List.getElem_cons_zero])
                        refine wp_store_im 28 size26 (.tmp 13) (.tmp 79) rfl bB 0 0 (.slice none 0 0) XR YR A_u15 LR.length c_u15 rfl (by first | with_reducible rfl | (go_simp; done) | rfl) GB ?_
                        intro W3 IB hgB
                        skip
                        skip
                        skip
                        skip
                        replace u15 := u15.kept hgB (ownA_ne nB)
                        refine hK.out _ _ (hS.grown hgB hS.size (fun k hk => by injection hk with hk; omega)) (fun hS => ?_)
                        clear hK
                        (try simp only [Act.put]); (try simp only [List.setIfInBounds_toArray]); (try simp only [List.set_cons_zero, List.set_cons_succ])
                        refine wpAnyH_done (by kernel_rfl) ?_ _
                        go_wp2_with fail
                        go_meet
                        case rel => exact ⟨bB, _, _, _, rfl, ImV.made IB u15 kB nB, hS⟩
                · rw [if_pos (by kernel_rfl)]
                  (try simp only [List.getElem_toArray]); (try simp only [List.getElem_cons_succ]); (try simp only [List.getElem_cons_zero])
                  refine wp_alloc_im 28 zero26 13 rfl rfl ?_
                  intro bB W' hb GB lB
                  have kB := Nat.le_trans hS.size lB
                  have u13 := ownI_call u13 hb
                  have u13c := ownI_call u13c hb
                  refine hK.out _ _ (belI_call hS hb) (fun hS => ?_)
                  clear hK
                  (try simp only [Act.put]); (try simp only [List.setIfInBounds_toArray]); (try simp only [List.set_cons_zero, List.set_cons_succ])
                  refine wpAnyH_ready (rs := [3]) (by kernel_rfl) (by simp) ?_
                  refine (AllReadyH.cons rfl (fun K hK => ?_) AllReadyH.nil)
                  · rw [if_pos (by kernel_rfl)]
                    (try simp only [List.getElem_toArray]); (try simp only [List.getElem_cons_succ]); (try simp only [List.getElem_cons_zero])
                    go_simp
                    with_reducible refine (toIm X1 Y1 _ L1 _ Hn1.out (a1.call hS).rd).mono ?_
                    rintro e W' ⟨vo, rfl, u14, hb⟩
                    obtain ⟨A_u14, c_u14, he⟩ := ownI_shape u14
                    subst he
                    dsimp only
                    have u13 := ownI_call u13 hb
                    have u13c := ownI_call u13c hb
                    have GB := blk_call GB hb
                    refine hK.out _ _ (belI_call hS hb) (fun hS => ?_)
                    clear hK
                    (try simp only [Act.put]); (try simp only [List.setIfInBounds_toArray]); (try simp only [List.set_cons_zero, List.set_cons_succ])
                    refine wpAnyH_ready (rs := [4]) (by kernel_rfl) (by simp) ?_
                    refine (AllReadyH.cons rfl (fun K hK => ?_) AllReadyH.nil)
                    · rw [if_pos (by kernel_rfl)]
                      (try simp only [List.getElem_toArray]); (try simp only [List.getElem_cons_succ]); (try simp only [List.getElem_cons_zero])
                      go_simp
                      with_reducible refine (HI.out _ _ _ (RdI.of_own u13) (RdI.of_own u13c) _ (RdI.of_own u14)).mono ?_
                      rintro e W' ⟨vo, rfl, u15, hb⟩
                      obtain ⟨A_u15, c_u15, he⟩ := ownI_shape u15
                      subst he
                      have nB : ∀ k, (Value.slice A_u15 LR.length c_u15).ownBlock = some k → k ≠ bB := fun k hk => by have := (u15.lt k hk).1; have := (Array.getElem?_eq_some_iff.1 GB).1; omega
                      replace u15 := u15.mono hS.size
                      dsimp only
                      have u13 := ownI_call u13 hb
                      have u13c := ownI_call u13c hb
                      have GB := blk_call GB hb
                      have u14 := ownI_call u14 hb
                      refine hK.out _ _ (belI_call hS hb) (fun hS => ?_)
                      clear hK
                      (try simp only [Act.put]); (try simp only [List.setIfInBounds_toArray]); (try simp only [List.set_cons_zero, List.set_cons_succ])
                      refine wpAnyH_ready (rs := [6]) (by kernel_rfl) (by simp) ?_
                      refine (AllReadyH.cons rfl (fun K hK => ?_) AllReadyH.nil)
                      · rw [if_pos (by kernel_rfl)]
                        (try simp only [List.getElem_toArray]); (try simp only [List.getElem_cons_succ]); (try simp only [List.getElem_cons_zero])
                        refine wp_store_im 28 size26 (.tmp 13) (.tmp 79) rfl bB 0 0 (.slice none 0 0) XR YR A_u15 LR.length c_u15 rfl (by first | with_reducible rfl | (go_simp; done) | rfl) GB ?_
                        intro W3 IB hgB
                        skip
                        skip
                        skip
                        skip
                        replace u15 := u15.kept hgB (ownA_ne nB)
                        refine hK.out _ _ (hS.grown hgB hS.size (fun k hk => by injection hk with hk; omega)) (fun hS => ?_)
                        clear hK
                        (try simp only [Act.put]); (try simp only [List.setIfInBounds_toArray]); (try simp only [List.set_cons_zero, List.set_cons_succ])
                        refine wpAnyH_done (by kernel_rfl) ?_ _
                        go_wp2_with fail
                        go_meet
                        case rel => exact ⟨bB, _, _, _, rfl, ImV.made IB u15 kB nB, hS⟩
              · rw [if_pos (by kernel_rfl)]
                (try simp only [List.getElem_toArray]); (try simp only [List.getElem_cons_succ]); (try simp only [List.getElem_cons_zero])
                refine wp_alloc_im 28 zero26 13 rfl rfl ?_
                intro bB W' hb GB lB
                have kB := Nat.le_trans hS.size lB
                refine hK.out _ _ (belI_call hS hb) (fun hS => ?_)
                clear hK
                (try simp only [Act.put]); (try simp only [List.setIfInBounds_toArray]); (try simp only [List.set_cons_zero, List.set_cons_succ])
                refine wpAnyH_ready (rs := [1]) (by kernel_rfl) (by simp) ?_
                refine (AllReadyH.cons rfl (fun K hK => ?_) AllReadyH.nil)
                · rw [if_pos (by kernel_rfl)]
                  (try simp only [List.getElem_toArray]); (try simp only [List.getElem_cons_succ]); (try simp only [List.getElem_cons_zero])
                  go_simp
                  with_reducible refine (toCm _ _ L0 C0 _ Hn0.out Hn0c.out (a0.call hS).rm (a0.call hS).rc).mono ?_
                  rintro e W' ⟨vo, vp, rfl, u13, u13c, u13n, hb⟩
                  obtain ⟨A_u13, c_u13, he⟩ := ownI_shape u13
                  subst he
                  obtain ⟨B_u13, d_u13, he⟩ := ownI_shape u13c
                  subst he
                  dsimp only
                  have GB := blk_call GB hb
                  refine hK.out _ _ (belI_call hS hb) (fun hS => ?_)
                  clear hK
                  (try simp only [Act.put]); (try simp only [List.setIfInBounds_toArray]); (try simp only [List.set_cons_zero, List.set_cons_succ])
                  refine wpAnyH_ready (rs := [3]) (by kernel_rfl) (by simp) ?_
                  refine (AllReadyH.cons rfl (fun K hK => ?_) AllReadyH.nil)
                  · rw [if_pos (by kernel_rfl)]
                    (try simp only [List.getElem_toArray]); (try simp only [List.getElem_cons_succ]); (try simp only [List.getElem_cons_zero])
                    go_simp
                    with_reducible refine (toIm X1 Y1 _ L1 _ Hn1.out (a1.call hS).rd).mono ?_
                    rintro e W' ⟨vo, rfl, u14, hb⟩
                    obtain ⟨A_u14, c_u14, he⟩ := ownI_shape u14
                    subst he
                    dsimp only
                    have GB := blk_call GB hb
                    have u13 := ownI_call u13 hb
                    have u13c := ownI_call u13c hb
                    refine hK.out _ _ (belI_call hS hb) (fun hS => ?_)
                    clear hK
                    (try simp only [Act.put]); (try simp only [List.setIfInBounds_toArray]); (try simp only [List.set_cons_zero, List.set_cons_succ])
                    refine wpAnyH_ready (rs := [4]) (by kernel_rfl) (by simp) ?_
                    refine (AllReadyH.cons rfl (fun K hK => ?_) AllReadyH.nil)
                    · rw [if_pos (by kernel_rfl)]
                      (try simp only [List.getElem_toArray]); (try simp only [List.getElem_cons_succ]); (try simp only [List.getElem_cons_zero])
                      go_simp
                      with_reducible refine (HI.out _ _ _ (RdI.of_own u13) (RdI.of_own u13c) _ (RdI.of_own u14)).mono ?_
                      rintro e W' ⟨vo, rfl, u15, hb⟩
                      obtain ⟨A_u15, c_u15, he⟩ := ownI_shape u15
                      subst he
                      have nB : ∀ k, (Value.slice A_u15 LR.length c_u15).ownBlock = some k → k ≠ bB := fun k hk => by have := (u15.lt k hk).1; have := (Array.getElem?_eq_some_iff.1 GB).1; omega
                      replace u15 := u15.mono hS.size
                      dsimp only
                      have GB := blk_call GB hb
                      have u13 := ownI_call u13 hb
                      have u13c := ownI_call u13c hb
                      have u14 := ownI_call u14 hb
                      refine hK.out _ _ (belI_call hS hb) (fun hS => ?_)
                      clear hK
                      (try simp only [Act.put]); (try simp only [List.setIfInBounds_toArray]); (try simp only [List.set_cons_zero, List.set_cons_succ])
                      refine wpAnyH_ready (rs := [6]) (by kernel_rfl) (by simp) ?_
                      refine (AllReadyH.cons rfl (fun K hK => ?_) AllReadyH.nil)
                      · rw [if_pos (by kernel_rfl)]
                        (try simp only [List.getElem_toArray]); (try simp only [List.getElem_cons_succ]); (try simp only [List.getElem_cons_zero])
                        refine wp_store_im 28 size26 (.tmp 13) (.tmp 79) rfl bB 0 0 (.slice none 0 0) XR YR A_u15 LR.length c_u15 rfl (by first | with_reducible rfl | (go_simp; done) | rfl) GB ?_
                        intro W3 IB hgB
                        skip
                        skip
                        skip
                        skip
                        replace u15 := u15.kept hgB (ownA_ne nB)
                        refine hK.out _ _ (hS.grown hgB hS.size (fun k hk => by injection hk with hk; omega)) (fun hS => ?_)
                        clear hK
                        (try simp only [Act.put]); (try simp only [List.setIfInBounds_toArray]); (try simp only [List.set_cons_zero, List.set_cons_succ])
                        refine wpAnyH_done (by kernel_rfl) ?_ _
                        go_wp2_with fail
                        go_meet
                        case rel => exact ⟨bB, _, _, _, rfl, ImV.made IB u15 kB nB, hS⟩
            case rest =>
              obtain ⟨b_V16, hi_V16, A_V16, c_V16, rfl, V16, hb⟩ := hcut
              obtain ⟨w18, hWy⟩ : ∃ w18, w18 = wc := ⟨_, rfl⟩
              subst hWy
              have hs_V4_V16 := Lib.hid V4.hs
              have hs_V6_V16 := Lib.hid V6.hs
              have hs_V8_V16 := Lib.hid V8.hs
              have hs_V10_V16 := Lib.hid V10.hs
              have hlo_V16 := Lib.hid Kw.size
              have hl_a0_V16 := Lib.hid a0.lt
              have hl_a1_V16 := Lib.hid a1.lt
              replace a0 := a0.call hb
              replace a1 := a1.call hb
              replace V4 := V4.call hb
              replace V6 := V6.call hb
              replace V8 := V8.call hb
              replace V10 := V10.call hb
              replace Kw := belI_call Kw hb
              clear hb
              obtain ⟨a0_0, a0_1⟩ := a0.cells
              obtain ⟨a1_0, a1_1, a1_2⟩ := a1.cells
              obtain ⟨V4_0, V4_1, V4_2⟩ := V4.cells
              obtain ⟨V6_0, V6_1⟩ := V6.cells
              obtain ⟨V8_0, V8_1, V8_2⟩ := V8.cells
              obtain ⟨V10_0, V10_1, V10_2⟩ := V10.cells
              obtain ⟨V16_0, V16_1, V16_2⟩ := V16.cells
              go_wp2_with fail
              clear a0_0 a0_1 a1_0 a1_1 a1_2 V4_0 V4_1 V4_2 V6_0 V6_1 V8_0 V8_1 V8_2 V10_0 V10_1 V10_2 V16_0 V16_1 V16_2
              refine (eqIm_same _ _ _ _ LR _ V16.rd V4.rd).mono ?_
              rintro e w19 ⟨rfl, hb⟩
              replace a0 := a0.call hb
              replace a1 := a1.call hb
              replace V4 := V4.call hb
              replace V6 := V6.call hb
              replace V8 := V8.call hb
              replace V10 := V10.call hb
              replace V16 := V16.call hb
              replace Kw := belI_call Kw hb
              clear hb
              obtain ⟨a0_0, a0_1⟩ := a0.cells
              obtain ⟨a1_0, a1_1, a1_2⟩ := a1.cells
              obtain ⟨V4_0, V4_1, V4_2⟩ := V4.cells
              obtain ⟨V6_0, V6_1⟩ := V6.cells
              obtain ⟨V8_0, V8_1, V8_2⟩ := V8.cells
              obtain ⟨V10_0, V10_1, V10_2⟩ := V10.cells
              obtain ⟨V16_0, V16_1, V16_2⟩ := V16.cells
              go_wp2_with fail
              clear a0_0 a0_1 a1_0 a1_1 a1_2 V4_0 V4_1 V4_2 V6_0 V6_1 V8_0 V8_1 V8_2 V10_0 V10_1 V10_2 V16_0 V16_1 V16_2
              refine (heldIm XR YR _ 1 LR.length _ (by omega) V10.rd).mono ?_
              rintro e w20 ⟨rfl, hb⟩
              replace a0 := a0.call hb
              replace a1 := a1.call hb
              replace V4 := V4.call hb
              replace V6 := V6.call hb
              replace V8 := V8.call hb
              replace V10 := V10.call hb
              replace V16 := V16.call hb
              replace Kw := belI_call Kw hb
              clear hb
              go_wp2_with fail
              go_ret
              exact ⟨rfl, Kw⟩
end Go.Proofs.Ytaggldhlnjbnhaa
