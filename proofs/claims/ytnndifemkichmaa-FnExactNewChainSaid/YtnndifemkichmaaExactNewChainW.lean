/- The walk of the law FnExactNewChain: it returns true for every scene and every number. -/
import Derived.Test.YtnndifemkichmaaMA
import Derived.Test.YtnndifemkichmaaMB
import Derived.Test.YtnndifemkichmaaChM
import Derived.Test.YtnndifemkichmaaIsE
import Derived.Test.YtnndifemkichmaaSlE
import Derived.Test.YtnndifemkichmaaSlM
import Derived.Test.YtnndifemkichmaaChL
import Derived.Test.YtnndifemkichmaaSlT
import Derived.Test.YtnndifemkichmaaSnS
import Derived.Test.YtnndifemkichmaaSnC
import Derived.Test.YtnndifemkichmaaChB
import Derived.Test.YtnndifemkichmaaNwI
import Derived.Test.YtnndifemkichmaaMC
import Derived.Test.YtnndifemkichmaaChJ
import Derived.Test.YtnndifemkichmaaChS
import Derived.Test.YtnndifemkichmaaSnD
import Derived.Test.YtnndifemkichmaaNwS
import Derived.Test.YtnndifemkichmaaProg
import Derived.WalkKit
import Derived.ProofKit
import Derived.OpenShut
import Derived.WalkLawsBesides
import Derived.WalkSpells
import Derived.ShutString
import Derived.ChangeOld
import Derived.Below
import Derived.Lib.Hide
import Derived.BigQuiet
import Derived.Deep.QuietTactic
import Derived.Maps.AppendAt
import Derived.Deep.OwnRows
import Derived.Handy
import Derived.Deep.Draws
import Derived.OwnWalk
import Derived.Deep.AppendLies
import Derived.Deep.LoopGhost
import Derived.Deep.Onto
import Derived.Deep.MidRow
import Derived.Deep.WholeRow
import Derived.Laws.BitsAllLaws
import Derived.Lib.QuoteBits
import Derived.Deep.RegionHeld3
import Derived.Deep.DeepCutAuto
import Derived.Test.YtnndifemkichmaaShelf
import Derived.Laws.CopyOwn
import Derived.Deep.RegionLaw
import Derived.Great.BuildSlice
import Derived.Laws.AppendOwn
import Derived.Shelf.RegionOpenPlain
import Derived.Lib.SliceRun
import Derived.Deep.RegionWith
namespace Go.Proofs.Ytnndifemkichmaa
open Go.RowKit
set_option maxHeartbeats 8000000 in
set_option maxRecDepth 100000 in
theorem walk_FnExactNewChain (f0 : Sn) (d0 : Value) (p1 : Int) (_ : (Lit.int .i64 p1).wf = true) (w : World) (h0 : wkSn.R w f0 [.int .i64 f0.w, .int .i64 f0.h, .int .i64 f0.back, d0]) :
  Calls Try.prog 4 #[.agg #[.int .i64 f0.w, .int .i64 f0.h, .int .i64 f0.back, d0], .int .i64 p1] w fun e w' => e = .returned (.bool true) ∧ Below w.heap.size w w' := by
 obtain ⟨A0, c0, rfl⟩ := wform_sn h0
 have O0 := Lib.hid h0
 have Kw := Below.refl w.heap.size w
 have hb0 := belI_box w (.cells #[.int .i64 f0.w, .int .i64 f0.h, .int .i64 f0.back, .slice A0 f0.fs.length c0] 27)
 have a0 : ArgB wkSn 27 (w.heap.size) f0 [.int .i64 f0.w, .int .i64 f0.h, .int .i64 f0.back, .slice A0 f0.fs.length c0] (w.alloc (.cells #[.int .i64 f0.w, .int .i64 f0.h, .int .i64 f0.back, .slice A0 f0.fs.length c0] 27)) := ArgB.bornAt (w := w) (by simp) (wkSn.call h0 Kw) _
 replace Kw := belI_call Kw hb0
 clear hb0
 obtain ⟨w0, hw0⟩ : ∃ w0, w0 = (w.alloc (.cells #[.int .i64 f0.w, .int .i64 f0.h, .int .i64 f0.back, .slice A0 f0.fs.length c0] 27)) := ⟨_, rfl⟩
 rw [← hw0] at Kw a0
 have Hw := Lib.hid hw0
 clear hw0 h0
 by_cases g0 : (sizFs f0.fs) ≤ 1048576
 rotate_left
 ·have g' : ¬ (sizFs f0.fs) ≤ 1048576 := g0
  have a0_0 := a0.at_.cell 0 rfl
  have a0_1 := a0.at_.cell 1 rfl
  have a0_2 := a0.at_.cell 2 rfl
  have a0_3 := a0.at_.cell 3 rfl
  go_enter Try.func4, Try.ntmps4
  go_wp2_with fail
  rw [← Hw.out]
  clear a0_0 a0_1 a0_2 a0_3
  have q0 : (0 : Int) ≤ (1048576 : Int) := by omega
  have q1 : (1048576 : Int) < (((sizFs f0.fs) : Nat) : Int) := by omega
  refine (sz_sn_no f0 _ _ _ a0.rd q0 q1 (by omega)).mono ?_
  rintro e w1 ⟨rfl, hb⟩
  replace a0 := a0.call hb
  replace Kw := belI_call Kw hb
  clear hb
  go_wp2_with fail
  go_ret
  exact ⟨rfl, Kw⟩
 have Hn0 := Lib.hid (show (sizFs f0.fs) ≤ 1048576 by omega)
 have hcs0 := cnt_le_siz f0.fs
 obtain ⟨q0, hq0⟩ : ∃ q, q = nwM f0 p1 := ⟨_, rfl⟩
 obtain ⟨q1, hq1⟩ : ∃ q, q = nwB f0 p1 := ⟨_, rfl⟩
 have hm0 : (cntCh q0) ≤ 100000000 := by rw [hq0]; exact (nw_cnt f0 p1 Hn0.out)
 have PS := fun (W : World) (u0 : Value) (bs0 : List Nat) (k0 : repSn.R W f0 [.int .i64 f0.w, .int .i64 f0.h, .int .i64 f0.back, u0] bs0) => nwS f0 u0 _ p1 W (Nat.le_trans Hn0.out (by omega)) (r_sn k0)
 have PI := fun (W : World) (u0 : Value) (bs0 : List Nat) (k0 : repSn.R W f0 [.int .i64 f0.w, .int .i64 f0.h, .int .i64 f0.back, u0] bs0) => nwI f0 u0 _ p1 W (Nat.le_trans Hn0.out (by omega)) (r_sn k0)
 unfold NwAns at PS PI
 rw [← hq0, ← hq1] at PS PI
 have HS := Lib.hid PS
 have HI := Lib.hid PI
 clear PS PI hq0 hq1
 have a0_0 := a0.at_.cell 0 rfl
 have a0_1 := a0.at_.cell 1 rfl
 have a0_2 := a0.at_.cell 2 rfl
 have a0_3 := a0.at_.cell 3 rfl
 go_enter Try.func4, Try.ntmps4
 go_wp2_with fail
 rw [← Hw.out]
 clear a0_0 a0_1 a0_2 a0_3
 refine (sz_sn_yes f0 _ _ _ a0.rd (by omega) (by omega)).mono ?_
 rintro e w2 ⟨rfl, hb⟩
 replace a0 := a0.call hb
 replace Kw := belI_call Kw hb
 clear hb
 have z0 : ¬ ((1048576 : Int) - (((sizFs f0.fs) : Nat) : Int)) < 0 := by omega
 have neg0 : ¬ ((1 + (cntCh q0) : Nat) : Int) < 0 := by omega
 have a0_0 := a0.at_.cell 0 rfl
 have a0_1 := a0.at_.cell 1 rfl
 have a0_2 := a0.at_.cell 2 rfl
 have a0_3 := a0.at_.cell 3 rfl
 go_wp2_with fail
 clear a0_0 a0_1 a0_2 a0_3
 refine (to_sn f0 _ _ a0.rd Hn0.out).mono ?_
 rintro e w3 ⟨uo, bs_u1, rfl, u1, hb⟩
 obtain ⟨A_u1, c_u1, he⟩ := form_sn u1.r
 subst he
 replace a0 := a0.call hb
 replace Kw := belI_call Kw hb
 clear hb
 go_wp2_with fail
 refine (HS.out _ _ _ u1.r).mono ?_
 rintro e w4 ⟨uou2a, uou2b, uou2e, uou2d, bs_u2, rfl, u2, hb⟩
 obtain ⟨A_u2a, c_u2a, A_u2b, c_u2b, A_u2e, c_u2e, A_u2d, c_u2d, he0, he1, he2, he3⟩ := form_cn u2.r
 subst he0; subst he1; subst he2; subst he3
 have hlo_V3 := Lib.hid Kw.size
 have hl_a0_V3 := Lib.hid a0.lt
 have V3 := VarB.born hb u2 38
 replace hb := belI_call hb (belI_box w4 (.cells #[.slice A_u2a q0.ims.length c_u2a, .slice A_u2b q0.ages.length c_u2b, .slice A_u2e q0.rgs.length c_u2e, .int .i64 q0.s.w, .int .i64 q0.s.h, .int .i64 q0.s.back, .slice A_u2d q0.s.fs.length c_u2d] 38))
 replace a0 := a0.call hb
 replace u1 := u1.call hb
 replace Kw := belI_call Kw hb
 clear hb u2
 clear u1
 have a0_0 := a0.at_.cell 0 rfl
 have a0_1 := a0.at_.cell 1 rfl
 have a0_2 := a0.at_.cell 2 rfl
 have a0_3 := a0.at_.cell 3 rfl
 go_wp2_with fail
 clear a0_0 a0_1 a0_2 a0_3
 obtain ⟨w5, hWx⟩ : ∃ w5, w5 = (w4.alloc (.cells #[.slice A_u2a q0.ims.length c_u2a, .slice A_u2b q0.ages.length c_u2b, .slice A_u2e q0.rgs.length c_u2e, .int .i64 q0.s.w, .int .i64 q0.s.h, .int .i64 q0.s.back, .slice A_u2d q0.s.fs.length c_u2d] 38)) := ⟨_, rfl⟩
 rw [← hWx]
 rw [← hWx] at Kw a0 V3
 clear hWx
 refine (to_sn f0 _ _ a0.rd Hn0.out).mono ?_
 rintro e w6 ⟨uo, bs_u4, rfl, u4, hb⟩
 obtain ⟨A_u4, c_u4, he⟩ := form_sn u4.r
 subst he
 have hs_V3_V5 := Lib.hid V3.hs
 have hlo_V5 := Lib.hid Kw.size
 have hl_a0_V5 := Lib.hid a0.lt
 have V5 := VarB.born hb u4 36
 replace hb := belI_call hb (belI_box w6 (.cells #[.int .i64 f0.w, .int .i64 f0.h, .int .i64 f0.back, .slice A_u4 f0.fs.length c_u4] 36))
 replace a0 := a0.call hb
 replace V3 := V3.call hb
 replace Kw := belI_call Kw hb
 clear hb u4
 have V5_0 := V5.at_.cell 0 rfl
 have V5_1 := V5.at_.cell 1 rfl
 have V5_2 := V5.at_.cell 2 rfl
 have V5_3 := V5.at_.cell 3 rfl
 go_wp2_with fail
 clear V5_0 V5_1 V5_2 V5_3
 obtain ⟨w7, hWx⟩ : ∃ w7, w7 = (w6.alloc (.cells #[.int .i64 f0.w, .int .i64 f0.h, .int .i64 f0.back, .slice A_u4 f0.fs.length c_u4] 36)) := ⟨_, rfl⟩
 rw [← hWx]
 rw [← hWx] at Kw a0 V3 V5
 clear hWx
 refine (HI.out _ _ _ V5.r).mono ?_
 rintro e w8 ⟨uou6a, uou6b, uou6e, uou6d, bs_u6, rfl, u6, hb⟩
 obtain ⟨A_u6a, c_u6a, A_u6b, c_u6b, A_u6e, c_u6e, A_u6d, c_u6d, he0, he1, he2, he3⟩ := form_cn u6.r
 subst he0; subst he1; subst he2; subst he3
 have hs_V3_V7 := Lib.hid V3.hs
 have hs_V5_V7 := Lib.hid V5.hs
 have hlo_V7 := Lib.hid Kw.size
 have hl_a0_V7 := Lib.hid a0.lt
 have V7 := VarB.born hb u6 38
 replace hb := belI_call hb (belI_box w8 (.cells #[.slice A_u6a q0.ims.length c_u6a, .slice A_u6b q0.ages.length c_u6b, .slice A_u6e q0.rgs.length c_u6e, .int .i64 q0.s.w, .int .i64 q0.s.h, .int .i64 q0.s.back, .slice A_u6d q0.s.fs.length c_u6d] 38))
 replace a0 := a0.call hb
 replace V3 := V3.call hb
 replace V5 := V5.call hb
 replace Kw := belI_call Kw hb
 clear hb u6
 have V7_0 := V7.at_.cell 0 rfl
 have V7_1 := V7.at_.cell 1 rfl
 have V7_2 := V7.at_.cell 2 rfl
 have V7_3 := V7.at_.cell 3 rfl
 have V7_4 := V7.at_.cell 4 rfl
 have V7_5 := V7.at_.cell 5 rfl
 have V7_6 := V7.at_.cell 6 rfl
 have V3_0 := V3.at_.cell 0 rfl
 have V3_1 := V3.at_.cell 1 rfl
 have V3_2 := V3.at_.cell 2 rfl
 have V3_3 := V3.at_.cell 3 rfl
 have V3_4 := V3.at_.cell 4 rfl
 have V3_5 := V3.at_.cell 5 rfl
 have V3_6 := V3.at_.cell 6 rfl
 go_wp2_with fail
 clear V7_0 V7_1 V7_2 V7_3 V7_4 V7_5 V7_6 V3_0 V3_1 V3_2 V3_3 V3_4 V3_5 V3_6
 obtain ⟨w9, hWx⟩ : ∃ w9, w9 = (w8.alloc (.cells #[.slice A_u6a q0.ims.length c_u6a, .slice A_u6b q0.ages.length c_u6b, .slice A_u6e q0.rgs.length c_u6e, .int .i64 q0.s.w, .int .i64 q0.s.h, .int .i64 q0.s.back, .slice A_u6d q0.s.fs.length c_u6d] 38)) := ⟨_, rfl⟩
 rw [← hWx]
 rw [← hWx] at Kw a0 V3 V5 V7
 clear hWx
 refine (eq_cn q0 _ _ _ _ _ _ _ _ _ _ _ V7.r V3.r).mono ?_
 rintro e w10 ⟨rfl, hb⟩
 replace a0 := a0.call hb
 replace V3 := V3.call hb
 replace V5 := V5.call hb
 replace V7 := V7.call hb
 replace Kw := belI_call Kw hb
 clear hb
 go_upto_region 10 with fail
 refine wp_region_held_drew (S := fun W => Below w10.heap.size w10 W) (by kernel_rfl) (Below.refl _ _).drew (fun hS => ?_)
 refine tcH (i := 0) (v := .agg #[.int .i64 f0.w, .int .i64 f0.h, .int .i64 f0.back, .slice A_u4 f0.fs.length c_u4]) rfl (by intro w' hSw; (try dsimp only at hSw); (have V5_0 := (V5.call hSw).at_.cell 0 rfl); (have V5_1 := (V5.call hSw).at_.cell 1 rfl); (have V5_2 := (V5.call hSw).at_.cell 2 rfl); (have V5_3 := (V5.call hSw).at_.cell 3 rfl); (have a0_0 := (a0.call hSw).at_.cell 0 rfl); (have a0_1 := (a0.call hSw).at_.cell 1 rfl); (have a0_2 := (a0.call hSw).at_.cell 2 rfl); (have a0_3 := (a0.call hSw).at_.cell 3 rfl); go_simp) ?_
 refine tcH (i := 1) (v := .agg #[.int .i64 f0.w, .int .i64 f0.h, .int .i64 f0.back, .slice A0 f0.fs.length c0]) rfl (by intro w' hSw; (try dsimp only at hSw); (have V5_0 := (V5.call hSw).at_.cell 0 rfl); (have V5_1 := (V5.call hSw).at_.cell 1 rfl); (have V5_2 := (V5.call hSw).at_.cell 2 rfl); (have V5_3 := (V5.call hSw).at_.cell 3 rfl); (have a0_0 := (a0.call hSw).at_.cell 0 rfl); (have a0_1 := (a0.call hSw).at_.cell 1 rfl); (have a0_2 := (a0.call hSw).at_.cell 2 rfl); (have a0_3 := (a0.call hSw).at_.cell 3 rfl); go_simp) ?_
 (try simp only [Act.put]); (try simp only [zPa]); (try simp only [zPb, zPc])
 refine wpAnyH_ready (rs := [2]) (by kernel_rfl) (by simp) ?_
 refine (AllReadyH.cons rfl (fun K hK => ?_) AllReadyH.nil)
 ·rw [if_pos (by kernel_rfl)]
  (try simp only [zGa]); (try simp only [zGb]); (try simp only [zGc])
  go_simp
  with_reducible refine (to_sn f0 _ _ (a0.call hS).rd Hn0.out).mono ?_
  rintro e W' ⟨uo, bs_u8, rfl, u8, hb⟩
  obtain ⟨A_u8, c_u8, he⟩ := form_sn u8.r
  subst he
  replace u8 := u8.mono hS.size
  dsimp only
  refine hK.out _ _ (belI_call hS hb) (fun hS => ?_)
  clear hK
  (try simp only [Act.put]); (try simp only [zPa]); (try simp only [zPb, zPc])
  refine wpAnyH_ready (rs := [3]) (by kernel_rfl) (by simp) ?_
  refine (AllReadyH.cons rfl (fun K hK => ?_) AllReadyH.nil)
  ·rw [if_pos (by kernel_rfl)]
   (try simp only [zGa]); (try simp only [zGb]); (try simp only [zGc])
   go_simp
   with_reducible refine (eq_sn f0 _ _ _ _ _ (V5.call hS).r u8.r).mono ?_
   rintro e W' ⟨rfl, hb⟩
   dsimp only
   have u8 := u8.call hb
   refine hK.out _ _ (belI_call hS hb) (fun hS => ?_)
   clear hK
   (try simp only [Act.put]); (try simp only [zPa]); (try simp only [zPb, zPc])
   refine tcH (i := 4) (v := .bool false) rfl (by intro w' hSw; (try dsimp only at hSw); (have V5_0 := (V5.call hSw).at_.cell 0 rfl); (have V5_1 := (V5.call hSw).at_.cell 1 rfl); (have V5_2 := (V5.call hSw).at_.cell 2 rfl); (have V5_3 := (V5.call hSw).at_.cell 3 rfl); (have a0_0 := (a0.call hSw).at_.cell 0 rfl); (have a0_1 := (a0.call hSw).at_.cell 1 rfl); (have a0_2 := (a0.call hSw).at_.cell 2 rfl); (have a0_3 := (a0.call hSw).at_.cell 3 rfl); go_simp) ?_
   refine wpAnyH_done (by kernel_rfl) ?_ _
   have hb := hS
   replace a0 := a0.call hb
   replace V3 := V3.call hb
   replace V5 := V5.call hb
   replace V7 := V7.call hb
   replace Kw := belI_call Kw hb
   clear hb hS
   clear u8
   obtain ⟨w11, hWy⟩ : ∃ w11, w11 = W' := ⟨_, rfl⟩
   subst hWy
   have V5_0 := V5.at_.cell 0 rfl
   have V5_1 := V5.at_.cell 1 rfl
   have V5_2 := V5.at_.cell 2 rfl
   have V5_3 := V5.at_.cell 3 rfl
   go_wp2_with fail
   clear V5_0 V5_1 V5_2 V5_3
   refine (mark_sn _ f0 _ _ (1) _ (by omega) V5.own).mono ?_
   rintro e w12 ⟨rfl, hr, hc⟩
   replace Kw := V5.below Kw (by have := hlo_V5.out; omega) hc
   replace a0 := a0.chg O0.out Kw hc (fun hk => by have := V5.rng _ hk; have := hl_a0_V5.out; omega)
   replace V3 := V3.chg hc (fun k hk => by have := V5.rng k hk; have := hs_V3_V5.out; omega)
   replace V7 := V7.chg hc (fun k hk => by have := V5.rng k hk; have := hs_V5_V7.out; omega)
   replace V5 := V5.mark hr hc
   clear hr hc
   have hk_w12 : ¬ ((1 + (cntFs f0.fs) : Nat) : Int) < 0 := by omega
   have V7_0 := V7.at_.cell 0 rfl
   have V7_1 := V7.at_.cell 1 rfl
   have V7_2 := V7.at_.cell 2 rfl
   have V7_3 := V7.at_.cell 3 rfl
   have V7_4 := V7.at_.cell 4 rfl
   have V7_5 := V7.at_.cell 5 rfl
   have V7_6 := V7.at_.cell 6 rfl
   have V3_0 := V3.at_.cell 0 rfl
   have V3_1 := V3.at_.cell 1 rfl
   have V3_2 := V3.at_.cell 2 rfl
   have V3_3 := V3.at_.cell 3 rfl
   have V3_4 := V3.at_.cell 4 rfl
   have V3_5 := V3.at_.cell 5 rfl
   have V3_6 := V3.at_.cell 6 rfl
   go_wp2_with fail
   clear V7_0 V7_1 V7_2 V7_3 V7_4 V7_5 V7_6 V3_0 V3_1 V3_2 V3_3 V3_4 V3_5 V3_6
   refine (eq_cn q0 _ _ _ _ _ _ _ _ _ _ _ V7.r V3.r).mono ?_
   rintro e w13 ⟨rfl, hb⟩
   replace a0 := a0.call hb
   replace V3 := V3.call hb
   replace V5 := V5.call hb
   replace V7 := V7.call hb
   replace Kw := belI_call Kw hb
   clear hb
   have V7_0 := V7.at_.cell 0 rfl
   have V7_1 := V7.at_.cell 1 rfl
   have V7_2 := V7.at_.cell 2 rfl
   have V7_3 := V7.at_.cell 3 rfl
   have V7_4 := V7.at_.cell 4 rfl
   have V7_5 := V7.at_.cell 5 rfl
   have V7_6 := V7.at_.cell 6 rfl
   go_wp2_with fail
   clear V7_0 V7_1 V7_2 V7_3 V7_4 V7_5 V7_6
   refine (mark_cn _ q0 _ _ _ _ _ (1) _ (by omega) V7.own).mono ?_
   rintro e w14 ⟨rfl, hr, hc⟩
   replace Kw := V7.below Kw (by have := hlo_V7.out; omega) hc
   replace a0 := a0.chg O0.out Kw hc (fun hk => by have := V7.rng _ hk; have := hl_a0_V7.out; omega)
   replace V3 := V3.chg hc (fun k hk => by have := V7.rng k hk; have := hs_V3_V7.out; omega)
   replace V5 := V5.chg hc (fun k hk => by have := V7.rng k hk; have := hs_V5_V7.out; omega)
   replace V7 := V7.mark hr hc
   clear hr hc
   have hk_w14 : ¬ ((1 + (cntCh q0) : Nat) : Int) < 0 := by omega
   have V7_0 := V7.at_.cell 0 rfl
   have V7_1 := V7.at_.cell 1 rfl
   have V7_2 := V7.at_.cell 2 rfl
   have V7_3 := V7.at_.cell 3 rfl
   have V7_4 := V7.at_.cell 4 rfl
   have V7_5 := V7.at_.cell 5 rfl
   have V7_6 := V7.at_.cell 6 rfl
   go_wp2_with fail
   clear V7_0 V7_1 V7_2 V7_3 V7_4 V7_5 V7_6
   refine (held_cn q0 _ _ _ _ _ 1 _ (by omega) V7.r).mono ?_
   rintro e w15 ⟨rfl, hb⟩
   replace a0 := a0.call hb
   replace V3 := V3.call hb
   replace V5 := V5.call hb
   replace V7 := V7.call hb
   replace Kw := belI_call Kw hb
   clear hb
   have a0_0 := a0.at_.cell 0 rfl
   have a0_1 := a0.at_.cell 1 rfl
   have a0_2 := a0.at_.cell 2 rfl
   have a0_3 := a0.at_.cell 3 rfl
   go_wp2_with fail
   clear a0_0 a0_1 a0_2 a0_3
   refine (to_sn f0 _ _ a0.rd Hn0.out).mono ?_
   rintro e w16 ⟨uo, bs_u9, rfl, u9, hb⟩
   obtain ⟨A_u9, c_u9, he⟩ := form_sn u9.r
   subst he
   replace a0 := a0.call hb
   replace V3 := V3.call hb
   replace V5 := V5.call hb
   replace V7 := V7.call hb
   replace Kw := belI_call Kw hb
   clear hb
   go_wp2_with fail
   refine (HI.out _ _ _ u9.r).mono ?_
   rintro e w17 ⟨uou10a, uou10b, uou10e, uou10d, bs_u10, rfl, u10, hb⟩
   obtain ⟨A_u10a, c_u10a, A_u10b, c_u10b, A_u10e, c_u10e, A_u10d, c_u10d, he0, he1, he2, he3⟩ := form_cn u10.r
   subst he0; subst he1; subst he2; subst he3
   have hs_V3_V11 := Lib.hid V3.hs
   have hs_V5_V11 := Lib.hid V5.hs
   have hs_V7_V11 := Lib.hid V7.hs
   have hlo_V11 := Lib.hid Kw.size
   have hl_a0_V11 := Lib.hid a0.lt
   have V11 := VarB.born hb u10 38
   replace hb := belI_call hb (belI_box w17 (.cells #[.slice A_u10a q0.ims.length c_u10a, .slice A_u10b q0.ages.length c_u10b, .slice A_u10e q0.rgs.length c_u10e, .int .i64 q0.s.w, .int .i64 q0.s.h, .int .i64 q0.s.back, .slice A_u10d q0.s.fs.length c_u10d] 38))
   replace a0 := a0.call hb
   replace V3 := V3.call hb
   replace V5 := V5.call hb
   replace V7 := V7.call hb
   replace u9 := u9.call hb
   replace Kw := belI_call Kw hb
   clear hb u10
   clear u9
   have V11_0 := V11.at_.cell 0 rfl
   have V11_1 := V11.at_.cell 1 rfl
   have V11_2 := V11.at_.cell 2 rfl
   have V11_3 := V11.at_.cell 3 rfl
   have V11_4 := V11.at_.cell 4 rfl
   have V11_5 := V11.at_.cell 5 rfl
   have V11_6 := V11.at_.cell 6 rfl
   have V3_0 := V3.at_.cell 0 rfl
   have V3_1 := V3.at_.cell 1 rfl
   have V3_2 := V3.at_.cell 2 rfl
   have V3_3 := V3.at_.cell 3 rfl
   have V3_4 := V3.at_.cell 4 rfl
   have V3_5 := V3.at_.cell 5 rfl
   have V3_6 := V3.at_.cell 6 rfl
   go_wp2_with fail
   clear V11_0 V11_1 V11_2 V11_3 V11_4 V11_5 V11_6 V3_0 V3_1 V3_2 V3_3 V3_4 V3_5 V3_6
   obtain ⟨w18, hWx⟩ : ∃ w18, w18 = (w17.alloc (.cells #[.slice A_u10a q0.ims.length c_u10a, .slice A_u10b q0.ages.length c_u10b, .slice A_u10e q0.rgs.length c_u10e, .int .i64 q0.s.w, .int .i64 q0.s.h, .int .i64 q0.s.back, .slice A_u10d q0.s.fs.length c_u10d] 38)) := ⟨_, rfl⟩
   rw [← hWx]
   rw [← hWx] at Kw a0 V3 V5 V7 V11
   clear hWx
   refine (eq_cn q0 _ _ _ _ _ _ _ _ _ _ _ V11.r V3.r).mono ?_
   rintro e w19 ⟨rfl, hb⟩
   replace a0 := a0.call hb
   replace V3 := V3.call hb
   replace V5 := V5.call hb
   replace V7 := V7.call hb
   replace V11 := V11.call hb
   replace Kw := belI_call Kw hb
   clear hb
   have V7_0 := V7.at_.cell 0 rfl
   have V7_1 := V7.at_.cell 1 rfl
   have V7_2 := V7.at_.cell 2 rfl
   have V7_3 := V7.at_.cell 3 rfl
   have V7_4 := V7.at_.cell 4 rfl
   have V7_5 := V7.at_.cell 5 rfl
   have V7_6 := V7.at_.cell 6 rfl
   go_wp2_with fail
   clear V7_0 V7_1 V7_2 V7_3 V7_4 V7_5 V7_6
   refine (held_cn q0 _ _ _ _ _ 1 _ (by omega) V7.r).mono ?_
   rintro e w20 ⟨rfl, hb⟩
   replace a0 := a0.call hb
   replace V3 := V3.call hb
   replace V5 := V5.call hb
   replace V7 := V7.call hb
   replace V11 := V11.call hb
   replace Kw := belI_call Kw hb
   clear hb
   go_wp2_with fail
   go_ret
   exact ⟨rfl, Kw⟩
end Go.Proofs.Ytnndifemkichmaa
