/- The walk of the law FnExactChainOk: it returns true for every chain. -/
import Derived.Test.YtnndifemkichmaaMA
import Derived.Test.YtnndifemkichmaaMC
import Derived.Test.YtnndifemkichmaaMB
import Derived.Test.YtnndifemkichmaaChM
import Derived.Test.YtnndifemkichmaaIsE
import Derived.Test.YtnndifemkichmaaSlE
import Derived.Test.YtnndifemkichmaaChL
import Derived.Test.YtnndifemkichmaaChT
import Derived.Test.YtnndifemkichmaaChO
import Derived.Test.YtnndifemkichmaaChJ
import Derived.Test.YtnndifemkichmaaSnS
import Derived.Test.YtnndifemkichmaaChS
import Derived.Test.YtnndifemkichmaaProg
import Derived.WalkKit
import Derived.ProofKit
import Derived.OpenShut
import Derived.WalkLawsBesides
import Derived.WalkSpells
import Derived.ShutString
import Derived.ChangeOld
import Derived.Below
import Derived.Lib.Hide
import Derived.BigQuiet
import Derived.Deep.QuietTactic
import Derived.Maps.AppendAt
import Derived.Deep.OwnRows
import Derived.Handy
import Derived.Deep.Draws
import Derived.OwnWalk
import Derived.Deep.AppendLies
import Derived.Deep.LoopGhost
import Derived.Deep.Onto
import Derived.Deep.MidRow
import Derived.Deep.WholeRow
import Derived.Laws.BitsAllLaws
import Derived.Lib.QuoteBits
import Derived.Deep.RegionHeld3
import Derived.Deep.DeepCutAuto
import Derived.Test.YtnndifemkichmaaShelf
import Derived.Laws.CopyOwn
import Derived.Deep.RegionLaw
import Derived.Great.BuildSlice
import Derived.Laws.AppendOwn
namespace Go.Proofs.Ytnndifemkichmaa
open Go.RowKit
set_option maxHeartbeats 8000000 in
set_option maxRecDepth 100000 in
theorem walk_FnExactChainOk (f0 : Ch) (d0a d0b d0e d0d : Value) (w : World) (h0 : wkCh.R w f0 [d0a, d0b, d0e, .int .i64 f0.s.w, .int .i64 f0.s.h, .int .i64 f0.s.back, d0d]) :
  Calls Try.prog 3 #[.agg #[d0a, d0b, d0e, .int .i64 f0.s.w, .int .i64 f0.s.h, .int .i64 f0.s.back, d0d]] w fun e w' => e = .returned (.bool true) ∧ Below w.heap.size w w' := by
 obtain ⟨A0a, c0a, A0b, c0b, A0e, c0e, A0d, c0d, rfl, rfl, rfl, rfl⟩ := wform_cn h0
 have O0 := Lib.hid h0
 have Kw := Below.refl w.heap.size w
 have hb0 := belI_box w (.cells #[.slice A0a f0.ims.length c0a, .slice A0b f0.ages.length c0b, .slice A0e f0.rgs.length c0e, .int .i64 f0.s.w, .int .i64 f0.s.h, .int .i64 f0.s.back, .slice A0d f0.s.fs.length c0d] 29)
 have a0 : ArgB wkCh 29 (w.heap.size) f0 [.slice A0a f0.ims.length c0a, .slice A0b f0.ages.length c0b, .slice A0e f0.rgs.length c0e, .int .i64 f0.s.w, .int .i64 f0.s.h, .int .i64 f0.s.back, .slice A0d f0.s.fs.length c0d] (w.alloc (.cells #[.slice A0a f0.ims.length c0a, .slice A0b f0.ages.length c0b, .slice A0e f0.rgs.length c0e, .int .i64 f0.s.w, .int .i64 f0.s.h, .int .i64 f0.s.back, .slice A0d f0.s.fs.length c0d] 29)) := ArgB.bornAt (w := w) (by simp) (wkCh.call h0 Kw) _
 replace Kw := belI_call Kw hb0
 clear hb0
 obtain ⟨w0, hw0⟩ : ∃ w0, w0 = (w.alloc (.cells #[.slice A0a f0.ims.length c0a, .slice A0b f0.ages.length c0b, .slice A0e f0.rgs.length c0e, .int .i64 f0.s.w, .int .i64 f0.s.h, .int .i64 f0.s.back, .slice A0d f0.s.fs.length c0d] 29)) := ⟨_, rfl⟩
 rw [← hw0] at Kw a0
 have Hw := Lib.hid hw0
 clear hw0 h0
 by_cases g0 : (sizCh f0) ≤ 1048576
 rotate_left
 ·have g' : ¬ (sizCh f0) ≤ 1048576 := g0
  have a0_0 := a0.at_.cell 0 rfl
  have a0_1 := a0.at_.cell 1 rfl
  have a0_2 := a0.at_.cell 2 rfl
  have a0_3 := a0.at_.cell 3 rfl
  have a0_4 := a0.at_.cell 4 rfl
  have a0_5 := a0.at_.cell 5 rfl
  have a0_6 := a0.at_.cell 6 rfl
  go_enter Try.func3, Try.ntmps3
  go_wp2_with fail
  rw [← Hw.out]
  clear a0_0 a0_1 a0_2 a0_3 a0_4 a0_5 a0_6
  have q0 : (0 : Int) ≤ (1048576 : Int) := by omega
  have q1 : (1048576 : Int) < (((sizCh f0) : Nat) : Int) := by omega
  refine (sz_cn_no f0 _ _ _ _ _ _ a0.rd q0 q1 (by omega)).mono ?_
  rintro e w1 ⟨rfl, hb⟩
  replace a0 := a0.call hb
  replace Kw := belI_call Kw hb
  clear hb
  go_wp2_with fail
  go_ret
  exact ⟨rfl, Kw⟩
 have Hn0 := Lib.hid (show (sizCh f0) ≤ 1048576 by omega)
 obtain ⟨q0, hq0⟩ : ∃ q, q = cnB f0 := ⟨_, rfl⟩
 have PS := fun (W : World) (u0a u0b u0e u0d : Value) (bs0 : List Nat) (k0 : repCh.R W f0 [u0a, u0b, u0e, .int .i64 f0.s.w, .int .i64 f0.s.h, .int .i64 f0.s.back, u0d] bs0) => cnS f0 u0a u0b u0e u0d _ W k0
 have PI := fun (W : World) (u0a u0b u0e u0d : Value) (bs0 : List Nat) (k0 : repCh.R W f0 [u0a, u0b, u0e, .int .i64 f0.s.w, .int .i64 f0.s.h, .int .i64 f0.s.back, u0d] bs0) => cnI f0 u0a u0b u0e u0d _ W k0
 unfold CnOkAns at PS PI
 rw [← hq0] at PS PI
 have HS := Lib.hid PS
 have HI := Lib.hid PI
 clear PS PI hq0
 have a0_0 := a0.at_.cell 0 rfl
 have a0_1 := a0.at_.cell 1 rfl
 have a0_2 := a0.at_.cell 2 rfl
 have a0_3 := a0.at_.cell 3 rfl
 have a0_4 := a0.at_.cell 4 rfl
 have a0_5 := a0.at_.cell 5 rfl
 have a0_6 := a0.at_.cell 6 rfl
 go_enter Try.func3, Try.ntmps3
 go_wp2_with fail
 rw [← Hw.out]
 clear a0_0 a0_1 a0_2 a0_3 a0_4 a0_5 a0_6
 refine (sz_cn_yes f0 _ _ _ _ _ _ a0.rd (by omega) (by omega)).mono ?_
 rintro e w2 ⟨rfl, hb⟩
 replace a0 := a0.call hb
 replace Kw := belI_call Kw hb
 clear hb
 have z0 : ¬ ((1048576 : Int) - (((sizCh f0) : Nat) : Int)) < 0 := by omega
 have a0_0 := a0.at_.cell 0 rfl
 have a0_1 := a0.at_.cell 1 rfl
 have a0_2 := a0.at_.cell 2 rfl
 have a0_3 := a0.at_.cell 3 rfl
 have a0_4 := a0.at_.cell 4 rfl
 have a0_5 := a0.at_.cell 5 rfl
 have a0_6 := a0.at_.cell 6 rfl
 go_wp2_with fail
 clear a0_0 a0_1 a0_2 a0_3 a0_4 a0_5 a0_6
 refine (to_cn f0 _ _ _ _ _ a0.rd Hn0.out).mono ?_
 rintro e w3 ⟨uoa, uob, uoe, uod, bs_u1, rfl, u1, hb⟩
 obtain ⟨A_u1a, c_u1a, A_u1b, c_u1b, A_u1e, c_u1e, A_u1d, c_u1d, he0, he1, he2, he3⟩ := form_cn u1.r
 subst he0; subst he1; subst he2; subst he3
 replace a0 := a0.call hb
 replace Kw := belI_call Kw hb
 clear hb
 go_wp2_with fail
 refine (HS.out _ _ _ _ _ _ u1.r).mono ?_
 rintro e w4 ⟨rfl, hb⟩
 replace a0 := a0.call hb
 replace u1 := u1.call hb
 replace Kw := belI_call Kw hb
 clear hb
 clear u1
 have a0_0 := a0.at_.cell 0 rfl
 have a0_1 := a0.at_.cell 1 rfl
 have a0_2 := a0.at_.cell 2 rfl
 have a0_3 := a0.at_.cell 3 rfl
 have a0_4 := a0.at_.cell 4 rfl
 have a0_5 := a0.at_.cell 5 rfl
 have a0_6 := a0.at_.cell 6 rfl
 go_wp2_with fail
 clear a0_0 a0_1 a0_2 a0_3 a0_4 a0_5 a0_6
 refine (to_cn f0 _ _ _ _ _ a0.rd Hn0.out).mono ?_
 rintro e w5 ⟨uoa, uob, uoe, uod, bs_u2, rfl, u2, hb⟩
 obtain ⟨A_u2a, c_u2a, A_u2b, c_u2b, A_u2e, c_u2e, A_u2d, c_u2d, he0, he1, he2, he3⟩ := form_cn u2.r
 subst he0; subst he1; subst he2; subst he3
 have hlo_V3 := Lib.hid Kw.size
 have hl_a0_V3 := Lib.hid a0.lt
 have V3 := VarB.born hb u2 38
 replace hb := belI_call hb (belI_box w5 (.cells #[.slice A_u2a f0.ims.length c_u2a, .slice A_u2b f0.ages.length c_u2b, .slice A_u2e f0.rgs.length c_u2e, .int .i64 f0.s.w, .int .i64 f0.s.h, .int .i64 f0.s.back, .slice A_u2d f0.s.fs.length c_u2d] 38))
 replace a0 := a0.call hb
 replace Kw := belI_call Kw hb
 clear hb u2
 have V3_0 := V3.at_.cell 0 rfl
 have V3_1 := V3.at_.cell 1 rfl
 have V3_2 := V3.at_.cell 2 rfl
 have V3_3 := V3.at_.cell 3 rfl
 have V3_4 := V3.at_.cell 4 rfl
 have V3_5 := V3.at_.cell 5 rfl
 have V3_6 := V3.at_.cell 6 rfl
 go_wp2_with fail
 clear V3_0 V3_1 V3_2 V3_3 V3_4 V3_5 V3_6
 obtain ⟨w6, hWx⟩ : ∃ w6, w6 = (w5.alloc (.cells #[.slice A_u2a f0.ims.length c_u2a, .slice A_u2b f0.ages.length c_u2b, .slice A_u2e f0.rgs.length c_u2e, .int .i64 f0.s.w, .int .i64 f0.s.h, .int .i64 f0.s.back, .slice A_u2d f0.s.fs.length c_u2d] 38)) := ⟨_, rfl⟩
 rw [← hWx]
 rw [← hWx] at Kw a0 V3
 clear hWx
 refine (HI.out _ _ _ _ _ _ V3.r).mono ?_
 rintro e w7 ⟨rfl, hb⟩
 replace a0 := a0.call hb
 replace V3 := V3.call hb
 replace Kw := belI_call Kw hb
 clear hb
 go_upto_region 10 with fail
 refine wp_region_held_drew (S := fun W => Below w7.heap.size w7 W) (by kernel_rfl) (Below.refl _ _).drew (fun hS => ?_)
 refine tcH (i := 0) (v := .agg #[.slice A_u2a f0.ims.length c_u2a, .slice A_u2b f0.ages.length c_u2b, .slice A_u2e f0.rgs.length c_u2e, .int .i64 f0.s.w, .int .i64 f0.s.h, .int .i64 f0.s.back, .slice A_u2d f0.s.fs.length c_u2d]) rfl (by intro w' hSw; (try dsimp only at hSw); (have V3_0 := (V3.call hSw).at_.cell 0 rfl); (have V3_1 := (V3.call hSw).at_.cell 1 rfl); (have V3_2 := (V3.call hSw).at_.cell 2 rfl); (have V3_3 := (V3.call hSw).at_.cell 3 rfl); (have V3_4 := (V3.call hSw).at_.cell 4 rfl); (have V3_5 := (V3.call hSw).at_.cell 5 rfl); (have V3_6 := (V3.call hSw).at_.cell 6 rfl); (have a0_0 := (a0.call hSw).at_.cell 0 rfl); (have a0_1 := (a0.call hSw).at_.cell 1 rfl); (have a0_2 := (a0.call hSw).at_.cell 2 rfl); (have a0_3 := (a0.call hSw).at_.cell 3 rfl); (have a0_4 := (a0.call hSw).at_.cell 4 rfl); (have a0_5 := (a0.call hSw).at_.cell 5 rfl); (have a0_6 := (a0.call hSw).at_.cell 6 rfl); go_simp) ?_
 refine tcH (i := 1) (v := .agg #[.slice A0a f0.ims.length c0a, .slice A0b f0.ages.length c0b, .slice A0e f0.rgs.length c0e, .int .i64 f0.s.w, .int .i64 f0.s.h, .int .i64 f0.s.back, .slice A0d f0.s.fs.length c0d]) rfl (by intro w' hSw; (try dsimp only at hSw); (have V3_0 := (V3.call hSw).at_.cell 0 rfl); (have V3_1 := (V3.call hSw).at_.cell 1 rfl); (have V3_2 := (V3.call hSw).at_.cell 2 rfl); (have V3_3 := (V3.call hSw).at_.cell 3 rfl); (have V3_4 := (V3.call hSw).at_.cell 4 rfl); (have V3_5 := (V3.call hSw).at_.cell 5 rfl); (have V3_6 := (V3.call hSw).at_.cell 6 rfl); (have a0_0 := (a0.call hSw).at_.cell 0 rfl); (have a0_1 := (a0.call hSw).at_.cell 1 rfl); (have a0_2 := (a0.call hSw).at_.cell 2 rfl); (have a0_3 := (a0.call hSw).at_.cell 3 rfl); (have a0_4 := (a0.call hSw).at_.cell 4 rfl); (have a0_5 := (a0.call hSw).at_.cell 5 rfl); (have a0_6 := (a0.call hSw).at_.cell 6 rfl); go_simp) ?_
 (try simp only [Act.put]); (try simp only [zPa]); (try simp only [zPb, zPc])
 refine wpAnyH_ready (rs := [2]) (by kernel_rfl) (by simp) ?_
 refine (AllReadyH.cons rfl (fun K hK => ?_) AllReadyH.nil)
 ·rw [if_pos (by kernel_rfl)]
  (try simp only [zGa]); (try simp only [zGb]); (try simp only [zGc])
  go_simp
  with_reducible refine (to_cn f0 _ _ _ _ _ (a0.call hS).rd Hn0.out).mono ?_
  rintro e W' ⟨uoa, uob, uoe, uod, bs_u4, rfl, u4, hb⟩
  obtain ⟨A_u4a, c_u4a, A_u4b, c_u4b, A_u4e, c_u4e, A_u4d, c_u4d, he0, he1, he2, he3⟩ := form_cn u4.r
  subst he0; subst he1; subst he2; subst he3
  replace u4 := u4.mono hS.size
  dsimp only
  refine hK.out _ _ (belI_call hS hb) (fun hS => ?_)
  clear hK
  (try simp only [Act.put]); (try simp only [zPa]); (try simp only [zPb, zPc])
  refine wpAnyH_ready (rs := [3]) (by kernel_rfl) (by simp) ?_
  refine (AllReadyH.cons rfl (fun K hK => ?_) AllReadyH.nil)
  ·rw [if_pos (by kernel_rfl)]
   (try simp only [zGa]); (try simp only [zGb]); (try simp only [zGc])
   go_simp
   with_reducible refine (eq_cn f0 _ _ _ _ _ _ _ _ _ _ _ (V3.call hS).r u4.r).mono ?_
   rintro e W' ⟨rfl, hb⟩
   dsimp only
   have u4 := u4.call hb
   refine hK.out _ _ (belI_call hS hb) (fun hS => ?_)
   clear hK
   (try simp only [Act.put]); (try simp only [zPa]); (try simp only [zPb, zPc])
   refine tcH (i := 4) (v := .bool false) rfl (by intro w' hSw; (try dsimp only at hSw); (have V3_0 := (V3.call hSw).at_.cell 0 rfl); (have V3_1 := (V3.call hSw).at_.cell 1 rfl); (have V3_2 := (V3.call hSw).at_.cell 2 rfl); (have V3_3 := (V3.call hSw).at_.cell 3 rfl); (have V3_4 := (V3.call hSw).at_.cell 4 rfl); (have V3_5 := (V3.call hSw).at_.cell 5 rfl); (have V3_6 := (V3.call hSw).at_.cell 6 rfl); (have a0_0 := (a0.call hSw).at_.cell 0 rfl); (have a0_1 := (a0.call hSw).at_.cell 1 rfl); (have a0_2 := (a0.call hSw).at_.cell 2 rfl); (have a0_3 := (a0.call hSw).at_.cell 3 rfl); (have a0_4 := (a0.call hSw).at_.cell 4 rfl); (have a0_5 := (a0.call hSw).at_.cell 5 rfl); (have a0_6 := (a0.call hSw).at_.cell 6 rfl); go_simp) ?_
   refine wpAnyH_done (by kernel_rfl) ?_ _
   have hb := hS
   replace a0 := a0.call hb
   replace V3 := V3.call hb
   replace Kw := belI_call Kw hb
   clear hb hS
   clear u4
   obtain ⟨w8, hWy⟩ : ∃ w8, w8 = W' := ⟨_, rfl⟩
   subst hWy
   go_wp2_with fail
   go_ret
   exact ⟨rfl, Kw⟩
end Go.Proofs.Ytnndifemkichmaa
