/- The walk of the law FnExactStoreImage: it returns true for every image and every number. -/
import Derived.Test.YtokniebejilcbaaMAv23
import Derived.Test.YtokniebejilcbaaMBv23
import Derived.Test.YtokniebejilcbaaMAv123
import Derived.Test.YtokniebejilcbaaMBv2
import Derived.Test.YtokniebejilcbaaLyIv2
import Derived.Test.YtokniebejilcbaaLySv2
import Derived.Test.YtokniebejilcbaaProg
import Derived.WalkKit
import Derived.ProofKit
import Derived.OpenShut
import Derived.WalkLawsBesides
import Derived.WalkSpells
import Derived.ShutString
import Derived.ChangeOld
import Derived.Below
import Derived.Lib.Hide
import Derived.BigQuiet
import Derived.Deep.QuietTactic
import Derived.Maps.AppendAt
import Derived.Deep.OwnRows
import Derived.Handy
import Derived.Deep.Draws
import Derived.OwnWalk
import Derived.Deep.AppendLies
import Derived.Deep.LoopGhost
import Derived.Deep.Onto
import Derived.Deep.MidRow
import Derived.Deep.WholeRow
import Derived.Laws.BitsAllLaws
import Derived.Lib.QuoteBits
import Derived.Deep.RegionHeld3
import Derived.Deep.DeepCutAuto
import Derived.Test.YtokniebejilcbaaShelf
import Derived.Laws.CopyOwn
import Derived.Deep.RegionLaw
import Derived.Great.BuildSlice
import Derived.Laws.AppendOwn
import Derived.ChangeKeysEq
import Derived.Carry
import Derived.Maps.Own
import Derived.Deep.RegionWith
import Derived.Shelf.RegionOpenPlain
import Derived.Lib.SliceRun
import Derived.Deep.DeepAppendRoom
namespace Go.Proofs.Ytokniebejilcbaa
open Go.RowKit
set_option maxHeartbeats 8000000 in
set_option maxRecDepth 100000 in
theorem walk_FnExactStoreImage (f0 : Im) (d0 : Value) (p1 : Int) (_ : (Lit.int .i64 p1).wf = true) (w : World) (h0 : wkIm.R w f0 [.int .i64 f0.w, .int .i64 f0.h, d0]) :
  Calls Try.prog 5 #[.agg #[.int .i64 f0.w, .int .i64 f0.h, d0], .int .i64 p1] w fun e w' => e = .returned (.bool true) ∧ Below w.heap.size w w' := by
 obtain ⟨A0, c0, rfl⟩ := wform_im h0
 have O0 := Lib.hid h0
 have Kw := Below.refl w.heap.size w
 have hb0 := belI_box w (.cells #[.int .i64 f0.w, .int .i64 f0.h, .slice A0 f0.d.length c0] 28)
 have a0 : ArgB wkIm 28 (w.heap.size) f0 [.int .i64 f0.w, .int .i64 f0.h, .slice A0 f0.d.length c0] (w.alloc (.cells #[.int .i64 f0.w, .int .i64 f0.h, .slice A0 f0.d.length c0] 28)) := ArgB.bornAt (w := w) (by simp) (wkIm.call h0 Kw) _
 replace Kw := belI_call Kw hb0
 clear hb0
 obtain ⟨w0, hw0⟩ : ∃ w0, w0 = (w.alloc (.cells #[.int .i64 f0.w, .int .i64 f0.h, .slice A0 f0.d.length c0] 28)) := ⟨_, rfl⟩
 rw [← hw0] at Kw a0
 have Hw := Lib.hid hw0
 clear hw0 h0
 by_cases g0 : f0.d.length ≤ 1048576
 rotate_left
 ·have g' : ¬ f0.d.length ≤ 1048576 := g0
  have a0_0 := a0.at_.cell 0 rfl
  have a0_1 := a0.at_.cell 1 rfl
  have a0_2 := a0.at_.cell 2 rfl
  go_enter Try.func5, Try.ntmps5
  go_wp2_with fail
  rw [← Hw.out]
  clear a0_0 a0_1 a0_2
  have q0 : (0 : Int) ≤ (1048576 : Int) := by omega
  have q1 : (1048576 : Int) < ((f0.d.length : Nat) : Int) := by omega
  refine (sz_im_no f0 _ _ _ a0.rd q0 q1 (by omega)).mono ?_
  rintro e w1 ⟨rfl, hb⟩
  replace a0 := a0.call hb
  replace Kw := belI_call Kw hb
  clear hb
  go_wp2_with fail
  go_ret
  exact ⟨rfl, Kw⟩
 have Hn0 := Lib.hid (show f0.d.length ≤ 1048576 by omega)
 obtain ⟨q0, hq0⟩ : ∃ q, q = stM f0.w f0.h f0.d p1 := ⟨_, rfl⟩
 obtain ⟨q1, hq1⟩ : ∃ q, q = stB f0.w f0.h f0.d p1 := ⟨_, rfl⟩
 have hm0 : q0.length ≤ 100000000 := by rw [hq0]; exact (by have := stM_len f0.w f0.h f0.d p1; omega)
 have PS := fun (W : World) (u0 : Value) (bs0 : List Nat) (k0 : repIm.R W f0 [.int .i64 f0.w, .int .i64 f0.h, u0] bs0) => stS f0.w f0.h f0.d p1 u0 W (repInts_rd (r_im k0))
 have PI := fun (W : World) (u0 : Value) (bs0 : List Nat) (k0 : repIm.R W f0 [.int .i64 f0.w, .int .i64 f0.h, u0] bs0) => stI f0.w f0.h f0.d p1 u0 W (repInts_rd (r_im k0))
 unfold StAns at PS PI
 rw [← hq0, ← hq1] at PS PI
 have HS := Lib.hid PS
 have HI := Lib.hid PI
 clear PS PI hq0 hq1
 have a0_0 := a0.at_.cell 0 rfl
 have a0_1 := a0.at_.cell 1 rfl
 have a0_2 := a0.at_.cell 2 rfl
 go_enter Try.func5, Try.ntmps5
 go_wp2_with fail
 rw [← Hw.out]
 clear a0_0 a0_1 a0_2
 refine (sz_im_yes f0 _ _ _ a0.rd (by omega) (by omega)).mono ?_
 rintro e w2 ⟨rfl, hb⟩
 replace a0 := a0.call hb
 replace Kw := belI_call Kw hb
 clear hb
 have z0 : ¬ ((1048576 : Int) - ((f0.d.length : Nat) : Int)) < 0 := by omega
 have neg0 : ¬ ((1 + q0.length : Nat) : Int) < 0 := by omega
 have a0_0 := a0.at_.cell 0 rfl
 have a0_1 := a0.at_.cell 1 rfl
 have a0_2 := a0.at_.cell 2 rfl
 go_wp2_with fail
 clear a0_0 a0_1 a0_2
 refine (to_im f0 _ _ a0.rd Hn0.out).mono ?_
 rintro e w3 ⟨uo, bs_u1, rfl, u1, hb⟩
 obtain ⟨A_u1, c_u1, he⟩ := form_im u1.r
 subst he
 replace a0 := a0.call hb
 replace Kw := belI_call Kw hb
 clear hb
 go_wp2_with fail
 refine (HS.out _ _ _ u1.r).mono ?_
 rintro e w4 ⟨uou2, bs_u2, rfl, u2, hb⟩
 obtain ⟨A_u2, c_u2, he⟩ := form_il u2.r
 subst he
 have hlo_V3 := Lib.hid Kw.size
 have hl_a0_V3 := Lib.hid a0.lt
 have V3 := VarN.born hb u2
 replace a0 := a0.call hb
 replace u1 := u1.call hb
 replace Kw := belI_call Kw hb
 clear hb u2
 clear u1
 have a0_0 := a0.at_.cell 0 rfl
 have a0_1 := a0.at_.cell 1 rfl
 have a0_2 := a0.at_.cell 2 rfl
 go_wp2_with fail
 clear a0_0 a0_1 a0_2
 refine (to_im f0 _ _ a0.rd Hn0.out).mono ?_
 rintro e w5 ⟨uo, bs_u4, rfl, u4, hb⟩
 obtain ⟨A_u4, c_u4, he⟩ := form_im u4.r
 subst he
 have hs_V3_V5 := Lib.hid V3.hs
 have hlo_V5 := Lib.hid Kw.size
 have hl_a0_V5 := Lib.hid a0.lt
 have V5 := VarB.born hb u4 32
 replace hb := belI_call hb (belI_box w5 (.cells #[.int .i64 f0.w, .int .i64 f0.h, .slice A_u4 f0.d.length c_u4] 32))
 replace a0 := a0.call hb
 replace V3 := V3.call hb
 replace Kw := belI_call Kw hb
 clear hb u4
 have V5_0 := V5.at_.cell 0 rfl
 have V5_1 := V5.at_.cell 1 rfl
 have V5_2 := V5.at_.cell 2 rfl
 go_wp2_with fail
 clear V5_0 V5_1 V5_2
 obtain ⟨w6, hWx⟩ : ∃ w6, w6 = (w5.alloc (.cells #[.int .i64 f0.w, .int .i64 f0.h, .slice A_u4 f0.d.length c_u4] 32)) := ⟨_, rfl⟩
 rw [← hWx]
 rw [← hWx] at Kw a0 V3 V5
 clear hWx
 refine (HI.out _ _ _ V5.r).mono ?_
 rintro e w7 ⟨uou6, bs_u6, rfl, u6, hb⟩
 obtain ⟨A_u6, c_u6, he⟩ := form_il u6.r
 subst he
 have hs_V3_V7 := Lib.hid V3.hs
 have hs_V5_V7 := Lib.hid V5.hs
 have hlo_V7 := Lib.hid Kw.size
 have hl_a0_V7 := Lib.hid a0.lt
 have V7 := VarN.born hb u6
 replace a0 := a0.call hb
 replace V3 := V3.call hb
 replace V5 := V5.call hb
 replace Kw := belI_call Kw hb
 clear hb u6
 go_wp2_with fail
 refine (eq_il q0 _ _ _ _ _ V7.r V3.r).mono ?_
 rintro e w8 ⟨rfl, hb⟩
 replace a0 := a0.call hb
 replace V3 := V3.call hb
 replace V5 := V5.call hb
 replace V7 := V7.call hb
 replace Kw := belI_call Kw hb
 clear hb
 go_upto_region 10 with fail
 refine wp_region_held_drew (S := fun W => Below w8.heap.size w8 W) (by kernel_rfl) (Below.refl _ _).drew (fun hS => ?_)
 refine tcH (i := 0) (v := .agg #[.int .i64 f0.w, .int .i64 f0.h, .slice A_u4 f0.d.length c_u4]) rfl (by intro w' hSw; (try dsimp only at hSw); (have V5_0 := (V5.call hSw).at_.cell 0 rfl); (have V5_1 := (V5.call hSw).at_.cell 1 rfl); (have V5_2 := (V5.call hSw).at_.cell 2 rfl); (have a0_0 := (a0.call hSw).at_.cell 0 rfl); (have a0_1 := (a0.call hSw).at_.cell 1 rfl); (have a0_2 := (a0.call hSw).at_.cell 2 rfl); go_simp) ?_
 refine tcH (i := 1) (v := .agg #[.int .i64 f0.w, .int .i64 f0.h, .slice A0 f0.d.length c0]) rfl (by intro w' hSw; (try dsimp only at hSw); (have V5_0 := (V5.call hSw).at_.cell 0 rfl); (have V5_1 := (V5.call hSw).at_.cell 1 rfl); (have V5_2 := (V5.call hSw).at_.cell 2 rfl); (have a0_0 := (a0.call hSw).at_.cell 0 rfl); (have a0_1 := (a0.call hSw).at_.cell 1 rfl); (have a0_2 := (a0.call hSw).at_.cell 2 rfl); go_simp) ?_
 (try simp only [Act.put]); (try simp only [zPa]); (try simp only [zPb, zPc])
 refine wpAnyH_ready (rs := [2]) (by kernel_rfl) (by simp) ?_
 refine (AllReadyH.cons rfl (fun K hK => ?_) AllReadyH.nil)
 ·rw [if_pos (by kernel_rfl)]
  (try simp only [zGa]); (try simp only [zGb]); (try simp only [zGc])
  go_simp
  with_reducible refine (to_im f0 _ _ (a0.call hS).rd Hn0.out).mono ?_
  rintro e W' ⟨uo, bs_u8, rfl, u8, hb⟩
  obtain ⟨A_u8, c_u8, he⟩ := form_im u8.r
  subst he
  replace u8 := u8.mono hS.size
  dsimp only
  refine hK.out _ _ (belI_call hS hb) (fun hS => ?_)
  clear hK
  (try simp only [Act.put]); (try simp only [zPa]); (try simp only [zPb, zPc])
  refine wpAnyH_ready (rs := [3]) (by kernel_rfl) (by simp) ?_
  refine (AllReadyH.cons rfl (fun K hK => ?_) AllReadyH.nil)
  ·rw [if_pos (by kernel_rfl)]
   (try simp only [zGa]); (try simp only [zGb]); (try simp only [zGc])
   go_simp
   with_reducible refine (eq_im f0 _ _ _ _ _ (V5.call hS).r u8.r).mono ?_
   rintro e W' ⟨rfl, hb⟩
   dsimp only
   have u8 := u8.call hb
   refine hK.out _ _ (belI_call hS hb) (fun hS => ?_)
   clear hK
   (try simp only [Act.put]); (try simp only [zPa]); (try simp only [zPb, zPc])
   refine tcH (i := 4) (v := .bool false) rfl (by intro w' hSw; (try dsimp only at hSw); (have V5_0 := (V5.call hSw).at_.cell 0 rfl); (have V5_1 := (V5.call hSw).at_.cell 1 rfl); (have V5_2 := (V5.call hSw).at_.cell 2 rfl); (have a0_0 := (a0.call hSw).at_.cell 0 rfl); (have a0_1 := (a0.call hSw).at_.cell 1 rfl); (have a0_2 := (a0.call hSw).at_.cell 2 rfl); go_simp) ?_
   refine wpAnyH_done (by kernel_rfl) ?_ _
   have hb := hS
   replace a0 := a0.call hb
   replace V3 := V3.call hb
   replace V5 := V5.call hb
   replace V7 := V7.call hb
   replace Kw := belI_call Kw hb
   clear hb hS
   clear u8
   obtain ⟨w9, hWy⟩ : ∃ w9, w9 = W' := ⟨_, rfl⟩
   subst hWy
   have V5_0 := V5.at_.cell 0 rfl
   have V5_1 := V5.at_.cell 1 rfl
   have V5_2 := V5.at_.cell 2 rfl
   go_wp2_with fail
   clear V5_0 V5_1 V5_2
   refine (mark_im _ f0 _ _ (1) _ (by omega) V5.own).mono ?_
   rintro e w10 ⟨rfl, hr, hc⟩
   replace Kw := V5.below Kw (by have := hlo_V5.out; omega) hc
   replace a0 := a0.chg O0.out Kw hc (fun hk => by have := V5.rng _ hk; have := hl_a0_V5.out; omega)
   replace V3 := V3.chg hc (fun k hk => by have := V5.rng k hk; have := hs_V3_V5.out; omega)
   replace V7 := V7.chg hc (fun k hk => by have := V5.rng k hk; have := hs_V5_V7.out; omega)
   replace V5 := V5.mark hr hc
   clear hr hc
   have hk_w10 : ¬ ((1 + f0.d.length : Nat) : Int) < 0 := by omega
   go_wp2_with fail
   refine (eq_il q0 _ _ _ _ _ V7.r V3.r).mono ?_
   rintro e w11 ⟨rfl, hb⟩
   replace a0 := a0.call hb
   replace V3 := V3.call hb
   replace V5 := V5.call hb
   replace V7 := V7.call hb
   replace Kw := belI_call Kw hb
   clear hb
   go_wp2_with fail
   refine (mark_il _ q0 _ _ (1) _ (by omega) V7.own).mono ?_
   rintro e w12 ⟨rfl, hr, hc⟩
   replace Kw := V7.below Kw (by have := hlo_V7.out; omega) hc
   replace a0 := a0.chg O0.out Kw hc (fun hk => by have := V7.rng _ hk; have := hl_a0_V7.out; omega)
   replace V3 := V3.chg hc (fun k hk => by have := V7.rng k hk; have := hs_V3_V7.out; omega)
   replace V5 := V5.chg hc (fun k hk => by have := V7.rng k hk; have := hs_V5_V7.out; omega)
   replace V7 := V7.mark hr hc
   clear hr hc
   have hk_w12 : ¬ ((1 + q0.length : Nat) : Int) < 0 := by omega
   go_wp2_with fail
   refine (held_il q0 _ _ 1 _ (by omega) V7.r).mono ?_
   rintro e w13 ⟨rfl, hb⟩
   replace a0 := a0.call hb
   replace V3 := V3.call hb
   replace V5 := V5.call hb
   replace V7 := V7.call hb
   replace Kw := belI_call Kw hb
   clear hb
   have a0_0 := a0.at_.cell 0 rfl
   have a0_1 := a0.at_.cell 1 rfl
   have a0_2 := a0.at_.cell 2 rfl
   go_wp2_with fail
   clear a0_0 a0_1 a0_2
   refine (to_im f0 _ _ a0.rd Hn0.out).mono ?_
   rintro e w14 ⟨uo, bs_u9, rfl, u9, hb⟩
   obtain ⟨A_u9, c_u9, he⟩ := form_im u9.r
   subst he
   replace a0 := a0.call hb
   replace V3 := V3.call hb
   replace V5 := V5.call hb
   replace V7 := V7.call hb
   replace Kw := belI_call Kw hb
   clear hb
   go_wp2_with fail
   refine (HI.out _ _ _ u9.r).mono ?_
   rintro e w15 ⟨uou10, bs_u10, rfl, u10, hb⟩
   obtain ⟨A_u10, c_u10, he⟩ := form_il u10.r
   subst he
   have hs_V3_V11 := Lib.hid V3.hs
   have hs_V5_V11 := Lib.hid V5.hs
   have hs_V7_V11 := Lib.hid V7.hs
   have hlo_V11 := Lib.hid Kw.size
   have hl_a0_V11 := Lib.hid a0.lt
   have V11 := VarN.born hb u10
   replace a0 := a0.call hb
   replace V3 := V3.call hb
   replace V5 := V5.call hb
   replace V7 := V7.call hb
   replace u9 := u9.call hb
   replace Kw := belI_call Kw hb
   clear hb u10
   clear u9
   go_wp2_with fail
   refine (eq_il q0 _ _ _ _ _ V11.r V3.r).mono ?_
   rintro e w16 ⟨rfl, hb⟩
   replace a0 := a0.call hb
   replace V3 := V3.call hb
   replace V5 := V5.call hb
   replace V7 := V7.call hb
   replace V11 := V11.call hb
   replace Kw := belI_call Kw hb
   clear hb
   go_wp2_with fail
   refine (held_il q0 _ _ 1 _ (by omega) V7.r).mono ?_
   rintro e w17 ⟨rfl, hb⟩
   replace a0 := a0.call hb
   replace V3 := V3.call hb
   replace V5 := V5.call hb
   replace V7 := V7.call hb
   replace V11 := V11.call hb
   replace Kw := belI_call Kw hb
   clear hb
   go_wp2_with fail
   go_ret
   exact ⟨rfl, Kw⟩
end Go.Proofs.Ytokniebejilcbaa
