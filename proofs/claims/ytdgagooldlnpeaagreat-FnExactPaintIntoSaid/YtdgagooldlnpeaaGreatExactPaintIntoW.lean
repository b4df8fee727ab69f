/- The walk of the law FnExactPaintInto: it returns true for every image, scene and region. -/
import Derived.Test.YtdgagooldlnpeaaGreatMA
import Derived.Test.YtdgagooldlnpeaaGreatMAv2
import Derived.Test.YtdgagooldlnpeaaGreatMAv23
import Derived.Test.YtdgagooldlnpeaaGreatMB
import Derived.Test.YtdgagooldlnpeaaGreatMAv023
import Derived.Test.YtdgagooldlnpeaaGreatMAv012
import Derived.Test.YtdgagooldlnpeaaGreatMBv2
import Derived.Test.YtdgagooldlnpeaaGreatCpyIv2
import Derived.Test.YtdgagooldlnpeaaGreatMC
import Derived.Test.YtdgagooldlnpeaaGreatB1sav23
import Derived.Test.YtdgagooldlnpeaaGreatMBv23
import Derived.Test.YtdgagooldlnpeaaGreatSnS
import Derived.Test.YtdgagooldlnpeaaGreatB1sav2
import Derived.Test.YtdgagooldlnpeaaGreatSfP
import Derived.Test.YtdgagooldlnpeaaGreatB2sa
import Derived.Test.YtdgagooldlnpeaaGreatPnSv012
import Derived.Test.YtdgagooldlnpeaaGreatPnI
import Derived.Test.YtdgagooldlnpeaaGreatB3sa
import Derived.Test.YtdgagooldlnpeaaGreatB1sbv23
import Derived.Test.YtdgagooldlnpeaaGreatB3sav2
import Derived.Test.YtdgagooldlnpeaaGreatProg
import Derived.WalkKit
import Derived.ProofKit
import Derived.OpenShut
import Derived.WalkLawsBesides
import Derived.WalkSpells
import Derived.ShutString
import Derived.ChangeOld
import Derived.Below
import Derived.Lib.Hide
import Derived.BigQuiet
import Derived.Deep.QuietTactic
import Derived.Maps.AppendAt
import Derived.Deep.OwnRows
import Derived.Handy
import Derived.Deep.Draws
import Derived.OwnWalk
import Derived.Deep.AppendLies
import Derived.Deep.LoopGhost
import Derived.Deep.Onto
import Derived.Deep.MidRow
import Derived.Deep.WholeRow
import Derived.Laws.BitsAllLaws
import Derived.Lib.QuoteBits
import Derived.Deep.RegionHeld3
import Derived.Deep.DeepCutAuto
import Derived.Test.YtdgagooldlnpeaaGreatShelf
import Derived.Laws.CopyOwn
import Derived.Deep.RegionLaw
import Derived.Great.BuildSlice
import Derived.Laws.AppendOwn
import Derived.ChangeKeysEq
import Derived.Deep.RegionWith
import Derived.Shelf.RegionOpenPlain
import Derived.Lib.SliceRun
import Derived.Deep.DeepAppendRoom
namespace Go.Proofs.YtdgagooldlnpeaaGreat
open Go.RowKit
set_option maxHeartbeats 8000000 in
set_option maxRecDepth 100000 in
theorem walk_FnExactPaintInto (f0 : Im) (d0 : Value) (f1 : Sn) (d1 : Value) (f2 : List Rc) (d2 : Value) (w : World) (h0 : wkIm.R w f0 [.int .i64 f0.w, .int .i64 f0.h, d0]) (h1 : wkSn.R w f1 [.int .i64 f1.w, .int .i64 f1.h, .int .i64 f1.back, d1]) (h2 : wkRg.R w f2 [d2]) :
  Calls Tryz.prog 7 #[.agg #[.int .i64 f0.w, .int .i64 f0.h, d0], .agg #[.int .i64 f1.w, .int .i64 f1.h, .int .i64 f1.back, d1], .agg #[d2]] w fun e w' => e = .returned (.bool true) ∧ Below w.heap.size w w' := by
 obtain ⟨A0, c0, rfl⟩ := wform_im h0
 have O0 := Lib.hid h0
 obtain ⟨A1, c1, rfl⟩ := wform_sn h1
 have O1 := Lib.hid h1
 obtain ⟨A2, c2, rfl⟩ := wform_rg h2
 have O2 := Lib.hid h2
 have Kw := Below.refl w.heap.size w
 have hb0 := belI_box w (.cells #[.int .i64 f0.w, .int .i64 f0.h, .slice A0 f0.d.length c0] 74)
 have a0 : ArgB wkIm 74 (w.heap.size) f0 [.int .i64 f0.w, .int .i64 f0.h, .slice A0 f0.d.length c0] (w.alloc (.cells #[.int .i64 f0.w, .int .i64 f0.h, .slice A0 f0.d.length c0] 74)) := ArgB.bornAt (w := w) (by simp) (wkIm.call h0 Kw) _
 replace Kw := belI_call Kw hb0
 clear hb0
 have hb1 := belI_box (w.alloc (.cells #[.int .i64 f0.w, .int .i64 f0.h, .slice A0 f0.d.length c0] 74)) (.cells #[.int .i64 f1.w, .int .i64 f1.h, .int .i64 f1.back, .slice A1 f1.fs.length c1] 24)
 replace a0 := a0.call hb1
 have a1 : ArgB wkSn 24 (w.heap.size + 1) f1 [.int .i64 f1.w, .int .i64 f1.h, .int .i64 f1.back, .slice A1 f1.fs.length c1] ((w.alloc (.cells #[.int .i64 f0.w, .int .i64 f0.h, .slice A0 f0.d.length c0] 74)).alloc (.cells #[.int .i64 f1.w, .int .i64 f1.h, .int .i64 f1.back, .slice A1 f1.fs.length c1] 24)) := ArgB.bornAt (w := (w.alloc (.cells #[.int .i64 f0.w, .int .i64 f0.h, .slice A0 f0.d.length c0] 74))) (by simp) (wkSn.call h1 Kw) _
 replace Kw := belI_call Kw hb1
 clear hb1
 have hb2 := belI_box ((w.alloc (.cells #[.int .i64 f0.w, .int .i64 f0.h, .slice A0 f0.d.length c0] 74)).alloc (.cells #[.int .i64 f1.w, .int .i64 f1.h, .int .i64 f1.back, .slice A1 f1.fs.length c1] 24)) (.cells #[.slice A2 f2.length c2] 77)
 replace a0 := a0.call hb2
 replace a1 := a1.call hb2
 have a2 : ArgB wkRg 77 (w.heap.size + 1 + 1) f2 [.slice A2 f2.length c2] (((w.alloc (.cells #[.int .i64 f0.w, .int .i64 f0.h, .slice A0 f0.d.length c0] 74)).alloc (.cells #[.int .i64 f1.w, .int .i64 f1.h, .int .i64 f1.back, .slice A1 f1.fs.length c1] 24)).alloc (.cells #[.slice A2 f2.length c2] 77)) := ArgB.bornAt (w := ((w.alloc (.cells #[.int .i64 f0.w, .int .i64 f0.h, .slice A0 f0.d.length c0] 74)).alloc (.cells #[.int .i64 f1.w, .int .i64 f1.h, .int .i64 f1.back, .slice A1 f1.fs.length c1] 24))) (by simp) (wkRg.call h2 Kw) _
 replace Kw := belI_call Kw hb2
 clear hb2
 obtain ⟨w0, hw0⟩ : ∃ w0, w0 = (((w.alloc (.cells #[.int .i64 f0.w, .int .i64 f0.h, .slice A0 f0.d.length c0] 74)).alloc (.cells #[.int .i64 f1.w, .int .i64 f1.h, .int .i64 f1.back, .slice A1 f1.fs.length c1] 24)).alloc (.cells #[.slice A2 f2.length c2] 77)) := ⟨_, rfl⟩
 rw [← hw0] at Kw a0 a1 a2
 have Hw := Lib.hid hw0
 clear hw0 h0 h1 h2
 by_cases g0 : f0.d.length ≤ 1048576
 rotate_left
 ·have g' : ¬ f0.d.length ≤ 1048576 := g0
  have a0_0 := a0.at_.cell 0 rfl
  have a0_1 := a0.at_.cell 1 rfl
  have a0_2 := a0.at_.cell 2 rfl
  go_enter Tryz.func7, Tryz.ntmps7
  go_wp2_with fail
  rw [← Hw.out]
  clear a0_0 a0_1 a0_2
  have q0 : (0 : Int) ≤ (1048576 : Int) := by omega
  have q1 : (1048576 : Int) < ((f0.d.length : Nat) : Int) := by omega
  refine (sz_im_no f0 _ _ _ a0.rd q0 q1 (by omega)).mono ?_
  rintro e w1 ⟨rfl, hb⟩
  replace a0 := a0.call hb
  replace a1 := a1.call hb
  replace a2 := a2.call hb
  replace Kw := belI_call Kw hb
  clear hb
  go_wp2_with fail
  go_ret
  exact ⟨rfl, Kw⟩
 by_cases g1 : f0.d.length + (sizFs f1.fs) ≤ 1048576
 rotate_left
 ·have g' : ¬ f0.d.length + (sizFs f1.fs) ≤ 1048576 := g1
  have a0_0 := a0.at_.cell 0 rfl
  have a0_1 := a0.at_.cell 1 rfl
  have a0_2 := a0.at_.cell 2 rfl
  go_enter Tryz.func7, Tryz.ntmps7
  go_wp2_with fail
  rw [← Hw.out]
  clear a0_0 a0_1 a0_2
  refine (sz_im_yes f0 _ _ _ a0.rd (by omega) (by omega)).mono ?_
  rintro e w2 ⟨rfl, hb⟩
  replace a0 := a0.call hb
  replace a1 := a1.call hb
  replace a2 := a2.call hb
  replace Kw := belI_call Kw hb
  clear hb
  have z0 : ¬ ((1048576 : Int) - ((f0.d.length : Nat) : Int)) < 0 := by omega
  have a1_0 := a1.at_.cell 0 rfl
  have a1_1 := a1.at_.cell 1 rfl
  have a1_2 := a1.at_.cell 2 rfl
  have a1_3 := a1.at_.cell 3 rfl
  go_wp2_with fail
  clear a1_0 a1_1 a1_2 a1_3
  have q0 : (0 : Int) ≤ ((1048576 : Int) - ((f0.d.length : Nat) : Int)) := by omega
  have q1 : ((1048576 : Int) - ((f0.d.length : Nat) : Int)) < (((sizFs f1.fs) : Nat) : Int) := by omega
  refine (sz_sn_no f1 _ _ _ a1.rd q0 q1 (by omega)).mono ?_
  rintro e w3 ⟨rfl, hb⟩
  replace a0 := a0.call hb
  replace a1 := a1.call hb
  replace a2 := a2.call hb
  replace Kw := belI_call Kw hb
  clear hb
  go_wp2_with fail
  go_ret
  exact ⟨rfl, Kw⟩
 by_cases g2 : f0.d.length + (sizFs f1.fs) + f2.length ≤ 1048576
 rotate_left
 ·have g' : ¬ f0.d.length + (sizFs f1.fs) + f2.length ≤ 1048576 := g2
  have a0_0 := a0.at_.cell 0 rfl
  have a0_1 := a0.at_.cell 1 rfl
  have a0_2 := a0.at_.cell 2 rfl
  go_enter Tryz.func7, Tryz.ntmps7
  go_wp2_with fail
  rw [← Hw.out]
  clear a0_0 a0_1 a0_2
  refine (sz_im_yes f0 _ _ _ a0.rd (by omega) (by omega)).mono ?_
  rintro e w4 ⟨rfl, hb⟩
  replace a0 := a0.call hb
  replace a1 := a1.call hb
  replace a2 := a2.call hb
  replace Kw := belI_call Kw hb
  clear hb
  have z0 : ¬ ((1048576 : Int) - ((f0.d.length : Nat) : Int)) < 0 := by omega
  have a1_0 := a1.at_.cell 0 rfl
  have a1_1 := a1.at_.cell 1 rfl
  have a1_2 := a1.at_.cell 2 rfl
  have a1_3 := a1.at_.cell 3 rfl
  go_wp2_with fail
  clear a1_0 a1_1 a1_2 a1_3
  refine (sz_sn_yes f1 _ _ _ a1.rd (by omega) (by omega)).mono ?_
  rintro e w5 ⟨rfl, hb⟩
  replace a0 := a0.call hb
  replace a1 := a1.call hb
  replace a2 := a2.call hb
  replace Kw := belI_call Kw hb
  clear hb
  have z1 : ¬ (((1048576 : Int) - ((f0.d.length : Nat) : Int)) - (((sizFs f1.fs) : Nat) : Int)) < 0 := by omega
  have a2_0 := a2.at_.cell 0 rfl
  go_wp2_with fail
  clear a2_0
  have q0 : (0 : Int) ≤ (((1048576 : Int) - ((f0.d.length : Nat) : Int)) - (((sizFs f1.fs) : Nat) : Int)) := by omega
  have q1 : (((1048576 : Int) - ((f0.d.length : Nat) : Int)) - (((sizFs f1.fs) : Nat) : Int)) < ((f2.length : Nat) : Int) := by omega
  refine (sz_rg_no f2 _ _ _ a2.rd q0 q1 (by omega)).mono ?_
  rintro e w6 ⟨rfl, hb⟩
  replace a0 := a0.call hb
  replace a1 := a1.call hb
  replace a2 := a2.call hb
  replace Kw := belI_call Kw hb
  clear hb
  go_wp2_with fail
  go_ret
  exact ⟨rfl, Kw⟩
 have Hn0 := Lib.hid (show f0.d.length ≤ 1048576 by omega)
 have Hn1 := Lib.hid (show (sizFs f1.fs) ≤ 1048576 by omega)
 have Hn2 := Lib.hid (show f2.length ≤ 1048576 by omega)
 have hcs1 := cnt_le_siz f1.fs
 obtain ⟨q0, hq0⟩ : ∃ q, q = pniIm f0 f1 f2 := ⟨_, rfl⟩
 have hm0 : q0.d.length ≤ 100000000 := by rw [hq0]; exact (by rw [pni_len]; exact Nat.le_trans Hn0.out (by omega))
 have PS := fun (W : World) (u0 : Value) (bs0 : List Nat) (k0 : repIm.R W f0 [.int .i64 f0.w, .int .i64 f0.h, u0] bs0) (u1 : Value) (bs1 : List Nat) (k1 : repSn.R W f1 [.int .i64 f1.w, .int .i64 f1.h, .int .i64 f1.back, u1] bs1) (u2 : Value) (bs2 : List Nat) (k2 : repRg.R W f2 [u2] bs2) => pniS' f0 f1 f2 u0 u1 u2 _ W (Nat.le_trans Hn0.out (by omega)) (repInts_rd (r_im k0)) (r_sn k1) (r_rg k2)
 have PI := fun (W : World) (u0 : Value) (bs0 : List Nat) (k0 : repIm.R W f0 [.int .i64 f0.w, .int .i64 f0.h, u0] bs0) (u1 : Value) (bs1 : List Nat) (k1 : repSn.R W f1 [.int .i64 f1.w, .int .i64 f1.h, .int .i64 f1.back, u1] bs1) (u2 : Value) (bs2 : List Nat) (k2 : repRg.R W f2 [u2] bs2) => pniI' f0 f1 f2 u0 u1 u2 _ W (Nat.le_trans Hn0.out (by omega)) (repInts_rd (r_im k0)) (r_sn k1) (r_rg k2)
 unfold ImK at PS PI
 rw [← hq0] at PS PI
 have HS := Lib.hid PS
 have HI := Lib.hid PI
 clear PS PI hq0
 have a0_0 := a0.at_.cell 0 rfl
 have a0_1 := a0.at_.cell 1 rfl
 have a0_2 := a0.at_.cell 2 rfl
 go_enter Tryz.func7, Tryz.ntmps7
 go_wp2_with fail
 rw [← Hw.out]
 clear a0_0 a0_1 a0_2
 refine (sz_im_yes f0 _ _ _ a0.rd (by omega) (by omega)).mono ?_
 rintro e w7 ⟨rfl, hb⟩
 replace a0 := a0.call hb
 replace a1 := a1.call hb
 replace a2 := a2.call hb
 replace Kw := belI_call Kw hb
 clear hb
 have z0 : ¬ ((1048576 : Int) - ((f0.d.length : Nat) : Int)) < 0 := by omega
 have a1_0 := a1.at_.cell 0 rfl
 have a1_1 := a1.at_.cell 1 rfl
 have a1_2 := a1.at_.cell 2 rfl
 have a1_3 := a1.at_.cell 3 rfl
 go_wp2_with fail
 clear a1_0 a1_1 a1_2 a1_3
 refine (sz_sn_yes f1 _ _ _ a1.rd (by omega) (by omega)).mono ?_
 rintro e w8 ⟨rfl, hb⟩
 replace a0 := a0.call hb
 replace a1 := a1.call hb
 replace a2 := a2.call hb
 replace Kw := belI_call Kw hb
 clear hb
 have z1 : ¬ (((1048576 : Int) - ((f0.d.length : Nat) : Int)) - (((sizFs f1.fs) : Nat) : Int)) < 0 := by omega
 have a2_0 := a2.at_.cell 0 rfl
 go_wp2_with fail
 clear a2_0
 refine (sz_rg_yes f2 _ _ _ a2.rd (by omega) (by omega)).mono ?_
 rintro e w9 ⟨rfl, hb⟩
 replace a0 := a0.call hb
 replace a1 := a1.call hb
 replace a2 := a2.call hb
 replace Kw := belI_call Kw hb
 clear hb
 have z2 : ¬ ((((1048576 : Int) - ((f0.d.length : Nat) : Int)) - (((sizFs f1.fs) : Nat) : Int)) - ((f2.length : Nat) : Int)) < 0 := by omega
 have neg0 : ¬ ((1 + q0.d.length : Nat) : Int) < 0 := by omega
 go_upto_region 11 with fail
 go_cut [8] (fun s8 wx => ∃ (b hi : Nat) (A : Option Addr) (c : Nat) (bs : List Nat), s8 = .pointer (some ⟨b, 0, none⟩) ∧ VarB repIm 55 w9.heap.size hi b q0 [.int .i64 q0.w, .int .i64 q0.h, .slice A q0.d.length c] bs wx ∧ Below w9.heap.size w9 wx)
 case first =>
  refine wp_region_held_drew (S := fun W => Below w9.heap.size w9 W) (by kernel_rfl) (Below.refl _ _).drew (fun hS => ?_)
  refine tcH (i := 0) (v := .agg #[.int .i64 f0.w, .int .i64 f0.h, .slice A0 f0.d.length c0]) rfl (by intro w' hSw; (try dsimp only at hSw); (have a0_0 := (a0.call hSw).at_.cell 0 rfl); (have a0_1 := (a0.call hSw).at_.cell 1 rfl); (have a0_2 := (a0.call hSw).at_.cell 2 rfl); (have a1_0 := (a1.call hSw).at_.cell 0 rfl); (have a1_1 := (a1.call hSw).at_.cell 1 rfl); (have a1_2 := (a1.call hSw).at_.cell 2 rfl); (have a1_3 := (a1.call hSw).at_.cell 3 rfl); (have a2_0 := (a2.call hSw).at_.cell 0 rfl); go_simp) ?_
  refine tcH (i := 2) (v := .agg #[.int .i64 f1.w, .int .i64 f1.h, .int .i64 f1.back, .slice A1 f1.fs.length c1]) rfl (by intro w' hSw; (try dsimp only at hSw); (have a0_0 := (a0.call hSw).at_.cell 0 rfl); (have a0_1 := (a0.call hSw).at_.cell 1 rfl); (have a0_2 := (a0.call hSw).at_.cell 2 rfl); (have a1_0 := (a1.call hSw).at_.cell 0 rfl); (have a1_1 := (a1.call hSw).at_.cell 1 rfl); (have a1_2 := (a1.call hSw).at_.cell 2 rfl); (have a1_3 := (a1.call hSw).at_.cell 3 rfl); (have a2_0 := (a2.call hSw).at_.cell 0 rfl); go_simp) ?_
  refine tcH (i := 4) (v := .agg #[.slice A2 f2.length c2]) rfl (by intro w' hSw; (try dsimp only at hSw); (have a0_0 := (a0.call hSw).at_.cell 0 rfl); (have a0_1 := (a0.call hSw).at_.cell 1 rfl); (have a0_2 := (a0.call hSw).at_.cell 2 rfl); (have a1_0 := (a1.call hSw).at_.cell 0 rfl); (have a1_1 := (a1.call hSw).at_.cell 1 rfl); (have a1_2 := (a1.call hSw).at_.cell 2 rfl); (have a1_3 := (a1.call hSw).at_.cell 3 rfl); (have a2_0 := (a2.call hSw).at_.cell 0 rfl); go_simp) ?_
  (try simp only [Act.put]); (try simp only [zPa]); (try simp only [zPb, zPc])
  refine wpAnyH_ready (rs := [1, 7]) (by kernel_rfl) (by simp) ?_
  refine (AllReadyH.cons rfl (fun K hK => ?_) (AllReadyH.cons rfl (fun K hK => ?_) AllReadyH.nil))
  ·rw [if_pos (by kernel_rfl)]
   (try simp only [zGa]); (try simp only [zGb]); (try simp only [zGc])
   go_simp
   with_reducible refine (to_im f0 _ _ (a0.call hS).rd Hn0.out).mono ?_
   rintro e W' ⟨uo, bs_u1, rfl, u1, hb⟩
   obtain ⟨A_u1, c_u1, he⟩ := form_im u1.r
   subst he
   replace u1 := u1.mono hS.size
   dsimp only
   refine hK.out _ _ (belI_call hS hb) (fun hS => ?_)
   clear hK
   (try simp only [Act.put]); (try simp only [zPa]); (try simp only [zPb, zPc])
   refine wpAnyH_ready (rs := [3, 7]) (by kernel_rfl) (by simp) ?_
   refine (AllReadyH.cons rfl (fun K hK => ?_) (AllReadyH.cons rfl (fun K hK => ?_) AllReadyH.nil))
   ·rw [if_pos (by kernel_rfl)]
    (try simp only [zGa]); (try simp only [zGb]); (try simp only [zGc])
    go_simp
    with_reducible refine (to_sn f1 _ _ (a1.call hS).rd Hn1.out).mono ?_
    rintro e W' ⟨uo, bs_u2, rfl, u2, hb⟩
    obtain ⟨A_u2, c_u2, he⟩ := form_sn u2.r
    subst he
    replace u2 := u2.mono hS.size
    dsimp only
    have u1 := u1.call hb
    refine hK.out _ _ (belI_call hS hb) (fun hS => ?_)
    clear hK
    (try simp only [Act.put]); (try simp only [zPa]); (try simp only [zPb, zPc])
    refine wpAnyH_ready (rs := [5, 7]) (by kernel_rfl) (by simp) ?_
    refine (AllReadyH.cons rfl (fun K hK => ?_) (AllReadyH.cons rfl (fun K hK => ?_) AllReadyH.nil))
    ·rw [if_pos (by kernel_rfl)]
     (try simp only [zGa]); (try simp only [zGb]); (try simp only [zGc])
     go_simp
     with_reducible refine (to_rg f2 _ _ (a2.call hS).rd Hn2.out).mono ?_
     rintro e W' ⟨uo, bs_u3, rfl, u3, hb⟩
     obtain ⟨A_u3, c_u3, he⟩ := form_rg u3.r
     subst he
     replace u3 := u3.mono hS.size
     dsimp only
     have u1 := u1.call hb
     have u2 := u2.call hb
     refine hK.out _ _ (belI_call hS hb) (fun hS => ?_)
     clear hK
     (try simp only [Act.put]); (try simp only [zPa]); (try simp only [zPb, zPc])
     refine wpAnyH_ready (rs := [6, 7]) (by kernel_rfl) (by simp) ?_
     refine (AllReadyH.cons rfl (fun K hK => ?_) (AllReadyH.cons rfl (fun K hK => ?_) AllReadyH.nil))
     ·rw [if_pos (by kernel_rfl)]
      (try simp only [zGa]); (try simp only [zGb]); (try simp only [zGc])
      go_simp
      with_reducible refine (HS.out _ _ _ u1.r _ _ u2.r _ _ u3.r).mono ?_
      rintro e W' ⟨uou4, bs_u4, rfl, u4, hb⟩
      obtain ⟨A_u4, c_u4, he⟩ := form_im u4.r
      subst he
      replace u4 := u4.mono hS.size
      dsimp only
      have u1 := u1.call hb
      have u2 := u2.call hb
      have u3 := u3.call hb
      refine hK.out _ _ (belI_call hS hb) (fun hS => ?_)
      clear hK
      (try simp only [Act.put]); (try simp only [zPa]); (try simp only [zPb, zPc])
      refine wpAnyH_ready (rs := [7]) (by kernel_rfl) (by simp) ?_
      refine (AllReadyH.cons rfl (fun K hK => ?_) AllReadyH.nil)
      ·rw [if_pos (by kernel_rfl)]
       (try simp only [zGa]); (try simp only [zGb]); (try simp only [zGc])
       refine wp_alloc_bk 55 #[.int .i64 0, .int .i64 0, .slice none 0 0] (fun _ => by kernel_rfl) rfl 8 rfl ?_
       intro bB W' hb GB lB
       have kB := Nat.le_trans hS.size lB
       have nB : bB ∉ bs_u1 := fun hk => by have := repIm.ex u1.r _ hk; omega
       have nB : bB ∉ bs_u2 := fun hk => by have := repSn.ex u2.r _ hk; omega
       have nB : bB ∉ bs_u3 := fun hk => by have := repRg.ex u3.r _ hk; omega
       have nB : bB ∉ bs_u4 := fun hk => by have := repIm.ex u4.r _ hk; omega
       have u1 := u1.call hb
       have u2 := u2.call hb
       have u3 := u3.call hb
       have u4 := u4.call hb
       refine hK.out _ _ (belI_call hS hb) (fun hS => ?_)
       clear hK
       (try simp only [Act.put]); (try simp only [zPa]); (try simp only [zPb, zPc])
       refine wpAnyH_ready (rs := [8]) (by kernel_rfl) (by simp) ?_
       refine (AllReadyH.cons rfl (fun K hK => ?_) AllReadyH.nil)
       ·rw [if_pos (by kernel_rfl)]
        (try simp only [zGa]); (try simp only [zGb]); (try simp only [zGc])
        refine wp_store_bk 55 (.tmp 8) (.tmp 38) rfl bB _ #[.int .i64 0, .int .i64 0, .slice none 0 0] #[.int .i64 q0.w, .int .i64 q0.h, .slice A_u4 q0.d.length c_u4] (by kernel_rfl) rfl (by simp [Value.oneCell']) rfl (by first | with_reducible rfl | (go_simp; done) | rfl) GB ?_
        intro W3 IB hgB
        skip
        skip
        skip
        replace u4 := Rep.Own.chg u4 (Chg.of_grown hgB) (fun k hk e => nB (by rw [← show k = bB by simpa using e]; exact hk))
        skip
        refine hK.out _ _ (hS.grown hgB hS.size (fun k hk => by injection hk with hk; omega)) (fun hS => ?_)
        clear hK
        (try simp only [Act.put]); (try simp only [zPa]); (try simp only [zPb, zPc])
        refine wpAnyH_done (by kernel_rfl) ?_ _
        go_wp2_with fail
        go_meet
        case rel => exact ⟨bB, _, _, _, _, rfl, VarB.made IB u4 kB nB, hS⟩
     ·rw [if_pos (by kernel_rfl)]
      (try simp only [zGa]); (try simp only [zGb]); (try simp only [zGc])
      refine wp_alloc_bk 55 #[.int .i64 0, .int .i64 0, .slice none 0 0] (fun _ => by kernel_rfl) rfl 8 rfl ?_
      intro bB W' hb GB lB
      have kB := Nat.le_trans hS.size lB
      have nB : bB ∉ bs_u1 := fun hk => by have := repIm.ex u1.r _ hk; omega
      have nB : bB ∉ bs_u2 := fun hk => by have := repSn.ex u2.r _ hk; omega
      have nB : bB ∉ bs_u3 := fun hk => by have := repRg.ex u3.r _ hk; omega
      have u1 := u1.call hb
      have u2 := u2.call hb
      have u3 := u3.call hb
      refine hK.out _ _ (belI_call hS hb) (fun hS => ?_)
      clear hK
      (try simp only [Act.put]); (try simp only [zPa]); (try simp only [zPb, zPc])
      refine wpAnyH_ready (rs := [6]) (by kernel_rfl) (by simp) ?_
      refine (AllReadyH.cons rfl (fun K hK => ?_) AllReadyH.nil)
      ·rw [if_pos (by kernel_rfl)]
       (try simp only [zGa]); (try simp only [zGb]); (try simp only [zGc])
       go_simp
       with_reducible refine (HS.out _ _ _ u1.r _ _ u2.r _ _ u3.r).mono ?_
       rintro e W' ⟨uou4, bs_u4, rfl, u4, hb⟩
       obtain ⟨A_u4, c_u4, he⟩ := form_im u4.r
       subst he
       have nB : bB ∉ bs_u4 := fun hk => by have := u4.lo _ hk; have := GB.lt; omega
       replace u4 := u4.mono hS.size
       dsimp only
       have u1 := u1.call hb
       have u2 := u2.call hb
       have u3 := u3.call hb
       have GB := GB.call hb
       refine hK.out _ _ (belI_call hS hb) (fun hS => ?_)
       clear hK
       (try simp only [Act.put]); (try simp only [zPa]); (try simp only [zPb, zPc])
       refine wpAnyH_ready (rs := [8]) (by kernel_rfl) (by simp) ?_
       refine (AllReadyH.cons rfl (fun K hK => ?_) AllReadyH.nil)
       ·rw [if_pos (by kernel_rfl)]
        (try simp only [zGa]); (try simp only [zGb]); (try simp only [zGc])
        refine wp_store_bk 55 (.tmp 8) (.tmp 38) rfl bB _ #[.int .i64 0, .int .i64 0, .slice none 0 0] #[.int .i64 q0.w, .int .i64 q0.h, .slice A_u4 q0.d.length c_u4] (by kernel_rfl) rfl (by simp [Value.oneCell']) rfl (by first | with_reducible rfl | (go_simp; done) | rfl) GB ?_
        intro W3 IB hgB
        skip
        skip
        skip
        skip
        replace u4 := Rep.Own.chg u4 (Chg.of_grown hgB) (fun k hk e => nB (by rw [← show k = bB by simpa using e]; exact hk))
        refine hK.out _ _ (hS.grown hgB hS.size (fun k hk => by injection hk with hk; omega)) (fun hS => ?_)
        clear hK
        (try simp only [Act.put]); (try simp only [zPa]); (try simp only [zPb, zPc])
        refine wpAnyH_done (by kernel_rfl) ?_ _
        go_wp2_with fail
        go_meet
        case rel => exact ⟨bB, _, _, _, _, rfl, VarB.made IB u4 kB nB, hS⟩
    ·rw [if_pos (by kernel_rfl)]
     (try simp only [zGa]); (try simp only [zGb]); (try simp only [zGc])
     refine wp_alloc_bk 55 #[.int .i64 0, .int .i64 0, .slice none 0 0] (fun _ => by kernel_rfl) rfl 8 rfl ?_
     intro bB W' hb GB lB
     have kB := Nat.le_trans hS.size lB
     have nB : bB ∉ bs_u1 := fun hk => by have := repIm.ex u1.r _ hk; omega
     have nB : bB ∉ bs_u2 := fun hk => by have := repSn.ex u2.r _ hk; omega
     have u1 := u1.call hb
     have u2 := u2.call hb
     refine hK.out _ _ (belI_call hS hb) (fun hS => ?_)
     clear hK
     (try simp only [Act.put]); (try simp only [zPa]); (try simp only [zPb, zPc])
     refine wpAnyH_ready (rs := [5]) (by kernel_rfl) (by simp) ?_
     refine (AllReadyH.cons rfl (fun K hK => ?_) AllReadyH.nil)
     ·rw [if_pos (by kernel_rfl)]
      (try simp only [zGa]); (try simp only [zGb]); (try simp only [zGc])
      go_simp
      with_reducible refine (to_rg f2 _ _ (a2.call hS).rd Hn2.out).mono ?_
      rintro e W' ⟨uo, bs_u3, rfl, u3, hb⟩
      obtain ⟨A_u3, c_u3, he⟩ := form_rg u3.r
      subst he
      have nB : bB ∉ bs_u3 := fun hk => by have := u3.lo _ hk; have := GB.lt; omega
      replace u3 := u3.mono hS.size
      dsimp only
      have u1 := u1.call hb
      have u2 := u2.call hb
      have GB := GB.call hb
      refine hK.out _ _ (belI_call hS hb) (fun hS => ?_)
      clear hK
      (try simp only [Act.put]); (try simp only [zPa]); (try simp only [zPb, zPc])
      refine wpAnyH_ready (rs := [6]) (by kernel_rfl) (by simp) ?_
      refine (AllReadyH.cons rfl (fun K hK => ?_) AllReadyH.nil)
      ·rw [if_pos (by kernel_rfl)]
       (try simp only [zGa]); (try simp only [zGb]); (try simp only [zGc])
       go_simp
       with_reducible refine (HS.out _ _ _ u1.r _ _ u2.r _ _ u3.r).mono ?_
       rintro e W' ⟨uou4, bs_u4, rfl, u4, hb⟩
       obtain ⟨A_u4, c_u4, he⟩ := form_im u4.r
       subst he
       have nB : bB ∉ bs_u4 := fun hk => by have := u4.lo _ hk; have := GB.lt; omega
       replace u4 := u4.mono hS.size
       dsimp only
       have u1 := u1.call hb
       have u2 := u2.call hb
       have GB := GB.call hb
       have u3 := u3.call hb
       refine hK.out _ _ (belI_call hS hb) (fun hS => ?_)
       clear hK
       (try simp only [Act.put]); (try simp only [zPa]); (try simp only [zPb, zPc])
       refine wpAnyH_ready (rs := [8]) (by kernel_rfl) (by simp) ?_
       refine (AllReadyH.cons rfl (fun K hK => ?_) AllReadyH.nil)
       ·rw [if_pos (by kernel_rfl)]
        (try simp only [zGa]); (try simp only [zGb]); (try simp only [zGc])
        refine wp_store_bk 55 (.tmp 8) (.tmp 38) rfl bB _ #[.int .i64 0, .int .i64 0, .slice none 0 0] #[.int .i64 q0.w, .int .i64 q0.h, .slice A_u4 q0.d.length c_u4] (by kernel_rfl) rfl (by simp [Value.oneCell']) rfl (by first | with_reducible rfl | (go_simp; done) | rfl) GB ?_
        intro W3 IB hgB
        skip
        skip
        skip
        skip
        replace u4 := Rep.Own.chg u4 (Chg.of_grown hgB) (fun k hk e => nB (by rw [← show k = bB by simpa using e]; exact hk))
        refine hK.out _ _ (hS.grown hgB hS.size (fun k hk => by injection hk with hk; omega)) (fun hS => ?_)
        clear hK
        (try simp only [Act.put]); (try simp only [zPa]); (try simp only [zPb, zPc])
        refine wpAnyH_done (by kernel_rfl) ?_ _
        go_wp2_with fail
        go_meet
        case rel => exact ⟨bB, _, _, _, _, rfl, VarB.made IB u4 kB nB, hS⟩
   ·rw [if_pos (by kernel_rfl)]
    (try simp only [zGa]); (try simp only [zGb]); (try simp only [zGc])
    refine wp_alloc_bk 55 #[.int .i64 0, .int .i64 0, .slice none 0 0] (fun _ => by kernel_rfl) rfl 8 rfl ?_
    intro bB W' hb GB lB
    have kB := Nat.le_trans hS.size lB
    have nB : bB ∉ bs_u1 := fun hk => by have := repIm.ex u1.r _ hk; omega
    have u1 := u1.call hb
    refine hK.out _ _ (belI_call hS hb) (fun hS => ?_)
    clear hK
    (try simp only [Act.put]); (try simp only [zPa]); (try simp only [zPb, zPc])
    refine wpAnyH_ready (rs := [3]) (by kernel_rfl) (by simp) ?_
    refine (AllReadyH.cons rfl (fun K hK => ?_) AllReadyH.nil)
    ·rw [if_pos (by kernel_rfl)]
     (try simp only [zGa]); (try simp only [zGb]); (try simp only [zGc])
     go_simp
     with_reducible refine (to_sn f1 _ _ (a1.call hS).rd Hn1.out).mono ?_
     rintro e W' ⟨uo, bs_u2, rfl, u2, hb⟩
     obtain ⟨A_u2, c_u2, he⟩ := form_sn u2.r
     subst he
     have nB : bB ∉ bs_u2 := fun hk => by have := u2.lo _ hk; have := GB.lt; omega
     replace u2 := u2.mono hS.size
     dsimp only
     have u1 := u1.call hb
     have GB := GB.call hb
     refine hK.out _ _ (belI_call hS hb) (fun hS => ?_)
     clear hK
     (try simp only [Act.put]); (try simp only [zPa]); (try simp only [zPb, zPc])
     refine wpAnyH_ready (rs := [5]) (by kernel_rfl) (by simp) ?_
     refine (AllReadyH.cons rfl (fun K hK => ?_) AllReadyH.nil)
     ·rw [if_pos (by kernel_rfl)]
      (try simp only [zGa]); (try simp only [zGb]); (try simp only [zGc])
      go_simp
      with_reducible refine (to_rg f2 _ _ (a2.call hS).rd Hn2.out).mono ?_
      rintro e W' ⟨uo, bs_u3, rfl, u3, hb⟩
      obtain ⟨A_u3, c_u3, he⟩ := form_rg u3.r
      subst he
      have nB : bB ∉ bs_u3 := fun hk => by have := u3.lo _ hk; have := GB.lt; omega
      replace u3 := u3.mono hS.size
      dsimp only
      have u1 := u1.call hb
      have GB := GB.call hb
      have u2 := u2.call hb
      refine hK.out _ _ (belI_call hS hb) (fun hS => ?_)
      clear hK
      (try simp only [Act.put]); (try simp only [zPa]); (try simp only [zPb, zPc])
      refine wpAnyH_ready (rs := [6]) (by kernel_rfl) (by simp) ?_
      refine (AllReadyH.cons rfl (fun K hK => ?_) AllReadyH.nil)
      ·rw [if_pos (by kernel_rfl)]
       (try simp only [zGa]); (try simp only [zGb]); (try simp only [zGc])
       go_simp
       with_reducible refine (HS.out _ _ _ u1.r _ _ u2.r _ _ u3.r).mono ?_
       rintro e W' ⟨uou4, bs_u4, rfl, u4, hb⟩
       obtain ⟨A_u4, c_u4, he⟩ := form_im u4.r
       subst he
       have nB : bB ∉ bs_u4 := fun hk => by have := u4.lo _ hk; have := GB.lt; omega
       replace u4 := u4.mono hS.size
       dsimp only
       have u1 := u1.call hb
       have GB := GB.call hb
       have u2 := u2.call hb
       have u3 := u3.call hb
       refine hK.out _ _ (belI_call hS hb) (fun hS => ?_)
       clear hK
       (try simp only [Act.put]); (try simp only [zPa]); (try simp only [zPb, zPc])
       refine wpAnyH_ready (rs := [8]) (by kernel_rfl) (by simp) ?_
       refine (AllReadyH.cons rfl (fun K hK => ?_) AllReadyH.nil)
       ·rw [if_pos (by kernel_rfl)]
        (try simp only [zGa]); (try simp only [zGb]); (try simp only [zGc])
        refine wp_store_bk 55 (.tmp 8) (.tmp 38) rfl bB _ #[.int .i64 0, .int .i64 0, .slice none 0 0] #[.int .i64 q0.w, .int .i64 q0.h, .slice A_u4 q0.d.length c_u4] (by kernel_rfl) rfl (by simp [Value.oneCell']) rfl (by first | with_reducible rfl | (go_simp; done) | rfl) GB ?_
        intro W3 IB hgB
        skip
        skip
        skip
        skip
        replace u4 := Rep.Own.chg u4 (Chg.of_grown hgB) (fun k hk e => nB (by rw [← show k = bB by simpa using e]; exact hk))
        refine hK.out _ _ (hS.grown hgB hS.size (fun k hk => by injection hk with hk; omega)) (fun hS => ?_)
        clear hK
        (try simp only [Act.put]); (try simp only [zPa]); (try simp only [zPb, zPc])
        refine wpAnyH_done (by kernel_rfl) ?_ _
        go_wp2_with fail
        go_meet
        case rel => exact ⟨bB, _, _, _, _, rfl, VarB.made IB u4 kB nB, hS⟩
  ·rw [if_pos (by kernel_rfl)]
   (try simp only [zGa]); (try simp only [zGb]); (try simp only [zGc])
   refine wp_alloc_bk 55 #[.int .i64 0, .int .i64 0, .slice none 0 0] (fun _ => by kernel_rfl) rfl 8 rfl ?_
   intro bB W' hb GB lB
   have kB := Nat.le_trans hS.size lB
   refine hK.out _ _ (belI_call hS hb) (fun hS => ?_)
   clear hK
   (try simp only [Act.put]); (try simp only [zPa]); (try simp only [zPb, zPc])
   refine wpAnyH_ready (rs := [1]) (by kernel_rfl) (by simp) ?_
   refine (AllReadyH.cons rfl (fun K hK => ?_) AllReadyH.nil)
   ·rw [if_pos (by kernel_rfl)]
    (try simp only [zGa]); (try simp only [zGb]); (try simp only [zGc])
    go_simp
    with_reducible refine (to_im f0 _ _ (a0.call hS).rd Hn0.out).mono ?_
    rintro e W' ⟨uo, bs_u1, rfl, u1, hb⟩
    obtain ⟨A_u1, c_u1, he⟩ := form_im u1.r
    subst he
    have nB : bB ∉ bs_u1 := fun hk => by have := u1.lo _ hk; have := GB.lt; omega
    replace u1 := u1.mono hS.size
    dsimp only
    have GB := GB.call hb
    refine hK.out _ _ (belI_call hS hb) (fun hS => ?_)
    clear hK
    (try simp only [Act.put]); (try simp only [zPa]); (try simp only [zPb, zPc])
    refine wpAnyH_ready (rs := [3]) (by kernel_rfl) (by simp) ?_
    refine (AllReadyH.cons rfl (fun K hK => ?_) AllReadyH.nil)
    ·rw [if_pos (by kernel_rfl)]
     (try simp only [zGa]); (try simp only [zGb]); (try simp only [zGc])
     go_simp
     with_reducible refine (to_sn f1 _ _ (a1.call hS).rd Hn1.out).mono ?_
     rintro e W' ⟨uo, bs_u2, rfl, u2, hb⟩
     obtain ⟨A_u2, c_u2, he⟩ := form_sn u2.r
     subst he
     have nB : bB ∉ bs_u2 := fun hk => by have := u2.lo _ hk; have := GB.lt; omega
     replace u2 := u2.mono hS.size
     dsimp only
     have GB := GB.call hb
     have u1 := u1.call hb
     refine hK.out _ _ (belI_call hS hb) (fun hS => ?_)
     clear hK
     (try simp only [Act.put]); (try simp only [zPa]); (try simp only [zPb, zPc])
     refine wpAnyH_ready (rs := [5]) (by kernel_rfl) (by simp) ?_
     refine (AllReadyH.cons rfl (fun K hK => ?_) AllReadyH.nil)
     ·rw [if_pos (by kernel_rfl)]
      (try simp only [zGa]); (try simp only [zGb]); (try simp only [zGc])
      go_simp
      with_reducible refine (to_rg f2 _ _ (a2.call hS).rd Hn2.out).mono ?_
      rintro e W' ⟨uo, bs_u3, rfl, u3, hb⟩
      obtain ⟨A_u3, c_u3, he⟩ := form_rg u3.r
      subst he
      have nB : bB ∉ bs_u3 := fun hk => by have := u3.lo _ hk; have := GB.lt; omega
      replace u3 := u3.mono hS.size
      dsimp only
      have GB := GB.call hb
      have u1 := u1.call hb
      have u2 := u2.call hb
      refine hK.out _ _ (belI_call hS hb) (fun hS => ?_)
      clear hK
      (try simp only [Act.put]); (try simp only [zPa]); (try simp only [zPb, zPc])
      refine wpAnyH_ready (rs := [6]) (by kernel_rfl) (by simp) ?_
      refine (AllReadyH.cons rfl (fun K hK => ?_) AllReadyH.nil)
      ·rw [if_pos (by kernel_rfl)]
       (try simp only [zGa]); (try simp only [zGb]); (try simp only [zGc])
       go_simp
       with_reducible refine (HS.out _ _ _ u1.r _ _ u2.r _ _ u3.r).mono ?_
       rintro e W' ⟨uou4, bs_u4, rfl, u4, hb⟩
       obtain ⟨A_u4, c_u4, he⟩ := form_im u4.r
       subst he
       have nB : bB ∉ bs_u4 := fun hk => by have := u4.lo _ hk; have := GB.lt; omega
       replace u4 := u4.mono hS.size
       dsimp only
       have GB := GB.call hb
       have u1 := u1.call hb
       have u2 := u2.call hb
       have u3 := u3.call hb
       refine hK.out _ _ (belI_call hS hb) (fun hS => ?_)
       clear hK
       (try simp only [Act.put]); (try simp only [zPa]); (try simp only [zPb, zPc])
       refine wpAnyH_ready (rs := [8]) (by kernel_rfl) (by simp) ?_
       refine (AllReadyH.cons rfl (fun K hK => ?_) AllReadyH.nil)
       ·rw [if_pos (by kernel_rfl)]
        (try simp only [zGa]); (try simp only [zGb]); (try simp only [zGc])
        refine wp_store_bk 55 (.tmp 8) (.tmp 38) rfl bB _ #[.int .i64 0, .int .i64 0, .slice none 0 0] #[.int .i64 q0.w, .int .i64 q0.h, .slice A_u4 q0.d.length c_u4] (by kernel_rfl) rfl (by simp [Value.oneCell']) rfl (by first | with_reducible rfl | (go_simp; done) | rfl) GB ?_
        intro W3 IB hgB
        skip
        skip
        skip
        skip
        replace u4 := Rep.Own.chg u4 (Chg.of_grown hgB) (fun k hk e => nB (by rw [← show k = bB by simpa using e]; exact hk))
        refine hK.out _ _ (hS.grown hgB hS.size (fun k hk => by injection hk with hk; omega)) (fun hS => ?_)
        clear hK
        (try simp only [Act.put]); (try simp only [zPa]); (try simp only [zPb, zPc])
        refine wpAnyH_done (by kernel_rfl) ?_ _
        go_wp2_with fail
        go_meet
        case rel => exact ⟨bB, _, _, _, _, rfl, VarB.made IB u4 kB nB, hS⟩
 case rest =>
  obtain ⟨b_V5, hi_V5, A_V5, c_V5, bs_V5, rfl, V5, hb⟩ := hcut
  obtain ⟨w10, hWy⟩ : ∃ w10, w10 = wc := ⟨_, rfl⟩
  subst hWy
  have hlo_V5 := Lib.hid Kw.size
  have hl_a0_V5 := Lib.hid a0.lt
  have hl_a1_V5 := Lib.hid a1.lt
  have hl_a2_V5 := Lib.hid a2.lt
  replace a0 := a0.call hb
  replace a1 := a1.call hb
  replace a2 := a2.call hb
  replace Kw := belI_call Kw hb
  clear hb
  have a0_0 := a0.at_.cell 0 rfl
  have a0_1 := a0.at_.cell 1 rfl
  have a0_2 := a0.at_.cell 2 rfl
  go_wp2_with fail
  clear a0_0 a0_1 a0_2
  refine (to_im f0 _ _ a0.rd Hn0.out).mono ?_
  rintro e w11 ⟨uo, bs_u6, rfl, u6, hb⟩
  obtain ⟨A_u6, c_u6, he⟩ := form_im u6.r
  subst he
  have hs_V5_V7 := Lib.hid V5.hs
  have hlo_V7 := Lib.hid Kw.size
  have hl_a0_V7 := Lib.hid a0.lt
  have hl_a1_V7 := Lib.hid a1.lt
  have hl_a2_V7 := Lib.hid a2.lt
  have V7 := VarB.born hb u6 55
  replace hb := belI_call hb (belI_box w11 (.cells #[.int .i64 f0.w, .int .i64 f0.h, .slice A_u6 f0.d.length c_u6] 55))
  replace a0 := a0.call hb
  replace a1 := a1.call hb
  replace a2 := a2.call hb
  replace V5 := V5.call hb
  replace Kw := belI_call Kw hb
  clear hb u6
  have a1_0 := a1.at_.cell 0 rfl
  have a1_1 := a1.at_.cell 1 rfl
  have a1_2 := a1.at_.cell 2 rfl
  have a1_3 := a1.at_.cell 3 rfl
  go_wp2_with fail
  clear a1_0 a1_1 a1_2 a1_3
  obtain ⟨w12, hWx⟩ : ∃ w12, w12 = (w11.alloc (.cells #[.int .i64 f0.w, .int .i64 f0.h, .slice A_u6 f0.d.length c_u6] 55)) := ⟨_, rfl⟩
  rw [← hWx]
  rw [← hWx] at Kw a0 a1 a2 V5 V7
  clear hWx
  refine (to_sn f1 _ _ a1.rd Hn1.out).mono ?_
  rintro e w13 ⟨uo, bs_u8, rfl, u8, hb⟩
  obtain ⟨A_u8, c_u8, he⟩ := form_sn u8.r
  subst he
  have hs_V5_V9 := Lib.hid V5.hs
  have hs_V7_V9 := Lib.hid V7.hs
  have hlo_V9 := Lib.hid Kw.size
  have hl_a0_V9 := Lib.hid a0.lt
  have hl_a1_V9 := Lib.hid a1.lt
  have hl_a2_V9 := Lib.hid a2.lt
  have V9 := VarB.born hb u8 34
  replace hb := belI_call hb (belI_box w13 (.cells #[.int .i64 f1.w, .int .i64 f1.h, .int .i64 f1.back, .slice A_u8 f1.fs.length c_u8] 34))
  replace a0 := a0.call hb
  replace a1 := a1.call hb
  replace a2 := a2.call hb
  replace V5 := V5.call hb
  replace V7 := V7.call hb
  replace Kw := belI_call Kw hb
  clear hb u8
  have a2_0 := a2.at_.cell 0 rfl
  go_wp2_with fail
  clear a2_0
  obtain ⟨w14, hWx⟩ : ∃ w14, w14 = (w13.alloc (.cells #[.int .i64 f1.w, .int .i64 f1.h, .int .i64 f1.back, .slice A_u8 f1.fs.length c_u8] 34)) := ⟨_, rfl⟩
  rw [← hWx]
  rw [← hWx] at Kw a0 a1 a2 V5 V7 V9
  clear hWx
  refine (to_rg f2 _ _ a2.rd Hn2.out).mono ?_
  rintro e w15 ⟨uo, bs_u10, rfl, u10, hb⟩
  obtain ⟨A_u10, c_u10, he⟩ := form_rg u10.r
  subst he
  have hs_V5_V11 := Lib.hid V5.hs
  have hs_V7_V11 := Lib.hid V7.hs
  have hs_V9_V11 := Lib.hid V9.hs
  have hlo_V11 := Lib.hid Kw.size
  have hl_a0_V11 := Lib.hid a0.lt
  have hl_a1_V11 := Lib.hid a1.lt
  have hl_a2_V11 := Lib.hid a2.lt
  have V11 := VarB.born hb u10 30
  replace hb := belI_call hb (belI_box w15 (.cells #[.slice A_u10 f2.length c_u10] 30))
  replace a0 := a0.call hb
  replace a1 := a1.call hb
  replace a2 := a2.call hb
  replace V5 := V5.call hb
  replace V7 := V7.call hb
  replace V9 := V9.call hb
  replace Kw := belI_call Kw hb
  clear hb u10
  have V7_0 := V7.at_.cell 0 rfl
  have V7_1 := V7.at_.cell 1 rfl
  have V7_2 := V7.at_.cell 2 rfl
  have V9_0 := V9.at_.cell 0 rfl
  have V9_1 := V9.at_.cell 1 rfl
  have V9_2 := V9.at_.cell 2 rfl
  have V9_3 := V9.at_.cell 3 rfl
  have V11_0 := V11.at_.cell 0 rfl
  go_wp2_with fail
  clear V7_0 V7_1 V7_2 V9_0 V9_1 V9_2 V9_3 V11_0
  obtain ⟨w16, hWx⟩ : ∃ w16, w16 = (w15.alloc (.cells #[.slice A_u10 f2.length c_u10] 30)) := ⟨_, rfl⟩
  rw [← hWx]
  rw [← hWx] at Kw a0 a1 a2 V5 V7 V9 V11
  clear hWx
  refine (HI.out _ _ _ V7.r _ _ V9.r _ _ V11.r).mono ?_
  rintro e w17 ⟨uou12, bs_u12, rfl, u12, hb⟩
  obtain ⟨A_u12, c_u12, he⟩ := form_im u12.r
  subst he
  have hs_V5_V13 := Lib.hid V5.hs
  have hs_V7_V13 := Lib.hid V7.hs
  have hs_V9_V13 := Lib.hid V9.hs
  have hs_V11_V13 := Lib.hid V11.hs
  have hlo_V13 := Lib.hid Kw.size
  have hl_a0_V13 := Lib.hid a0.lt
  have hl_a1_V13 := Lib.hid a1.lt
  have hl_a2_V13 := Lib.hid a2.lt
  have V13 := VarB.born hb u12 55
  replace hb := belI_call hb (belI_box w17 (.cells #[.int .i64 q0.w, .int .i64 q0.h, .slice A_u12 q0.d.length c_u12] 55))
  replace a0 := a0.call hb
  replace a1 := a1.call hb
  replace a2 := a2.call hb
  replace V5 := V5.call hb
  replace V7 := V7.call hb
  replace V9 := V9.call hb
  replace V11 := V11.call hb
  replace Kw := belI_call Kw hb
  clear hb u12
  have V13_0 := V13.at_.cell 0 rfl
  have V13_1 := V13.at_.cell 1 rfl
  have V13_2 := V13.at_.cell 2 rfl
  have V5_0 := V5.at_.cell 0 rfl
  have V5_1 := V5.at_.cell 1 rfl
  have V5_2 := V5.at_.cell 2 rfl
  go_wp2_with fail
  clear V13_0 V13_1 V13_2 V5_0 V5_1 V5_2
  obtain ⟨w18, hWx⟩ : ∃ w18, w18 = (w17.alloc (.cells #[.int .i64 q0.w, .int .i64 q0.h, .slice A_u12 q0.d.length c_u12] 55)) := ⟨_, rfl⟩
  rw [← hWx]
  rw [← hWx] at Kw a0 a1 a2 V5 V7 V9 V11 V13
  clear hWx
  refine (eq_im q0 _ _ _ _ _ V13.r V5.r).mono ?_
  rintro e w19 ⟨rfl, hb⟩
  replace a0 := a0.call hb
  replace a1 := a1.call hb
  replace a2 := a2.call hb
  replace V5 := V5.call hb
  replace V7 := V7.call hb
  replace V9 := V9.call hb
  replace V11 := V11.call hb
  replace V13 := V13.call hb
  replace Kw := belI_call Kw hb
  clear hb
  go_upto_region 18 with fail
  refine wp_region_held_drew (S := fun W => Below w19.heap.size w19 W) (by kernel_rfl) (Below.refl _ _).drew (fun hS => ?_)
  refine tcH (i := 0) (v := .agg #[.int .i64 f0.w, .int .i64 f0.h, .slice A_u6 f0.d.length c_u6]) rfl (by intro w' hSw; (try dsimp only at hSw); (have V7_0 := (V7.call hSw).at_.cell 0 rfl); (have V7_1 := (V7.call hSw).at_.cell 1 rfl); (have V7_2 := (V7.call hSw).at_.cell 2 rfl); (have a0_0 := (a0.call hSw).at_.cell 0 rfl); (have a0_1 := (a0.call hSw).at_.cell 1 rfl); (have a0_2 := (a0.call hSw).at_.cell 2 rfl); go_simp) ?_
  refine tcH (i := 1) (v := .agg #[.int .i64 f0.w, .int .i64 f0.h, .slice A0 f0.d.length c0]) rfl (by intro w' hSw; (try dsimp only at hSw); (have V7_0 := (V7.call hSw).at_.cell 0 rfl); (have V7_1 := (V7.call hSw).at_.cell 1 rfl); (have V7_2 := (V7.call hSw).at_.cell 2 rfl); (have a0_0 := (a0.call hSw).at_.cell 0 rfl); (have a0_1 := (a0.call hSw).at_.cell 1 rfl); (have a0_2 := (a0.call hSw).at_.cell 2 rfl); go_simp) ?_
  (try simp only [Act.put]); (try simp only [zPa]); (try simp only [zPb, zPc])
  refine wpAnyH_ready (rs := [2]) (by kernel_rfl) (by simp) ?_
  refine (AllReadyH.cons rfl (fun K hK => ?_) AllReadyH.nil)
  ·rw [if_pos (by kernel_rfl)]
   (try simp only [zGa]); (try simp only [zGb]); (try simp only [zGc])
   go_simp
   with_reducible refine (to_im f0 _ _ (a0.call hS).rd Hn0.out).mono ?_
   rintro e W' ⟨uo, bs_u14, rfl, u14, hb⟩
   obtain ⟨A_u14, c_u14, he⟩ := form_im u14.r
   subst he
   replace u14 := u14.mono hS.size
   dsimp only
   refine hK.out _ _ (belI_call hS hb) (fun hS => ?_)
   clear hK
   (try simp only [Act.put]); (try simp only [zPa]); (try simp only [zPb, zPc])
   refine wpAnyH_ready (rs := [3]) (by kernel_rfl) (by simp) ?_
   refine (AllReadyH.cons rfl (fun K hK => ?_) AllReadyH.nil)
   ·rw [if_pos (by kernel_rfl)]
    (try simp only [zGa]); (try simp only [zGb]); (try simp only [zGc])
    go_simp
    with_reducible refine (eq_im f0 _ _ _ _ _ (V7.call hS).r u14.r).mono ?_
    rintro e W' ⟨rfl, hb⟩
    dsimp only
    have u14 := u14.call hb
    refine hK.out _ _ (belI_call hS hb) (fun hS => ?_)
    clear hK
    (try simp only [Act.put]); (try simp only [zPa]); (try simp only [zPb, zPc])
    refine tcH (i := 4) (v := .bool false) rfl (by intro w' hSw; (try dsimp only at hSw); (have V7_0 := (V7.call hSw).at_.cell 0 rfl); (have V7_1 := (V7.call hSw).at_.cell 1 rfl); (have V7_2 := (V7.call hSw).at_.cell 2 rfl); (have a0_0 := (a0.call hSw).at_.cell 0 rfl); (have a0_1 := (a0.call hSw).at_.cell 1 rfl); (have a0_2 := (a0.call hSw).at_.cell 2 rfl); go_simp) ?_
    refine wpAnyH_done (by kernel_rfl) ?_ _
    have hb := hS
    replace a0 := a0.call hb
    replace a1 := a1.call hb
    replace a2 := a2.call hb
    replace V5 := V5.call hb
    replace V7 := V7.call hb
    replace V9 := V9.call hb
    replace V11 := V11.call hb
    replace V13 := V13.call hb
    replace Kw := belI_call Kw hb
    clear hb hS
    clear u14
    obtain ⟨w20, hWy⟩ : ∃ w20, w20 = W' := ⟨_, rfl⟩
    subst hWy
    go_upto_region 20 with fail
    refine wp_region_held_drew (S := fun W => Below w20.heap.size w20 W) (by kernel_rfl) (Below.refl _ _).drew (fun hS => ?_)
    refine tcH (i := 0) (v := .agg #[.int .i64 f1.w, .int .i64 f1.h, .int .i64 f1.back, .slice A_u8 f1.fs.length c_u8]) rfl (by intro w' hSw; (try dsimp only at hSw); (have V9_0 := (V9.call hSw).at_.cell 0 rfl); (have V9_1 := (V9.call hSw).at_.cell 1 rfl); (have V9_2 := (V9.call hSw).at_.cell 2 rfl); (have V9_3 := (V9.call hSw).at_.cell 3 rfl); (have a1_0 := (a1.call hSw).at_.cell 0 rfl); (have a1_1 := (a1.call hSw).at_.cell 1 rfl); (have a1_2 := (a1.call hSw).at_.cell 2 rfl); (have a1_3 := (a1.call hSw).at_.cell 3 rfl); go_simp) ?_
    refine tcH (i := 1) (v := .agg #[.int .i64 f1.w, .int .i64 f1.h, .int .i64 f1.back, .slice A1 f1.fs.length c1]) rfl (by intro w' hSw; (try dsimp only at hSw); (have V9_0 := (V9.call hSw).at_.cell 0 rfl); (have V9_1 := (V9.call hSw).at_.cell 1 rfl); (have V9_2 := (V9.call hSw).at_.cell 2 rfl); (have V9_3 := (V9.call hSw).at_.cell 3 rfl); (have a1_0 := (a1.call hSw).at_.cell 0 rfl); (have a1_1 := (a1.call hSw).at_.cell 1 rfl); (have a1_2 := (a1.call hSw).at_.cell 2 rfl); (have a1_3 := (a1.call hSw).at_.cell 3 rfl); go_simp) ?_
    (try simp only [Act.put]); (try simp only [zPa]); (try simp only [zPb, zPc])
    refine wpAnyH_ready (rs := [2]) (by kernel_rfl) (by simp) ?_
    refine (AllReadyH.cons rfl (fun K hK => ?_) AllReadyH.nil)
    ·rw [if_pos (by kernel_rfl)]
     (try simp only [zGa]); (try simp only [zGb]); (try simp only [zGc])
     go_simp
     with_reducible refine (to_sn f1 _ _ (a1.call hS).rd Hn1.out).mono ?_
     rintro e W' ⟨uo, bs_u15, rfl, u15, hb⟩
     obtain ⟨A_u15, c_u15, he⟩ := form_sn u15.r
     subst he
     replace u15 := u15.mono hS.size
     dsimp only
     refine hK.out _ _ (belI_call hS hb) (fun hS => ?_)
     clear hK
     (try simp only [Act.put]); (try simp only [zPa]); (try simp only [zPb, zPc])
     refine wpAnyH_ready (rs := [3]) (by kernel_rfl) (by simp) ?_
     refine (AllReadyH.cons rfl (fun K hK => ?_) AllReadyH.nil)
     ·rw [if_pos (by kernel_rfl)]
      (try simp only [zGa]); (try simp only [zGb]); (try simp only [zGc])
      go_simp
      with_reducible refine (eq_sn f1 _ _ _ _ _ (V9.call hS).r u15.r).mono ?_
      rintro e W' ⟨rfl, hb⟩
      dsimp only
      have u15 := u15.call hb
      refine hK.out _ _ (belI_call hS hb) (fun hS => ?_)
      clear hK
      (try simp only [Act.put]); (try simp only [zPa]); (try simp only [zPb, zPc])
      refine tcH (i := 4) (v := .bool false) rfl (by intro w' hSw; (try dsimp only at hSw); (have V9_0 := (V9.call hSw).at_.cell 0 rfl); (have V9_1 := (V9.call hSw).at_.cell 1 rfl); (have V9_2 := (V9.call hSw).at_.cell 2 rfl); (have V9_3 := (V9.call hSw).at_.cell 3 rfl); (have a1_0 := (a1.call hSw).at_.cell 0 rfl); (have a1_1 := (a1.call hSw).at_.cell 1 rfl); (have a1_2 := (a1.call hSw).at_.cell 2 rfl); (have a1_3 := (a1.call hSw).at_.cell 3 rfl); go_simp) ?_
      refine wpAnyH_done (by kernel_rfl) ?_ _
      have hb := hS
      replace a0 := a0.call hb
      replace a1 := a1.call hb
      replace a2 := a2.call hb
      replace V5 := V5.call hb
      replace V7 := V7.call hb
      replace V9 := V9.call hb
      replace V11 := V11.call hb
      replace V13 := V13.call hb
      replace Kw := belI_call Kw hb
      clear hb hS
      clear u15
      obtain ⟨w21, hWy⟩ : ∃ w21, w21 = W' := ⟨_, rfl⟩
      subst hWy
      go_upto_region 22 with fail
      refine wp_region_held_drew (S := fun W => Below w21.heap.size w21 W) (by kernel_rfl) (Below.refl _ _).drew (fun hS => ?_)
      refine tcH (i := 0) (v := .agg #[.slice A_u10 f2.length c_u10]) rfl (by intro w' hSw; (try dsimp only at hSw); (have V11_0 := (V11.call hSw).at_.cell 0 rfl); (have a2_0 := (a2.call hSw).at_.cell 0 rfl); go_simp) ?_
      refine tcH (i := 1) (v := .agg #[.slice A2 f2.length c2]) rfl (by intro w' hSw; (try dsimp only at hSw); (have V11_0 := (V11.call hSw).at_.cell 0 rfl); (have a2_0 := (a2.call hSw).at_.cell 0 rfl); go_simp) ?_
      (try simp only [Act.put]); (try simp only [zPa]); (try simp only [zPb, zPc])
      refine wpAnyH_ready (rs := [2]) (by kernel_rfl) (by simp) ?_
      refine (AllReadyH.cons rfl (fun K hK => ?_) AllReadyH.nil)
      ·rw [if_pos (by kernel_rfl)]
       (try simp only [zGa]); (try simp only [zGb]); (try simp only [zGc])
       go_simp
       with_reducible refine (to_rg f2 _ _ (a2.call hS).rd Hn2.out).mono ?_
       rintro e W' ⟨uo, bs_u16, rfl, u16, hb⟩
       obtain ⟨A_u16, c_u16, he⟩ := form_rg u16.r
       subst he
       replace u16 := u16.mono hS.size
       dsimp only
       refine hK.out _ _ (belI_call hS hb) (fun hS => ?_)
       clear hK
       (try simp only [Act.put]); (try simp only [zPa]); (try simp only [zPb, zPc])
       refine wpAnyH_ready (rs := [3]) (by kernel_rfl) (by simp) ?_
       refine (AllReadyH.cons rfl (fun K hK => ?_) AllReadyH.nil)
       ·rw [if_pos (by kernel_rfl)]
        (try simp only [zGa]); (try simp only [zGb]); (try simp only [zGc])
        go_simp
        with_reducible refine (eq_rg f2 _ _ _ _ _ (V11.call hS).r u16.r).mono ?_
        rintro e W' ⟨rfl, hb⟩
        dsimp only
        have u16 := u16.call hb
        refine hK.out _ _ (belI_call hS hb) (fun hS => ?_)
        clear hK
        (try simp only [Act.put]); (try simp only [zPa]); (try simp only [zPb, zPc])
        refine tcH (i := 4) (v := .bool false) rfl (by intro w' hSw; (try dsimp only at hSw); (have V11_0 := (V11.call hSw).at_.cell 0 rfl); (have a2_0 := (a2.call hSw).at_.cell 0 rfl); go_simp) ?_
        refine wpAnyH_done (by kernel_rfl) ?_ _
        have hb := hS
        replace a0 := a0.call hb
        replace a1 := a1.call hb
        replace a2 := a2.call hb
        replace V5 := V5.call hb
        replace V7 := V7.call hb
        replace V9 := V9.call hb
        replace V11 := V11.call hb
        replace V13 := V13.call hb
        replace Kw := belI_call Kw hb
        clear hb hS
        clear u16
        obtain ⟨w22, hWy⟩ : ∃ w22, w22 = W' := ⟨_, rfl⟩
        subst hWy
        have V7_0 := V7.at_.cell 0 rfl
        have V7_1 := V7.at_.cell 1 rfl
        have V7_2 := V7.at_.cell 2 rfl
        go_wp2_with fail
        clear V7_0 V7_1 V7_2
        refine (mark_im _ f0 _ _ (1) _ (by omega) V7.own).mono ?_
        rintro e w23 ⟨rfl, hr, hc⟩
        replace Kw := V7.below Kw (by have := hlo_V7.out; omega) hc
        replace a0 := a0.chg O0.out Kw hc (fun hk => by have := V7.rng _ hk; have := hl_a0_V7.out; omega)
        replace a1 := a1.chg O1.out Kw hc (fun hk => by have := V7.rng _ hk; have := hl_a1_V7.out; omega)
        replace a2 := a2.chg O2.out Kw hc (fun hk => by have := V7.rng _ hk; have := hl_a2_V7.out; omega)
        replace V5 := V5.chg hc (fun k hk => by have := V7.rng k hk; have := hs_V5_V7.out; omega)
        replace V9 := V9.chg hc (fun k hk => by have := V7.rng k hk; have := hs_V7_V9.out; omega)
        replace V11 := V11.chg hc (fun k hk => by have := V7.rng k hk; have := hs_V7_V11.out; omega)
        replace V13 := V13.chg hc (fun k hk => by have := V7.rng k hk; have := hs_V7_V13.out; omega)
        replace V7 := V7.mark hr hc
        clear hr hc
        have hk_w23 : ¬ ((1 + f0.d.length : Nat) : Int) < 0 := by omega
        have V9_0 := V9.at_.cell 0 rfl
        have V9_1 := V9.at_.cell 1 rfl
        have V9_2 := V9.at_.cell 2 rfl
        have V9_3 := V9.at_.cell 3 rfl
        go_wp2_with fail
        clear V9_0 V9_1 V9_2 V9_3
        refine (mark_sn _ f1 _ _ (1 + f0.d.length) _ (by omega) V9.own).mono ?_
        rintro e w24 ⟨rfl, hr, hc⟩
        replace Kw := V9.below Kw (by have := hlo_V9.out; omega) hc
        replace a0 := a0.chg O0.out Kw hc (fun hk => by have := V9.rng _ hk; have := hl_a0_V9.out; omega)
        replace a1 := a1.chg O1.out Kw hc (fun hk => by have := V9.rng _ hk; have := hl_a1_V9.out; omega)
        replace a2 := a2.chg O2.out Kw hc (fun hk => by have := V9.rng _ hk; have := hl_a2_V9.out; omega)
        replace V5 := V5.chg hc (fun k hk => by have := V9.rng k hk; have := hs_V5_V9.out; omega)
        replace V7 := V7.chg hc (fun k hk => by have := V9.rng k hk; have := hs_V7_V9.out; omega)
        replace V11 := V11.chg hc (fun k hk => by have := V9.rng k hk; have := hs_V9_V11.out; omega)
        replace V13 := V13.chg hc (fun k hk => by have := V9.rng k hk; have := hs_V9_V13.out; omega)
        replace V9 := V9.mark hr hc
        clear hr hc
        have hk_w24 : ¬ ((1 + f0.d.length + (cntFs f1.fs) : Nat) : Int) < 0 := by omega
        have V11_0 := V11.at_.cell 0 rfl
        go_wp2_with fail
        clear V11_0
        refine (mark_rg _ f2 _ _ (1 + f0.d.length + (cntFs f1.fs)) _ (by omega) V11.own).mono ?_
        rintro e w25 ⟨rfl, hr, hc⟩
        replace Kw := V11.below Kw (by have := hlo_V11.out; omega) hc
        replace a0 := a0.chg O0.out Kw hc (fun hk => by have := V11.rng _ hk; have := hl_a0_V11.out; omega)
        replace a1 := a1.chg O1.out Kw hc (fun hk => by have := V11.rng _ hk; have := hl_a1_V11.out; omega)
        replace a2 := a2.chg O2.out Kw hc (fun hk => by have := V11.rng _ hk; have := hl_a2_V11.out; omega)
        replace V5 := V5.chg hc (fun k hk => by have := V11.rng k hk; have := hs_V5_V11.out; omega)
        replace V7 := V7.chg hc (fun k hk => by have := V11.rng k hk; have := hs_V7_V11.out; omega)
        replace V9 := V9.chg hc (fun k hk => by have := V11.rng k hk; have := hs_V9_V11.out; omega)
        replace V13 := V13.chg hc (fun k hk => by have := V11.rng k hk; have := hs_V11_V13.out; omega)
        replace V11 := V11.mark hr hc
        clear hr hc
        have hk_w25 : ¬ ((1 + f0.d.length + (cntFs f1.fs) + (4 * f2.length) : Nat) : Int) < 0 := by omega
        have V13_0 := V13.at_.cell 0 rfl
        have V13_1 := V13.at_.cell 1 rfl
        have V13_2 := V13.at_.cell 2 rfl
        have V5_0 := V5.at_.cell 0 rfl
        have V5_1 := V5.at_.cell 1 rfl
        have V5_2 := V5.at_.cell 2 rfl
        go_wp2_with fail
        clear V13_0 V13_1 V13_2 V5_0 V5_1 V5_2
        refine (eq_im q0 _ _ _ _ _ V13.r V5.r).mono ?_
        rintro e w26 ⟨rfl, hb⟩
        replace a0 := a0.call hb
        replace a1 := a1.call hb
        replace a2 := a2.call hb
        replace V5 := V5.call hb
        replace V7 := V7.call hb
        replace V9 := V9.call hb
        replace V11 := V11.call hb
        replace V13 := V13.call hb
        replace Kw := belI_call Kw hb
        clear hb
        have V13_0 := V13.at_.cell 0 rfl
        have V13_1 := V13.at_.cell 1 rfl
        have V13_2 := V13.at_.cell 2 rfl
        go_wp2_with fail
        clear V13_0 V13_1 V13_2
        refine (mark_im _ q0 _ _ (1) _ (by omega) V13.own).mono ?_
        rintro e w27 ⟨rfl, hr, hc⟩
        replace Kw := V13.below Kw (by have := hlo_V13.out; omega) hc
        replace a0 := a0.chg O0.out Kw hc (fun hk => by have := V13.rng _ hk; have := hl_a0_V13.out; omega)
        replace a1 := a1.chg O1.out Kw hc (fun hk => by have := V13.rng _ hk; have := hl_a1_V13.out; omega)
        replace a2 := a2.chg O2.out Kw hc (fun hk => by have := V13.rng _ hk; have := hl_a2_V13.out; omega)
        replace V5 := V5.chg hc (fun k hk => by have := V13.rng k hk; have := hs_V5_V13.out; omega)
        replace V7 := V7.chg hc (fun k hk => by have := V13.rng k hk; have := hs_V7_V13.out; omega)
        replace V9 := V9.chg hc (fun k hk => by have := V13.rng k hk; have := hs_V9_V13.out; omega)
        replace V11 := V11.chg hc (fun k hk => by have := V13.rng k hk; have := hs_V11_V13.out; omega)
        replace V13 := V13.mark hr hc
        clear hr hc
        have hk_w27 : ¬ ((1 + q0.d.length : Nat) : Int) < 0 := by omega
        have V13_0 := V13.at_.cell 0 rfl
        have V13_1 := V13.at_.cell 1 rfl
        have V13_2 := V13.at_.cell 2 rfl
        go_wp2_with fail
        clear V13_0 V13_1 V13_2
        refine (held_im q0 _ _ 1 _ (by omega) V13.r).mono ?_
        rintro e w28 ⟨rfl, hb⟩
        replace a0 := a0.call hb
        replace a1 := a1.call hb
        replace a2 := a2.call hb
        replace V5 := V5.call hb
        replace V7 := V7.call hb
        replace V9 := V9.call hb
        replace V11 := V11.call hb
        replace V13 := V13.call hb
        replace Kw := belI_call Kw hb
        clear hb
        go_upto_region 38 with fail
        go_cut [16] (fun s16 wx => ∃ (b hi : Nat) (A : Option Addr) (c : Nat) (bs : List Nat), s16 = .pointer (some ⟨b, 0, none⟩) ∧ VarB repIm 55 w28.heap.size hi b q0 [.int .i64 q0.w, .int .i64 q0.h, .slice A q0.d.length c] bs wx ∧ Below w28.heap.size w28 wx)
        case first =>
         refine wp_region_held_drew (S := fun W => Below w28.heap.size w28 W) (by kernel_rfl) (Below.refl _ _).drew (fun hS => ?_)
         refine tcH (i := 0) (v := .agg #[.int .i64 f0.w, .int .i64 f0.h, .slice A0 f0.d.length c0]) rfl (by intro w' hSw; (try dsimp only at hSw); (have a0_0 := (a0.call hSw).at_.cell 0 rfl); (have a0_1 := (a0.call hSw).at_.cell 1 rfl); (have a0_2 := (a0.call hSw).at_.cell 2 rfl); (have a1_0 := (a1.call hSw).at_.cell 0 rfl); (have a1_1 := (a1.call hSw).at_.cell 1 rfl); (have a1_2 := (a1.call hSw).at_.cell 2 rfl); (have a1_3 := (a1.call hSw).at_.cell 3 rfl); (have a2_0 := (a2.call hSw).at_.cell 0 rfl); go_simp) ?_
         refine tcH (i := 2) (v := .agg #[.int .i64 f1.w, .int .i64 f1.h, .int .i64 f1.back, .slice A1 f1.fs.length c1]) rfl (by intro w' hSw; (try dsimp only at hSw); (have a0_0 := (a0.call hSw).at_.cell 0 rfl); (have a0_1 := (a0.call hSw).at_.cell 1 rfl); (have a0_2 := (a0.call hSw).at_.cell 2 rfl); (have a1_0 := (a1.call hSw).at_.cell 0 rfl); (have a1_1 := (a1.call hSw).at_.cell 1 rfl); (have a1_2 := (a1.call hSw).at_.cell 2 rfl); (have a1_3 := (a1.call hSw).at_.cell 3 rfl); (have a2_0 := (a2.call hSw).at_.cell 0 rfl); go_simp) ?_
         refine tcH (i := 4) (v := .agg #[.slice A2 f2.length c2]) rfl (by intro w' hSw; (try dsimp only at hSw); (have a0_0 := (a0.call hSw).at_.cell 0 rfl); (have a0_1 := (a0.call hSw).at_.cell 1 rfl); (have a0_2 := (a0.call hSw).at_.cell 2 rfl); (have a1_0 := (a1.call hSw).at_.cell 0 rfl); (have a1_1 := (a1.call hSw).at_.cell 1 rfl); (have a1_2 := (a1.call hSw).at_.cell 2 rfl); (have a1_3 := (a1.call hSw).at_.cell 3 rfl); (have a2_0 := (a2.call hSw).at_.cell 0 rfl); go_simp) ?_
         (try simp only [Act.put]); (try simp only [zPa]); (try simp only [zPb, zPc])
         refine wpAnyH_ready (rs := [1, 7]) (by kernel_rfl) (by simp) ?_
         refine (AllReadyH.cons rfl (fun K hK => ?_) (AllReadyH.cons rfl (fun K hK => ?_) AllReadyH.nil))
         ·rw [if_pos (by kernel_rfl)]
          (try simp only [zGa]); (try simp only [zGb]); (try simp only [zGc])
          go_simp
          with_reducible refine (to_im f0 _ _ (a0.call hS).rd Hn0.out).mono ?_
          rintro e W' ⟨uo, bs_u17, rfl, u17, hb⟩
          obtain ⟨A_u17, c_u17, he⟩ := form_im u17.r
          subst he
          replace u17 := u17.mono hS.size
          dsimp only
          refine hK.out _ _ (belI_call hS hb) (fun hS => ?_)
          clear hK
          (try simp only [Act.put]); (try simp only [zPa]); (try simp only [zPb, zPc])
          refine wpAnyH_ready (rs := [3, 7]) (by kernel_rfl) (by simp) ?_
          refine (AllReadyH.cons rfl (fun K hK => ?_) (AllReadyH.cons rfl (fun K hK => ?_) AllReadyH.nil))
          ·rw [if_pos (by kernel_rfl)]
           (try simp only [zGa]); (try simp only [zGb]); (try simp only [zGc])
           go_simp
           with_reducible refine (to_sn f1 _ _ (a1.call hS).rd Hn1.out).mono ?_
           rintro e W' ⟨uo, bs_u18, rfl, u18, hb⟩
           obtain ⟨A_u18, c_u18, he⟩ := form_sn u18.r
           subst he
           replace u18 := u18.mono hS.size
           dsimp only
           have u17 := u17.call hb
           refine hK.out _ _ (belI_call hS hb) (fun hS => ?_)
           clear hK
           (try simp only [Act.put]); (try simp only [zPa]); (try simp only [zPb, zPc])
           refine wpAnyH_ready (rs := [5, 7]) (by kernel_rfl) (by simp) ?_
           refine (AllReadyH.cons rfl (fun K hK => ?_) (AllReadyH.cons rfl (fun K hK => ?_) AllReadyH.nil))
           ·rw [if_pos (by kernel_rfl)]
            (try simp only [zGa]); (try simp only [zGb]); (try simp only [zGc])
            go_simp
            with_reducible refine (to_rg f2 _ _ (a2.call hS).rd Hn2.out).mono ?_
            rintro e W' ⟨uo, bs_u19, rfl, u19, hb⟩
            obtain ⟨A_u19, c_u19, he⟩ := form_rg u19.r
            subst he
            replace u19 := u19.mono hS.size
            dsimp only
            have u17 := u17.call hb
            have u18 := u18.call hb
            refine hK.out _ _ (belI_call hS hb) (fun hS => ?_)
            clear hK
            (try simp only [Act.put]); (try simp only [zPa]); (try simp only [zPb, zPc])
            refine wpAnyH_ready (rs := [6, 7]) (by kernel_rfl) (by simp) ?_
            refine (AllReadyH.cons rfl (fun K hK => ?_) (AllReadyH.cons rfl (fun K hK => ?_) AllReadyH.nil))
            ·rw [if_pos (by kernel_rfl)]
             (try simp only [zGa]); (try simp only [zGb]); (try simp only [zGc])
             go_simp
             with_reducible refine (HI.out _ _ _ u17.r _ _ u18.r _ _ u19.r).mono ?_
             rintro e W' ⟨uou20, bs_u20, rfl, u20, hb⟩
             obtain ⟨A_u20, c_u20, he⟩ := form_im u20.r
             subst he
             replace u20 := u20.mono hS.size
             dsimp only
             have u17 := u17.call hb
             have u18 := u18.call hb
             have u19 := u19.call hb
             refine hK.out _ _ (belI_call hS hb) (fun hS => ?_)
             clear hK
             (try simp only [Act.put]); (try simp only [zPa]); (try simp only [zPb, zPc])
             refine wpAnyH_ready (rs := [7]) (by kernel_rfl) (by simp) ?_
             refine (AllReadyH.cons rfl (fun K hK => ?_) AllReadyH.nil)
             ·rw [if_pos (by kernel_rfl)]
              (try simp only [zGa]); (try simp only [zGb]); (try simp only [zGc])
              refine wp_alloc_bk 55 #[.int .i64 0, .int .i64 0, .slice none 0 0] (fun _ => by kernel_rfl) rfl 16 rfl ?_
              intro bB W' hb GB lB
              have kB := Nat.le_trans hS.size lB
              have nB : bB ∉ bs_u17 := fun hk => by have := repIm.ex u17.r _ hk; omega
              have nB : bB ∉ bs_u18 := fun hk => by have := repSn.ex u18.r _ hk; omega
              have nB : bB ∉ bs_u19 := fun hk => by have := repRg.ex u19.r _ hk; omega
              have nB : bB ∉ bs_u20 := fun hk => by have := repIm.ex u20.r _ hk; omega
              have u17 := u17.call hb
              have u18 := u18.call hb
              have u19 := u19.call hb
              have u20 := u20.call hb
              refine hK.out _ _ (belI_call hS hb) (fun hS => ?_)
              clear hK
              (try simp only [Act.put]); (try simp only [zPa]); (try simp only [zPb, zPc])
              refine wpAnyH_ready (rs := [8]) (by kernel_rfl) (by simp) ?_
              refine (AllReadyH.cons rfl (fun K hK => ?_) AllReadyH.nil)
              ·rw [if_pos (by kernel_rfl)]
               (try simp only [zGa]); (try simp only [zGb]); (try simp only [zGc])
               refine wp_store_bk 55 (.tmp 16) (.tmp 102) rfl bB _ #[.int .i64 0, .int .i64 0, .slice none 0 0] #[.int .i64 q0.w, .int .i64 q0.h, .slice A_u20 q0.d.length c_u20] (by kernel_rfl) rfl (by simp [Value.oneCell']) rfl (by first | with_reducible rfl | (go_simp; done) | rfl) GB ?_
               intro W3 IB hgB
               skip
               skip
               skip
               replace u20 := Rep.Own.chg u20 (Chg.of_grown hgB) (fun k hk e => nB (by rw [← show k = bB by simpa using e]; exact hk))
               skip
               refine hK.out _ _ (hS.grown hgB hS.size (fun k hk => by injection hk with hk; omega)) (fun hS => ?_)
               clear hK
               (try simp only [Act.put]); (try simp only [zPa]); (try simp only [zPb, zPc])
               refine wpAnyH_done (by kernel_rfl) ?_ _
               go_wp2_with fail
               go_meet
               case rel => exact ⟨bB, _, _, _, _, rfl, VarB.made IB u20 kB nB, hS⟩
            ·rw [if_pos (by kernel_rfl)]
             (try simp only [zGa]); (try simp only [zGb]); (try simp only [zGc])
             refine wp_alloc_bk 55 #[.int .i64 0, .int .i64 0, .slice none 0 0] (fun _ => by kernel_rfl) rfl 16 rfl ?_
             intro bB W' hb GB lB
             have kB := Nat.le_trans hS.size lB
             have nB : bB ∉ bs_u17 := fun hk => by have := repIm.ex u17.r _ hk; omega
             have nB : bB ∉ bs_u18 := fun hk => by have := repSn.ex u18.r _ hk; omega
             have nB : bB ∉ bs_u19 := fun hk => by have := repRg.ex u19.r _ hk; omega
             have u17 := u17.call hb
             have u18 := u18.call hb
             have u19 := u19.call hb
             refine hK.out _ _ (belI_call hS hb) (fun hS => ?_)
             clear hK
             (try simp only [Act.put]); (try simp only [zPa]); (try simp only [zPb, zPc])
             refine wpAnyH_ready (rs := [6]) (by kernel_rfl) (by simp) ?_
             refine (AllReadyH.cons rfl (fun K hK => ?_) AllReadyH.nil)
             ·rw [if_pos (by kernel_rfl)]
              (try simp only [zGa]); (try simp only [zGb]); (try simp only [zGc])
              go_simp
              with_reducible refine (HI.out _ _ _ u17.r _ _ u18.r _ _ u19.r).mono ?_
              rintro e W' ⟨uou20, bs_u20, rfl, u20, hb⟩
              obtain ⟨A_u20, c_u20, he⟩ := form_im u20.r
              subst he
              have nB : bB ∉ bs_u20 := fun hk => by have := u20.lo _ hk; have := GB.lt; omega
              replace u20 := u20.mono hS.size
              dsimp only
              have u17 := u17.call hb
              have u18 := u18.call hb
              have u19 := u19.call hb
              have GB := GB.call hb
              refine hK.out _ _ (belI_call hS hb) (fun hS => ?_)
              clear hK
              (try simp only [Act.put]); (try simp only [zPa]); (try simp only [zPb, zPc])
              refine wpAnyH_ready (rs := [8]) (by kernel_rfl) (by simp) ?_
              refine (AllReadyH.cons rfl (fun K hK => ?_) AllReadyH.nil)
              ·rw [if_pos (by kernel_rfl)]
               (try simp only [zGa]); (try simp only [zGb]); (try simp only [zGc])
               refine wp_store_bk 55 (.tmp 16) (.tmp 102) rfl bB _ #[.int .i64 0, .int .i64 0, .slice none 0 0] #[.int .i64 q0.w, .int .i64 q0.h, .slice A_u20 q0.d.length c_u20] (by kernel_rfl) rfl (by simp [Value.oneCell']) rfl (by first | with_reducible rfl | (go_simp; done) | rfl) GB ?_
               intro W3 IB hgB
               skip
               skip
               skip
               skip
               replace u20 := Rep.Own.chg u20 (Chg.of_grown hgB) (fun k hk e => nB (by rw [← show k = bB by simpa using e]; exact hk))
               refine hK.out _ _ (hS.grown hgB hS.size (fun k hk => by injection hk with hk; omega)) (fun hS => ?_)
               clear hK
               (try simp only [Act.put]); (try simp only [zPa]); (try simp only [zPb, zPc])
               refine wpAnyH_done (by kernel_rfl) ?_ _
               go_wp2_with fail
               go_meet
               case rel => exact ⟨bB, _, _, _, _, rfl, VarB.made IB u20 kB nB, hS⟩
           ·rw [if_pos (by kernel_rfl)]
            (try simp only [zGa]); (try simp only [zGb]); (try simp only [zGc])
            refine wp_alloc_bk 55 #[.int .i64 0, .int .i64 0, .slice none 0 0] (fun _ => by kernel_rfl) rfl 16 rfl ?_
            intro bB W' hb GB lB
            have kB := Nat.le_trans hS.size lB
            have nB : bB ∉ bs_u17 := fun hk => by have := repIm.ex u17.r _ hk; omega
            have nB : bB ∉ bs_u18 := fun hk => by have := repSn.ex u18.r _ hk; omega
            have u17 := u17.call hb
            have u18 := u18.call hb
            refine hK.out _ _ (belI_call hS hb) (fun hS => ?_)
            clear hK
            (try simp only [Act.put]); (try simp only [zPa]); (try simp only [zPb, zPc])
            refine wpAnyH_ready (rs := [5]) (by kernel_rfl) (by simp) ?_
            refine (AllReadyH.cons rfl (fun K hK => ?_) AllReadyH.nil)
            ·rw [if_pos (by kernel_rfl)]
             (try simp only [zGa]); (try simp only [zGb]); (try simp only [zGc])
             go_simp
             with_reducible refine (to_rg f2 _ _ (a2.call hS).rd Hn2.out).mono ?_
             rintro e W' ⟨uo, bs_u19, rfl, u19, hb⟩
             obtain ⟨A_u19, c_u19, he⟩ := form_rg u19.r
             subst he
             have nB : bB ∉ bs_u19 := fun hk => by have := u19.lo _ hk; have := GB.lt; omega
             replace u19 := u19.mono hS.size
             dsimp only
             have u17 := u17.call hb
             have u18 := u18.call hb
             have GB := GB.call hb
             refine hK.out _ _ (belI_call hS hb) (fun hS => ?_)
             clear hK
             (try simp only [Act.put]); (try simp only [zPa]); (try simp only [zPb, zPc])
             refine wpAnyH_ready (rs := [6]) (by kernel_rfl) (by simp) ?_
             refine (AllReadyH.cons rfl (fun K hK => ?_) AllReadyH.nil)
             ·rw [if_pos (by kernel_rfl)]
              (try simp only [zGa]); (try simp only [zGb]); (try simp only [zGc])
              go_simp
              with_reducible refine (HI.out _ _ _ u17.r _ _ u18.r _ _ u19.r).mono ?_
              rintro e W' ⟨uou20, bs_u20, rfl, u20, hb⟩
              obtain ⟨A_u20, c_u20, he⟩ := form_im u20.r
              subst he
              have nB : bB ∉ bs_u20 := fun hk => by have := u20.lo _ hk; have := GB.lt; omega
              replace u20 := u20.mono hS.size
              dsimp only
              have u17 := u17.call hb
              have u18 := u18.call hb
              have GB := GB.call hb
              have u19 := u19.call hb
              refine hK.out _ _ (belI_call hS hb) (fun hS => ?_)
              clear hK
              (try simp only [Act.put]); (try simp only [zPa]); (try simp only [zPb, zPc])
              refine wpAnyH_ready (rs := [8]) (by kernel_rfl) (by simp) ?_
              refine (AllReadyH.cons rfl (fun K hK => ?_) AllReadyH.nil)
              ·rw [if_pos (by kernel_rfl)]
               (try simp only [zGa]); (try simp only [zGb]); (try simp only [zGc])
               refine wp_store_bk 55 (.tmp 16) (.tmp 102) rfl bB _ #[.int .i64 0, .int .i64 0, .slice none 0 0] #[.int .i64 q0.w, .int .i64 q0.h, .slice A_u20 q0.d.length c_u20] (by kernel_rfl) rfl (by simp [Value.oneCell']) rfl (by first | with_reducible rfl | (go_simp; done) | rfl) GB ?_
               intro W3 IB hgB
               skip
               skip
               skip
               skip
               replace u20 := Rep.Own.chg u20 (Chg.of_grown hgB) (fun k hk e => nB (by rw [← show k = bB by simpa using e]; exact hk))
               refine hK.out _ _ (hS.grown hgB hS.size (fun k hk => by injection hk with hk; omega)) (fun hS => ?_)
               clear hK
               (try simp only [Act.put]); (try simp only [zPa]); (try simp only [zPb, zPc])
               refine wpAnyH_done (by kernel_rfl) ?_ _
               go_wp2_with fail
               go_meet
               case rel => exact ⟨bB, _, _, _, _, rfl, VarB.made IB u20 kB nB, hS⟩
          ·rw [if_pos (by kernel_rfl)]
           (try simp only [zGa]); (try simp only [zGb]); (try simp only [zGc])
           refine wp_alloc_bk 55 #[.int .i64 0, .int .i64 0, .slice none 0 0] (fun _ => by kernel_rfl) rfl 16 rfl ?_
           intro bB W' hb GB lB
           have kB := Nat.le_trans hS.size lB
           have nB : bB ∉ bs_u17 := fun hk => by have := repIm.ex u17.r _ hk; omega
           have u17 := u17.call hb
           refine hK.out _ _ (belI_call hS hb) (fun hS => ?_)
           clear hK
           (try simp only [Act.put]); (try simp only [zPa]); (try simp only [zPb, zPc])
           refine wpAnyH_ready (rs := [3]) (by kernel_rfl) (by simp) ?_
           refine (AllReadyH.cons rfl (fun K hK => ?_) AllReadyH.nil)
           ·rw [if_pos (by kernel_rfl)]
            (try simp only [zGa]); (try simp only [zGb]); (try simp only [zGc])
            go_simp
            with_reducible refine (to_sn f1 _ _ (a1.call hS).rd Hn1.out).mono ?_
            rintro e W' ⟨uo, bs_u18, rfl, u18, hb⟩
            obtain ⟨A_u18, c_u18, he⟩ := form_sn u18.r
            subst he
            have nB : bB ∉ bs_u18 := fun hk => by have := u18.lo _ hk; have := GB.lt; omega
            replace u18 := u18.mono hS.size
            dsimp only
            have u17 := u17.call hb
            have GB := GB.call hb
            refine hK.out _ _ (belI_call hS hb) (fun hS => ?_)
            clear hK
            (try simp only [Act.put]); (try simp only [zPa]); (try simp only [zPb, zPc])
            refine wpAnyH_ready (rs := [5]) (by kernel_rfl) (by simp) ?_
            refine (AllReadyH.cons rfl (fun K hK => ?_) AllReadyH.nil)
            ·rw [if_pos (by kernel_rfl)]
             (try simp only [zGa]); (try simp only [zGb]); (try simp only [zGc])
             go_simp
             with_reducible refine (to_rg f2 _ _ (a2.call hS).rd Hn2.out).mono ?_
             rintro e W' ⟨uo, bs_u19, rfl, u19, hb⟩
             obtain ⟨A_u19, c_u19, he⟩ := form_rg u19.r
             subst he
             have nB : bB ∉ bs_u19 := fun hk => by have := u19.lo _ hk; have := GB.lt; omega
             replace u19 := u19.mono hS.size
             dsimp only
             have u17 := u17.call hb
             have GB := GB.call hb
             have u18 := u18.call hb
             refine hK.out _ _ (belI_call hS hb) (fun hS => ?_)
             clear hK
             (try simp only [Act.put]); (try simp only [zPa]); (try simp only [zPb, zPc])
             refine wpAnyH_ready (rs := [6]) (by kernel_rfl) (by simp) ?_
             refine (AllReadyH.cons rfl (fun K hK => ?_) AllReadyH.nil)
             ·rw [if_pos (by kernel_rfl)]
              (try simp only [zGa]); (try simp only [zGb]); (try simp only [zGc])
              go_simp
              with_reducible refine (HI.out _ _ _ u17.r _ _ u18.r _ _ u19.r).mono ?_
              rintro e W' ⟨uou20, bs_u20, rfl, u20, hb⟩
              obtain ⟨A_u20, c_u20, he⟩ := form_im u20.r
              subst he
              have nB : bB ∉ bs_u20 := fun hk => by have := u20.lo _ hk; have := GB.lt; omega
              replace u20 := u20.mono hS.size
              dsimp only
              have u17 := u17.call hb
              have GB := GB.call hb
              have u18 := u18.call hb
              have u19 := u19.call hb
              refine hK.out _ _ (belI_call hS hb) (fun hS => ?_)
              clear hK
              (try simp only [Act.put]); (try simp only [zPa]); (try simp only [zPb, zPc])
              refine wpAnyH_ready (rs := [8]) (by kernel_rfl) (by simp) ?_
              refine (AllReadyH.cons rfl (fun K hK => ?_) AllReadyH.nil)
              ·rw [if_pos (by kernel_rfl)]
               (try simp only [zGa]); (try simp only [zGb]); (try simp only [zGc])
               refine wp_store_bk 55 (.tmp 16) (.tmp 102) rfl bB _ #[.int .i64 0, .int .i64 0, .slice none 0 0] #[.int .i64 q0.w, .int .i64 q0.h, .slice A_u20 q0.d.length c_u20] (by kernel_rfl) rfl (by simp [Value.oneCell']) rfl (by first | with_reducible rfl | (go_simp; done) | rfl) GB ?_
               intro W3 IB hgB
               skip
               skip
               skip
               skip
               replace u20 := Rep.Own.chg u20 (Chg.of_grown hgB) (fun k hk e => nB (by rw [← show k = bB by simpa using e]; exact hk))
               refine hK.out _ _ (hS.grown hgB hS.size (fun k hk => by injection hk with hk; omega)) (fun hS => ?_)
               clear hK
               (try simp only [Act.put]); (try simp only [zPa]); (try simp only [zPb, zPc])
               refine wpAnyH_done (by kernel_rfl) ?_ _
               go_wp2_with fail
               go_meet
               case rel => exact ⟨bB, _, _, _, _, rfl, VarB.made IB u20 kB nB, hS⟩
         ·rw [if_pos (by kernel_rfl)]
          (try simp only [zGa]); (try simp only [zGb]); (try simp only [zGc])
          refine wp_alloc_bk 55 #[.int .i64 0, .int .i64 0, .slice none 0 0] (fun _ => by kernel_rfl) rfl 16 rfl ?_
          intro bB W' hb GB lB
          have kB := Nat.le_trans hS.size lB
          refine hK.out _ _ (belI_call hS hb) (fun hS => ?_)
          clear hK
          (try simp only [Act.put]); (try simp only [zPa]); (try simp only [zPb, zPc])
          refine wpAnyH_ready (rs := [1]) (by kernel_rfl) (by simp) ?_
          refine (AllReadyH.cons rfl (fun K hK => ?_) AllReadyH.nil)
          ·rw [if_pos (by kernel_rfl)]
           (try simp only [zGa]); (try simp only [zGb]); (try simp only [zGc])
           go_simp
           with_reducible refine (to_im f0 _ _ (a0.call hS).rd Hn0.out).mono ?_
           rintro e W' ⟨uo, bs_u17, rfl, u17, hb⟩
           obtain ⟨A_u17, c_u17, he⟩ := form_im u17.r
           subst he
           have nB : bB ∉ bs_u17 := fun hk => by have := u17.lo _ hk; have := GB.lt; omega
           replace u17 := u17.mono hS.size
           dsimp only
           have GB := GB.call hb
           refine hK.out _ _ (belI_call hS hb) (fun hS => ?_)
           clear hK
           (try simp only [Act.put]); (try simp only [zPa]); (try simp only [zPb, zPc])
           refine wpAnyH_ready (rs := [3]) (by kernel_rfl) (by simp) ?_
           refine (AllReadyH.cons rfl (fun K hK => ?_) AllReadyH.nil)
           ·rw [if_pos (by kernel_rfl)]
            (try simp only [zGa]); (try simp only [zGb]); (try simp only [zGc])
            go_simp
            with_reducible refine (to_sn f1 _ _ (a1.call hS).rd Hn1.out).mono ?_
            rintro e W' ⟨uo, bs_u18, rfl, u18, hb⟩
            obtain ⟨A_u18, c_u18, he⟩ := form_sn u18.r
            subst he
            have nB : bB ∉ bs_u18 := fun hk => by have := u18.lo _ hk; have := GB.lt; omega
            replace u18 := u18.mono hS.size
            dsimp only
            have GB := GB.call hb
            have u17 := u17.call hb
            refine hK.out _ _ (belI_call hS hb) (fun hS => ?_)
            clear hK
            (try simp only [Act.put]); (try simp only [zPa]); (try simp only [zPb, zPc])
            refine wpAnyH_ready (rs := [5]) (by kernel_rfl) (by simp) ?_
            refine (AllReadyH.cons rfl (fun K hK => ?_) AllReadyH.nil)
            ·rw [if_pos (by kernel_rfl)]
             (try simp only [zGa]); (try simp only [zGb]); (try simp only [zGc])
             go_simp
             with_reducible refine (to_rg f2 _ _ (a2.call hS).rd Hn2.out).mono ?_
             rintro e W' ⟨uo, bs_u19, rfl, u19, hb⟩
             obtain ⟨A_u19, c_u19, he⟩ := form_rg u19.r
             subst he
             have nB : bB ∉ bs_u19 := fun hk => by have := u19.lo _ hk; have := GB.lt; omega
             replace u19 := u19.mono hS.size
             dsimp only
             have GB := GB.call hb
             have u17 := u17.call hb
             have u18 := u18.call hb
             refine hK.out _ _ (belI_call hS hb) (fun hS => ?_)
             clear hK
             (try simp only [Act.put]); (try simp only [zPa]); (try simp only [zPb, zPc])
             refine wpAnyH_ready (rs := [6]) (by kernel_rfl) (by simp) ?_
             refine (AllReadyH.cons rfl (fun K hK => ?_) AllReadyH.nil)
             ·rw [if_pos (by kernel_rfl)]
              (try simp only [zGa]); (try simp only [zGb]); (try simp only [zGc])
              go_simp
              with_reducible refine (HI.out _ _ _ u17.r _ _ u18.r _ _ u19.r).mono ?_
              rintro e W' ⟨uou20, bs_u20, rfl, u20, hb⟩
              obtain ⟨A_u20, c_u20, he⟩ := form_im u20.r
              subst he
              have nB : bB ∉ bs_u20 := fun hk => by have := u20.lo _ hk; have := GB.lt; omega
              replace u20 := u20.mono hS.size
              dsimp only
              have GB := GB.call hb
              have u17 := u17.call hb
              have u18 := u18.call hb
              have u19 := u19.call hb
              refine hK.out _ _ (belI_call hS hb) (fun hS => ?_)
              clear hK
              (try simp only [Act.put]); (try simp only [zPa]); (try simp only [zPb, zPc])
              refine wpAnyH_ready (rs := [8]) (by kernel_rfl) (by simp) ?_
              refine (AllReadyH.cons rfl (fun K hK => ?_) AllReadyH.nil)
              ·rw [if_pos (by kernel_rfl)]
               (try simp only [zGa]); (try simp only [zGb]); (try simp only [zGc])
               refine wp_store_bk 55 (.tmp 16) (.tmp 102) rfl bB _ #[.int .i64 0, .int .i64 0, .slice none 0 0] #[.int .i64 q0.w, .int .i64 q0.h, .slice A_u20 q0.d.length c_u20] (by kernel_rfl) rfl (by simp [Value.oneCell']) rfl (by first | with_reducible rfl | (go_simp; done) | rfl) GB ?_
               intro W3 IB hgB
               skip
               skip
               skip
               skip
               replace u20 := Rep.Own.chg u20 (Chg.of_grown hgB) (fun k hk e => nB (by rw [← show k = bB by simpa using e]; exact hk))
               refine hK.out _ _ (hS.grown hgB hS.size (fun k hk => by injection hk with hk; omega)) (fun hS => ?_)
               clear hK
               (try simp only [Act.put]); (try simp only [zPa]); (try simp only [zPb, zPc])
               refine wpAnyH_done (by kernel_rfl) ?_ _
               go_wp2_with fail
               go_meet
               case rel => exact ⟨bB, _, _, _, _, rfl, VarB.made IB u20 kB nB, hS⟩
        case rest =>
         obtain ⟨b_V21, hi_V21, A_V21, c_V21, bs_V21, rfl, V21, hb⟩ := hcut
         obtain ⟨w29, hWy⟩ : ∃ w29, w29 = wc := ⟨_, rfl⟩
         subst hWy
         have hs_V5_V21 := Lib.hid V5.hs
         have hs_V7_V21 := Lib.hid V7.hs
         have hs_V9_V21 := Lib.hid V9.hs
         have hs_V11_V21 := Lib.hid V11.hs
         have hs_V13_V21 := Lib.hid V13.hs
         have hlo_V21 := Lib.hid Kw.size
         have hl_a0_V21 := Lib.hid a0.lt
         have hl_a1_V21 := Lib.hid a1.lt
         have hl_a2_V21 := Lib.hid a2.lt
         replace a0 := a0.call hb
         replace a1 := a1.call hb
         replace a2 := a2.call hb
         replace V5 := V5.call hb
         replace V7 := V7.call hb
         replace V9 := V9.call hb
         replace V11 := V11.call hb
         replace V13 := V13.call hb
         replace Kw := belI_call Kw hb
         clear hb
         have V21_0 := V21.at_.cell 0 rfl
         have V21_1 := V21.at_.cell 1 rfl
         have V21_2 := V21.at_.cell 2 rfl
         have V5_0 := V5.at_.cell 0 rfl
         have V5_1 := V5.at_.cell 1 rfl
         have V5_2 := V5.at_.cell 2 rfl
         go_wp2_with fail
         clear V21_0 V21_1 V21_2 V5_0 V5_1 V5_2
         refine (eq_im q0 _ _ _ _ _ V21.r V5.r).mono ?_
         rintro e w30 ⟨rfl, hb⟩
         replace a0 := a0.call hb
         replace a1 := a1.call hb
         replace a2 := a2.call hb
         replace V5 := V5.call hb
         replace V7 := V7.call hb
         replace V9 := V9.call hb
         replace V11 := V11.call hb
         replace V13 := V13.call hb
         replace V21 := V21.call hb
         replace Kw := belI_call Kw hb
         clear hb
         have V13_0 := V13.at_.cell 0 rfl
         have V13_1 := V13.at_.cell 1 rfl
         have V13_2 := V13.at_.cell 2 rfl
         go_wp2_with fail
         clear V13_0 V13_1 V13_2
         refine (held_im q0 _ _ 1 _ (by omega) V13.r).mono ?_
         rintro e w31 ⟨rfl, hb⟩
         replace a0 := a0.call hb
         replace a1 := a1.call hb
         replace a2 := a2.call hb
         replace V5 := V5.call hb
         replace V7 := V7.call hb
         replace V9 := V9.call hb
         replace V11 := V11.call hb
         replace V13 := V13.call hb
         replace V21 := V21.call hb
         replace Kw := belI_call Kw hb
         clear hb
         go_wp2_with fail
         go_ret
         exact ⟨rfl, Kw⟩
end Go.Proofs.YtdgagooldlnpeaaGreat
