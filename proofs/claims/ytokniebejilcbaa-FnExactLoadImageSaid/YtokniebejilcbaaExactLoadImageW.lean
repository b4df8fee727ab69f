/- The walk of the law FnExactLoadImage: it returns true for every list of integers and all integers. -/
import Derived.Test.YtokniebejilcbaaMA
import Derived.Test.YtokniebejilcbaaMB
import Derived.Test.YtokniebejilcbaaLyI
import Derived.Test.YtokniebejilcbaaLdS
import Derived.Test.YtokniebejilcbaaB4sa
import Derived.Test.YtokniebejilcbaaProg
import Derived.WalkKit
import Derived.ProofKit
import Derived.OpenShut
import Derived.WalkLawsBesides
import Derived.WalkSpells
import Derived.ShutString
import Derived.ChangeOld
import Derived.Below
import Derived.Lib.Hide
import Derived.BigQuiet
import Derived.Deep.QuietTactic
import Derived.Maps.AppendAt
import Derived.Deep.OwnRows
import Derived.Handy
import Derived.Deep.Draws
import Derived.OwnWalk
import Derived.Deep.AppendLies
import Derived.Deep.LoopGhost
import Derived.Deep.Onto
import Derived.Deep.MidRow
import Derived.Deep.WholeRow
import Derived.Laws.BitsAllLaws
import Derived.Lib.QuoteBits
import Derived.Deep.RegionHeld3
import Derived.Deep.DeepCutAuto
import Derived.Test.YtokniebejilcbaaShelf
import Derived.Laws.CopyOwn
import Derived.Deep.RegionLaw
import Derived.Great.BuildSlice
import Derived.Laws.AppendOwn
import Derived.ChangeKeysEq
import Derived.RangeFuncNested
import Derived.RangeFuncCalls
import Derived.RangeFuncFrom
import Derived.Shelf.Abstract
import Derived.Shelf.RegionOpen
import Derived.OwnWalkIn
import Derived.TacticsInMore
import Derived.LoopNIn
import Derived.LoopIn
import Derived.Carry
import Derived.Maps.Own
import Derived.Deep.RegionWith
import Derived.Shelf.RegionOpenPlain
import Derived.Lib.SliceRun
import Derived.Deep.DeepAppendRoom
namespace Go.Proofs.Ytokniebejilcbaa
open Go.RowKit
set_option maxHeartbeats 8000000 in
set_option maxRecDepth 100000 in
theorem walk0_FnExactLoadImage (f0 : List Int) (d0 : Value) (p1 : Int) (_ : (Lit.int .i64 p1).wf = true) (p2 : Int) (_ : (Lit.int .i64 p2).wf = true) (p3 : Int) (_ : (Lit.int .i64 p3).wf = true) (w : World) (h0 : wkInts.R w f0 [d0]) :
  Calls Try.prog 6 #[d0, .int .i64 p1, .int .i64 p2, .int .i64 p3] w fun e w' => e = .returned (.bool true) ∧ Below w.heap.size w w' := by
 obtain ⟨A0, c0, rfl⟩ := wform_il h0
 have O0 := Lib.hid h0
 have Kw := Below.refl w.heap.size w
 by_cases g0 : f0.length ≤ 1048576
 rotate_left
 ·have g' : ¬ f0.length ≤ 1048576 := g0
  have hgt : (1048576 : Int) < (f0.length : Int) := by omega
  clear g' g0
  go_enter Try.func6, Try.ntmps6
  go_wp2_with fail
  go_ret
  exact ⟨rfl, Kw⟩
 have Hn0 := Lib.hid (show f0.length ≤ 1048576 by omega)
 have hgt : ¬ (1048576 : Int) < (f0.length : Int) := by omega
 obtain ⟨q0, hq0⟩ : ∃ q, q = ldM f0 p1 p2 p3 := ⟨_, rfl⟩
 obtain ⟨q1, hq1⟩ : ∃ q, q = ldB f0 p1 p2 p3 := ⟨_, rfl⟩
 have hm0 : q0.d.length ≤ 100000000 := by rw [hq0]; exact (by have := ldM_len f0 p1 p2 p3; omega)
 have PS := fun (W : World) (u0 : Value) (bs0 : List Nat) (k0 : repInts.R W f0 [u0] bs0) => ldS' p1 p2 p3 u0 f0 W (Nat.le_trans Hn0.out (by omega)) (repInts_rd k0)
 have PI := fun (W : World) (u0 : Value) (bs0 : List Nat) (k0 : repInts.R W f0 [u0] bs0) => ldI' p1 p2 p3 u0 f0 W (Nat.le_trans Hn0.out (by omega)) (repInts_rd k0)
 unfold LdK at PS PI
 rw [← hq0, ← hq1] at PS PI
 have HS := Lib.hid PS
 have HI := Lib.hid PI
 clear PS PI hq0 hq1
 go_enter Try.func6, Try.ntmps6
 have neg0 : ¬ ((1 + q0.d.length : Nat) : Int) < 0 := by omega
 go_wp2_with fail
 refine (to_il f0 _ _ (wkInts.call O0.out Kw) Hn0.out).mono ?_
 rintro e w1 ⟨uo, bs_u1, rfl, u1, hb⟩
 obtain ⟨A_u1, c_u1, he⟩ := form_il u1.r
 subst he
 replace Kw := belI_call Kw hb
 clear hb
 go_wp2_with fail
 refine (HS.out _ _ _ u1.r).mono ?_
 rintro e w2 ⟨uou2, bs_u2, rfl, u2, hb⟩
 obtain ⟨A_u2, c_u2, he⟩ := form_im u2.r
 subst he
 have hlo_V3 := Lib.hid Kw.size
 have V3 := VarB.born hb u2 32
 replace hb := belI_call hb (belI_box w2 (.cells #[.int .i64 q0.w, .int .i64 q0.h, .slice A_u2 q0.d.length c_u2] 32))
 replace u1 := u1.call hb
 replace Kw := belI_call Kw hb
 clear hb u2
 clear u1
 go_wp2_with fail
 obtain ⟨w3, hWx⟩ : ∃ w3, w3 = (w2.alloc (.cells #[.int .i64 q0.w, .int .i64 q0.h, .slice A_u2 q0.d.length c_u2] 32)) := ⟨_, rfl⟩
 rw [← hWx]
 rw [← hWx] at Kw V3
 clear hWx
 refine (to_il f0 _ _ (wkInts.call O0.out Kw) Hn0.out).mono ?_
 rintro e w4 ⟨uo, bs_u4, rfl, u4, hb⟩
 obtain ⟨A_u4, c_u4, he⟩ := form_il u4.r
 subst he
 have hs_V3_V5 := Lib.hid V3.hs
 have hlo_V5 := Lib.hid Kw.size
 have V5 := VarN.born hb u4
 replace V3 := V3.call hb
 replace Kw := belI_call Kw hb
 clear hb u4
 go_wp2_with fail
 refine (HI.out _ _ _ V5.r).mono ?_
 rintro e w5 ⟨uou6, bs_u6, rfl, u6, hb⟩
 obtain ⟨A_u6, c_u6, he⟩ := form_im u6.r
 subst he
 have hs_V3_V7 := Lib.hid V3.hs
 have hs_V5_V7 := Lib.hid V5.hs
 have hlo_V7 := Lib.hid Kw.size
 have V7 := VarB.born hb u6 32
 replace hb := belI_call hb (belI_box w5 (.cells #[.int .i64 q0.w, .int .i64 q0.h, .slice A_u6 q0.d.length c_u6] 32))
 replace V3 := V3.call hb
 replace V5 := V5.call hb
 replace Kw := belI_call Kw hb
 clear hb u6
 have V7_0 := V7.at_.cell 0 rfl
 have V7_1 := V7.at_.cell 1 rfl
 have V7_2 := V7.at_.cell 2 rfl
 have V3_0 := V3.at_.cell 0 rfl
 have V3_1 := V3.at_.cell 1 rfl
 have V3_2 := V3.at_.cell 2 rfl
 go_wp2_with fail
 clear V7_0 V7_1 V7_2 V3_0 V3_1 V3_2
 obtain ⟨w6, hWx⟩ : ∃ w6, w6 = (w5.alloc (.cells #[.int .i64 q0.w, .int .i64 q0.h, .slice A_u6 q0.d.length c_u6] 32)) := ⟨_, rfl⟩
 rw [← hWx]
 rw [← hWx] at Kw V3 V5 V7
 clear hWx
 refine (eq_im q0 _ _ _ _ _ V7.r V3.r).mono ?_
 rintro e w7 ⟨rfl, hb⟩
 replace V3 := V3.call hb
 replace V5 := V5.call hb
 replace V7 := V7.call hb
 replace Kw := belI_call Kw hb
 clear hb
 go_wp2_with fail
 refine (to_il f0 _ _ (wkInts.call O0.out Kw) Hn0.out).mono ?_
 rintro e w8 ⟨uo, bs_u8, rfl, u8, hb⟩
 obtain ⟨A_u8, c_u8, he⟩ := form_il u8.r
 subst he
 replace V3 := V3.call hb
 replace V5 := V5.call hb
 replace V7 := V7.call hb
 replace Kw := belI_call Kw hb
 clear hb
 go_wp2_with fail
 refine (eq_il f0 _ _ _ _ _ V5.r u8.r).mono ?_
 rintro e w9 ⟨rfl, hb⟩
 replace V3 := V3.call hb
 replace V5 := V5.call hb
 replace V7 := V7.call hb
 replace u8 := u8.call hb
 replace Kw := belI_call Kw hb
 clear hb
 clear u8
 go_wp2_with fail
 refine (mark_il _ f0 _ _ (1) _ (by omega) V5.own).mono ?_
 rintro e w10 ⟨rfl, hr, hc⟩
 replace Kw := V5.below Kw (by have := hlo_V5.out; omega) hc
 replace V3 := V3.chg hc (fun k hk => by have := V5.rng k hk; have := hs_V3_V5.out; omega)
 replace V7 := V7.chg hc (fun k hk => by have := V5.rng k hk; have := hs_V5_V7.out; omega)
 replace V5 := V5.mark hr hc
 clear hr hc
 have hk_w10 : ¬ ((1 + f0.length : Nat) : Int) < 0 := by omega
 have V7_0 := V7.at_.cell 0 rfl
 have V7_1 := V7.at_.cell 1 rfl
 have V7_2 := V7.at_.cell 2 rfl
 have V3_0 := V3.at_.cell 0 rfl
 have V3_1 := V3.at_.cell 1 rfl
 have V3_2 := V3.at_.cell 2 rfl
 go_wp2_with fail
 clear V7_0 V7_1 V7_2 V3_0 V3_1 V3_2
 refine (eq_im q0 _ _ _ _ _ V7.r V3.r).mono ?_
 rintro e w11 ⟨rfl, hb⟩
 replace V3 := V3.call hb
 replace V5 := V5.call hb
 replace V7 := V7.call hb
 replace Kw := belI_call Kw hb
 clear hb
 have V7_0 := V7.at_.cell 0 rfl
 have V7_1 := V7.at_.cell 1 rfl
 have V7_2 := V7.at_.cell 2 rfl
 go_wp2_with fail
 clear V7_0 V7_1 V7_2
 refine (mark_im _ q0 _ _ (1) _ (by omega) V7.own).mono ?_
 rintro e w12 ⟨rfl, hr, hc⟩
 replace Kw := V7.below Kw (by have := hlo_V7.out; omega) hc
 replace V3 := V3.chg hc (fun k hk => by have := V7.rng k hk; have := hs_V3_V7.out; omega)
 replace V5 := V5.chg hc (fun k hk => by have := V7.rng k hk; have := hs_V5_V7.out; omega)
 replace V7 := V7.mark hr hc
 clear hr hc
 have hk_w12 : ¬ ((1 + q0.d.length : Nat) : Int) < 0 := by omega
 have V7_0 := V7.at_.cell 0 rfl
 have V7_1 := V7.at_.cell 1 rfl
 have V7_2 := V7.at_.cell 2 rfl
 go_wp2_with fail
 clear V7_0 V7_1 V7_2
 refine (held_im q0 _ _ 1 _ (by omega) V7.r).mono ?_
 rintro e w13 ⟨rfl, hb⟩
 replace V3 := V3.call hb
 replace V5 := V5.call hb
 replace V7 := V7.call hb
 replace Kw := belI_call Kw hb
 clear hb
 go_wp2_with fail
 refine (to_il f0 _ _ (wkInts.call O0.out Kw) Hn0.out).mono ?_
 rintro e w14 ⟨uo, bs_u9, rfl, u9, hb⟩
 obtain ⟨A_u9, c_u9, he⟩ := form_il u9.r
 subst he
 replace V3 := V3.call hb
 replace V5 := V5.call hb
 replace V7 := V7.call hb
 replace Kw := belI_call Kw hb
 clear hb
 go_wp2_with fail
 refine (HI.out _ _ _ u9.r).mono ?_
 rintro e w15 ⟨uou10, bs_u10, rfl, u10, hb⟩
 obtain ⟨A_u10, c_u10, he⟩ := form_im u10.r
 subst he
 have hs_V3_V11 := Lib.hid V3.hs
 have hs_V5_V11 := Lib.hid V5.hs
 have hs_V7_V11 := Lib.hid V7.hs
 have hlo_V11 := Lib.hid Kw.size
 have V11 := VarB.born hb u10 32
 replace hb := belI_call hb (belI_box w15 (.cells #[.int .i64 q0.w, .int .i64 q0.h, .slice A_u10 q0.d.length c_u10] 32))
 replace V3 := V3.call hb
 replace V5 := V5.call hb
 replace V7 := V7.call hb
 replace u9 := u9.call hb
 replace Kw := belI_call Kw hb
 clear hb u10
 clear u9
 have V11_0 := V11.at_.cell 0 rfl
 have V11_1 := V11.at_.cell 1 rfl
 have V11_2 := V11.at_.cell 2 rfl
 have V3_0 := V3.at_.cell 0 rfl
 have V3_1 := V3.at_.cell 1 rfl
 have V3_2 := V3.at_.cell 2 rfl
 go_wp2_with fail
 clear V11_0 V11_1 V11_2 V3_0 V3_1 V3_2
 obtain ⟨w16, hWx⟩ : ∃ w16, w16 = (w15.alloc (.cells #[.int .i64 q0.w, .int .i64 q0.h, .slice A_u10 q0.d.length c_u10] 32)) := ⟨_, rfl⟩
 rw [← hWx]
 rw [← hWx] at Kw V3 V5 V7 V11
 clear hWx
 refine (eq_im q0 _ _ _ _ _ V11.r V3.r).mono ?_
 rintro e w17 ⟨rfl, hb⟩
 replace V3 := V3.call hb
 replace V5 := V5.call hb
 replace V7 := V7.call hb
 replace V11 := V11.call hb
 replace Kw := belI_call Kw hb
 clear hb
 have V7_0 := V7.at_.cell 0 rfl
 have V7_1 := V7.at_.cell 1 rfl
 have V7_2 := V7.at_.cell 2 rfl
 go_wp2_with fail
 clear V7_0 V7_1 V7_2
 refine (held_im q0 _ _ 1 _ (by omega) V7.r).mono ?_
 rintro e w18 ⟨rfl, hb⟩
 replace V3 := V3.call hb
 replace V5 := V5.call hb
 replace V7 := V7.call hb
 replace V11 := V11.call hb
 replace Kw := belI_call Kw hb
 clear hb
 go_wp2_with fail
 go_ret
 exact ⟨rfl, Kw⟩
theorem walk_FnExactLoadImage (a : Option Addr) (len cap : Nat) (zs : List Int) (X : Int) (h1 : (Lit.int .i64 X).wf = true) (Y : Int) (h2 : (Lit.int .i64 Y).wf = true) (l : Int) (h3 : (Lit.int .i64 l).wf = true) (w : World) (h : IsRow .i64 w a len cap zs) :
  Calls Try.prog 6 #[.slice a len cap, .int .i64 X, .int .i64 Y, .int .i64 l] w fun e w' => e = .returned (.bool true) ∧ Below w.heap.size w w' :=
 walk0_FnExactLoadImage (zs.take len) _ X h1 Y h2 l h3 w ⟨_, rfl, Rd.of_row h⟩
end Go.Proofs.Ytokniebejilcbaa
