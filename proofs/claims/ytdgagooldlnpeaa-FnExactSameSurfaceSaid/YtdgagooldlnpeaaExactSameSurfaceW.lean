/- The walk of the law FnExactSameSurface: it returns true for every two surfaces. -/
import Derived.Test.YtdgagooldlnpeaaMA
import Derived.Test.YtdgagooldlnpeaaMAv1
import Derived.Test.YtdgagooldlnpeaaMB
import Derived.Test.YtdgagooldlnpeaaB1sav1
import Derived.Test.YtdgagooldlnpeaaMBv1
import Derived.Test.YtdgagooldlnpeaaProg
import Derived.WalkKit
import Derived.ProofKit
import Derived.OpenShut
import Derived.WalkLawsBesides
import Derived.WalkSpells
import Derived.ShutString
import Derived.ChangeOld
import Derived.Below
import Derived.Lib.Hide
import Derived.BigQuiet
import Derived.Deep.QuietTactic
import Derived.Maps.AppendAt
import Derived.Deep.OwnRows
import Derived.Handy
import Derived.Deep.Draws
import Derived.OwnWalk
import Derived.Deep.AppendLies
import Derived.Deep.LoopGhost
import Derived.Deep.Onto
import Derived.Deep.MidRow
import Derived.Deep.WholeRow
import Derived.Laws.BitsAllLaws
import Derived.Lib.QuoteBits
import Derived.Deep.RegionHeld3
import Derived.Deep.DeepCutAuto
import Derived.Test.YtdgagooldlnpeaaShelf
import Derived.Laws.CopyOwn
import Derived.Deep.RegionLaw
import Derived.Great.BuildSlice
namespace Go.Proofs.Ytdgagooldlnpeaa
open Go.RowKit
set_option maxHeartbeats 8000000 in
set_option maxRecDepth 100000 in
theorem walk_FnExactSameSurface (f0 : Sf) (d0 : Value) (f1 : Sf) (d1 : Value) (w : World) (h0 : wkSf.R w f0 [.int .i64 f0.id, .int .i64 f0.x, .int .i64 f0.y, .int .i64 f0.w, .int .i64 f0.h, .int .i64 f0.alpha, .int .i64 f0.orient, .bool f0.vis, .int .i64 f0.bw, .int .i64 f0.bh, d0]) (h1 : wkSf.R w f1 [.int .i64 f1.id, .int .i64 f1.x, .int .i64 f1.y, .int .i64 f1.w, .int .i64 f1.h, .int .i64 f1.alpha, .int .i64 f1.orient, .bool f1.vis, .int .i64 f1.bw, .int .i64 f1.bh, d1]) :
  Calls Try.prog 4 #[.agg #[.int .i64 f0.id, .int .i64 f0.x, .int .i64 f0.y, .int .i64 f0.w, .int .i64 f0.h, .int .i64 f0.alpha, .int .i64 f0.orient, .bool f0.vis, .int .i64 f0.bw, .int .i64 f0.bh, d0], .agg #[.int .i64 f1.id, .int .i64 f1.x, .int .i64 f1.y, .int .i64 f1.w, .int .i64 f1.h, .int .i64 f1.alpha, .int .i64 f1.orient, .bool f1.vis, .int .i64 f1.bw, .int .i64 f1.bh, d1]] w fun e w' => e = .returned (.bool true) ∧ Below w.heap.size w w' := by
 obtain ⟨A0, c0, rfl⟩ := wform_sf h0
 have O0 := Lib.hid h0
 obtain ⟨A1, c1, rfl⟩ := wform_sf h1
 have O1 := Lib.hid h1
 have Kw := Below.refl w.heap.size w
 have hb0 := belI_box w (.cells #[.int .i64 f0.id, .int .i64 f0.x, .int .i64 f0.y, .int .i64 f0.w, .int .i64 f0.h, .int .i64 f0.alpha, .int .i64 f0.orient, .bool f0.vis, .int .i64 f0.bw, .int .i64 f0.bh, .slice A0 f0.data.length c0] 43)
 have a0 : ArgB wkSf 43 (w.heap.size) f0 [.int .i64 f0.id, .int .i64 f0.x, .int .i64 f0.y, .int .i64 f0.w, .int .i64 f0.h, .int .i64 f0.alpha, .int .i64 f0.orient, .bool f0.vis, .int .i64 f0.bw, .int .i64 f0.bh, .slice A0 f0.data.length c0] (w.alloc (.cells #[.int .i64 f0.id, .int .i64 f0.x, .int .i64 f0.y, .int .i64 f0.w, .int .i64 f0.h, .int .i64 f0.alpha, .int .i64 f0.orient, .bool f0.vis, .int .i64 f0.bw, .int .i64 f0.bh, .slice A0 f0.data.length c0] 43)) := ArgB.bornAt (w := w) (by simp) (wkSf.call h0 Kw) _
 replace Kw := belI_call Kw hb0
 clear hb0
 have hb1 := belI_box (w.alloc (.cells #[.int .i64 f0.id, .int .i64 f0.x, .int .i64 f0.y, .int .i64 f0.w, .int .i64 f0.h, .int .i64 f0.alpha, .int .i64 f0.orient, .bool f0.vis, .int .i64 f0.bw, .int .i64 f0.bh, .slice A0 f0.data.length c0] 43)) (.cells #[.int .i64 f1.id, .int .i64 f1.x, .int .i64 f1.y, .int .i64 f1.w, .int .i64 f1.h, .int .i64 f1.alpha, .int .i64 f1.orient, .bool f1.vis, .int .i64 f1.bw, .int .i64 f1.bh, .slice A1 f1.data.length c1] 43)
 replace a0 := a0.call hb1
 have a1 : ArgB wkSf 43 (w.heap.size + 1) f1 [.int .i64 f1.id, .int .i64 f1.x, .int .i64 f1.y, .int .i64 f1.w, .int .i64 f1.h, .int .i64 f1.alpha, .int .i64 f1.orient, .bool f1.vis, .int .i64 f1.bw, .int .i64 f1.bh, .slice A1 f1.data.length c1] ((w.alloc (.cells #[.int .i64 f0.id, .int .i64 f0.x, .int .i64 f0.y, .int .i64 f0.w, .int .i64 f0.h, .int .i64 f0.alpha, .int .i64 f0.orient, .bool f0.vis, .int .i64 f0.bw, .int .i64 f0.bh, .slice A0 f0.data.length c0] 43)).alloc (.cells #[.int .i64 f1.id, .int .i64 f1.x, .int .i64 f1.y, .int .i64 f1.w, .int .i64 f1.h, .int .i64 f1.alpha, .int .i64 f1.orient, .bool f1.vis, .int .i64 f1.bw, .int .i64 f1.bh, .slice A1 f1.data.length c1] 43)) := ArgB.bornAt (w := (w.alloc (.cells #[.int .i64 f0.id, .int .i64 f0.x, .int .i64 f0.y, .int .i64 f0.w, .int .i64 f0.h, .int .i64 f0.alpha, .int .i64 f0.orient, .bool f0.vis, .int .i64 f0.bw, .int .i64 f0.bh, .slice A0 f0.data.length c0] 43))) (by simp) (wkSf.call h1 Kw) _
 replace Kw := belI_call Kw hb1
 clear hb1
 obtain ⟨w0, hw0⟩ : ∃ w0, w0 = ((w.alloc (.cells #[.int .i64 f0.id, .int .i64 f0.x, .int .i64 f0.y, .int .i64 f0.w, .int .i64 f0.h, .int .i64 f0.alpha, .int .i64 f0.orient, .bool f0.vis, .int .i64 f0.bw, .int .i64 f0.bh, .slice A0 f0.data.length c0] 43)).alloc (.cells #[.int .i64 f1.id, .int .i64 f1.x, .int .i64 f1.y, .int .i64 f1.w, .int .i64 f1.h, .int .i64 f1.alpha, .int .i64 f1.orient, .bool f1.vis, .int .i64 f1.bw, .int .i64 f1.bh, .slice A1 f1.data.length c1] 43)) := ⟨_, rfl⟩
 rw [← hw0] at Kw a0 a1
 have Hw := Lib.hid hw0
 clear hw0 h0 h1
 by_cases g0 : f0.data.length ≤ 1048576
 rotate_left
 ·have g' : ¬ f0.data.length ≤ 1048576 := g0
  have a0_0 := a0.at_.cell 0 rfl
  have a0_1 := a0.at_.cell 1 rfl
  have a0_2 := a0.at_.cell 2 rfl
  have a0_3 := a0.at_.cell 3 rfl
  have a0_4 := a0.at_.cell 4 rfl
  have a0_5 := a0.at_.cell 5 rfl
  have a0_6 := a0.at_.cell 6 rfl
  have a0_7 := a0.at_.cell 7 rfl
  have a0_8 := a0.at_.cell 8 rfl
  have a0_9 := a0.at_.cell 9 rfl
  have a0_10 := a0.at_.cell 10 rfl
  go_enter Try.func4, Try.ntmps4
  go_wp2_with fail
  rw [← Hw.out]
  clear a0_0 a0_1 a0_2 a0_3 a0_4 a0_5 a0_6 a0_7 a0_8 a0_9 a0_10
  have q0 : (0 : Int) ≤ (1048576 : Int) := by omega
  have q1 : (1048576 : Int) < ((f0.data.length : Nat) : Int) := by omega
  refine (sz_sf_no f0 _ _ _ a0.rd q0 q1 (by omega)).mono ?_
  rintro e w1 ⟨rfl, hb⟩
  replace a0 := a0.call hb
  replace a1 := a1.call hb
  replace Kw := belI_call Kw hb
  clear hb
  go_wp2_with fail
  go_ret
  exact ⟨rfl, Kw⟩
 by_cases g1 : f0.data.length + f1.data.length ≤ 1048576
 rotate_left
 ·have g' : ¬ f0.data.length + f1.data.length ≤ 1048576 := g1
  have a0_0 := a0.at_.cell 0 rfl
  have a0_1 := a0.at_.cell 1 rfl
  have a0_2 := a0.at_.cell 2 rfl
  have a0_3 := a0.at_.cell 3 rfl
  have a0_4 := a0.at_.cell 4 rfl
  have a0_5 := a0.at_.cell 5 rfl
  have a0_6 := a0.at_.cell 6 rfl
  have a0_7 := a0.at_.cell 7 rfl
  have a0_8 := a0.at_.cell 8 rfl
  have a0_9 := a0.at_.cell 9 rfl
  have a0_10 := a0.at_.cell 10 rfl
  go_enter Try.func4, Try.ntmps4
  go_wp2_with fail
  rw [← Hw.out]
  clear a0_0 a0_1 a0_2 a0_3 a0_4 a0_5 a0_6 a0_7 a0_8 a0_9 a0_10
  refine (sz_sf_yes f0 _ _ _ a0.rd (by omega) (by omega)).mono ?_
  rintro e w2 ⟨rfl, hb⟩
  replace a0 := a0.call hb
  replace a1 := a1.call hb
  replace Kw := belI_call Kw hb
  clear hb
  have z0 : ¬ ((1048576 : Int) - ((f0.data.length : Nat) : Int)) < 0 := by omega
  have a1_0 := a1.at_.cell 0 rfl
  have a1_1 := a1.at_.cell 1 rfl
  have a1_2 := a1.at_.cell 2 rfl
  have a1_3 := a1.at_.cell 3 rfl
  have a1_4 := a1.at_.cell 4 rfl
  have a1_5 := a1.at_.cell 5 rfl
  have a1_6 := a1.at_.cell 6 rfl
  have a1_7 := a1.at_.cell 7 rfl
  have a1_8 := a1.at_.cell 8 rfl
  have a1_9 := a1.at_.cell 9 rfl
  have a1_10 := a1.at_.cell 10 rfl
  go_wp2_with fail
  clear a1_0 a1_1 a1_2 a1_3 a1_4 a1_5 a1_6 a1_7 a1_8 a1_9 a1_10
  have q0 : (0 : Int) ≤ ((1048576 : Int) - ((f0.data.length : Nat) : Int)) := by omega
  have q1 : ((1048576 : Int) - ((f0.data.length : Nat) : Int)) < ((f1.data.length : Nat) : Int) := by omega
  refine (sz_sf_no f1 _ _ _ a1.rd q0 q1 (by omega)).mono ?_
  rintro e w3 ⟨rfl, hb⟩
  replace a0 := a0.call hb
  replace a1 := a1.call hb
  replace Kw := belI_call Kw hb
  clear hb
  go_wp2_with fail
  go_ret
  exact ⟨rfl, Kw⟩
 have Hn0 := Lib.hid (show f0.data.length ≤ 1048576 by omega)
 have Hn1 := Lib.hid (show f1.data.length ≤ 1048576 by omega)
 obtain ⟨q0, hq0⟩ : ∃ q, q = ssB f0 f1 := ⟨_, rfl⟩
 have PS := fun (W : World) (u0 : Value) (bs0 : List Nat) (k0 : repSf.R W f0 [.int .i64 f0.id, .int .i64 f0.x, .int .i64 f0.y, .int .i64 f0.w, .int .i64 f0.h, .int .i64 f0.alpha, .int .i64 f0.orient, .bool f0.vis, .int .i64 f0.bw, .int .i64 f0.bh, u0] bs0) (u1 : Value) (bs1 : List Nat) (k1 : repSf.R W f1 [.int .i64 f1.id, .int .i64 f1.x, .int .i64 f1.y, .int .i64 f1.w, .int .i64 f1.h, .int .i64 f1.alpha, .int .i64 f1.orient, .bool f1.vis, .int .i64 f1.bw, .int .i64 f1.bh, u1] bs1) => ssS f0 f1 u0 u1 W (repInts_rd (r_sf k0)) (repInts_rd (r_sf k1))
 have PI := fun (W : World) (u0 : Value) (bs0 : List Nat) (k0 : repSf.R W f0 [.int .i64 f0.id, .int .i64 f0.x, .int .i64 f0.y, .int .i64 f0.w, .int .i64 f0.h, .int .i64 f0.alpha, .int .i64 f0.orient, .bool f0.vis, .int .i64 f0.bw, .int .i64 f0.bh, u0] bs0) (u1 : Value) (bs1 : List Nat) (k1 : repSf.R W f1 [.int .i64 f1.id, .int .i64 f1.x, .int .i64 f1.y, .int .i64 f1.w, .int .i64 f1.h, .int .i64 f1.alpha, .int .i64 f1.orient, .bool f1.vis, .int .i64 f1.bw, .int .i64 f1.bh, u1] bs1) => ssI f0 f1 u0 u1 W (repInts_rd (r_sf k0)) (repInts_rd (r_sf k1))
 unfold SsAns at PS PI
 rw [← hq0] at PS PI
 have HS := Lib.hid PS
 have HI := Lib.hid PI
 clear PS PI hq0
 have a0_0 := a0.at_.cell 0 rfl
 have a0_1 := a0.at_.cell 1 rfl
 have a0_2 := a0.at_.cell 2 rfl
 have a0_3 := a0.at_.cell 3 rfl
 have a0_4 := a0.at_.cell 4 rfl
 have a0_5 := a0.at_.cell 5 rfl
 have a0_6 := a0.at_.cell 6 rfl
 have a0_7 := a0.at_.cell 7 rfl
 have a0_8 := a0.at_.cell 8 rfl
 have a0_9 := a0.at_.cell 9 rfl
 have a0_10 := a0.at_.cell 10 rfl
 go_enter Try.func4, Try.ntmps4
 go_wp2_with fail
 rw [← Hw.out]
 clear a0_0 a0_1 a0_2 a0_3 a0_4 a0_5 a0_6 a0_7 a0_8 a0_9 a0_10
 refine (sz_sf_yes f0 _ _ _ a0.rd (by omega) (by omega)).mono ?_
 rintro e w4 ⟨rfl, hb⟩
 replace a0 := a0.call hb
 replace a1 := a1.call hb
 replace Kw := belI_call Kw hb
 clear hb
 have z0 : ¬ ((1048576 : Int) - ((f0.data.length : Nat) : Int)) < 0 := by omega
 have a1_0 := a1.at_.cell 0 rfl
 have a1_1 := a1.at_.cell 1 rfl
 have a1_2 := a1.at_.cell 2 rfl
 have a1_3 := a1.at_.cell 3 rfl
 have a1_4 := a1.at_.cell 4 rfl
 have a1_5 := a1.at_.cell 5 rfl
 have a1_6 := a1.at_.cell 6 rfl
 have a1_7 := a1.at_.cell 7 rfl
 have a1_8 := a1.at_.cell 8 rfl
 have a1_9 := a1.at_.cell 9 rfl
 have a1_10 := a1.at_.cell 10 rfl
 go_wp2_with fail
 clear a1_0 a1_1 a1_2 a1_3 a1_4 a1_5 a1_6 a1_7 a1_8 a1_9 a1_10
 refine (sz_sf_yes f1 _ _ _ a1.rd (by omega) (by omega)).mono ?_
 rintro e w5 ⟨rfl, hb⟩
 replace a0 := a0.call hb
 replace a1 := a1.call hb
 replace Kw := belI_call Kw hb
 clear hb
 have z1 : ¬ (((1048576 : Int) - ((f0.data.length : Nat) : Int)) - ((f1.data.length : Nat) : Int)) < 0 := by omega
 go_upto_region 8 with fail
 refine wp_region_held_drew (S := fun W => Below w5.heap.size w5 W) (by kernel_rfl) (Below.refl _ _).drew (fun hS => ?_)
 refine tcH (i := 0) (v := .agg #[.int .i64 f0.id, .int .i64 f0.x, .int .i64 f0.y, .int .i64 f0.w, .int .i64 f0.h, .int .i64 f0.alpha, .int .i64 f0.orient, .bool f0.vis, .int .i64 f0.bw, .int .i64 f0.bh, .slice A0 f0.data.length c0]) rfl (by intro w' hSw; (try dsimp only at hSw); (have a0_0 := (a0.call hSw).at_.cell 0 rfl); (have a0_1 := (a0.call hSw).at_.cell 1 rfl); (have a0_2 := (a0.call hSw).at_.cell 2 rfl); (have a0_3 := (a0.call hSw).at_.cell 3 rfl); (have a0_4 := (a0.call hSw).at_.cell 4 rfl); (have a0_5 := (a0.call hSw).at_.cell 5 rfl); (have a0_6 := (a0.call hSw).at_.cell 6 rfl); (have a0_7 := (a0.call hSw).at_.cell 7 rfl); (have a0_8 := (a0.call hSw).at_.cell 8 rfl); (have a0_9 := (a0.call hSw).at_.cell 9 rfl); (have a0_10 := (a0.call hSw).at_.cell 10 rfl); (have a1_0 := (a1.call hSw).at_.cell 0 rfl); (have a1_1 := (a1.call hSw).at_.cell 1 rfl); (have a1_2 := (a1.call hSw).at_.cell 2 rfl); (have a1_3 := (a1.call hSw).at_.cell 3 rfl); (have a1_4 := (a1.call hSw).at_.cell 4 rfl); (have a1_5 := (a1.call hSw).at_.cell 5 rfl); (have a1_6 := (a1.call hSw).at_.cell 6 rfl); (have a1_7 := (a1.call hSw).at_.cell 7 rfl); (have a1_8 := (a1.call hSw).at_.cell 8 rfl); (have a1_9 := (a1.call hSw).at_.cell 9 rfl); (have a1_10 := (a1.call hSw).at_.cell 10 rfl); go_simp) ?_
 refine tcH (i := 2) (v := .agg #[.int .i64 f1.id, .int .i64 f1.x, .int .i64 f1.y, .int .i64 f1.w, .int .i64 f1.h, .int .i64 f1.alpha, .int .i64 f1.orient, .bool f1.vis, .int .i64 f1.bw, .int .i64 f1.bh, .slice A1 f1.data.length c1]) rfl (by intro w' hSw; (try dsimp only at hSw); (have a0_0 := (a0.call hSw).at_.cell 0 rfl); (have a0_1 := (a0.call hSw).at_.cell 1 rfl); (have a0_2 := (a0.call hSw).at_.cell 2 rfl); (have a0_3 := (a0.call hSw).at_.cell 3 rfl); (have a0_4 := (a0.call hSw).at_.cell 4 rfl); (have a0_5 := (a0.call hSw).at_.cell 5 rfl); (have a0_6 := (a0.call hSw).at_.cell 6 rfl); (have a0_7 := (a0.call hSw).at_.cell 7 rfl); (have a0_8 := (a0.call hSw).at_.cell 8 rfl); (have a0_9 := (a0.call hSw).at_.cell 9 rfl); (have a0_10 := (a0.call hSw).at_.cell 10 rfl); (have a1_0 := (a1.call hSw).at_.cell 0 rfl); (have a1_1 := (a1.call hSw).at_.cell 1 rfl); (have a1_2 := (a1.call hSw).at_.cell 2 rfl); (have a1_3 := (a1.call hSw).at_.cell 3 rfl); (have a1_4 := (a1.call hSw).at_.cell 4 rfl); (have a1_5 := (a1.call hSw).at_.cell 5 rfl); (have a1_6 := (a1.call hSw).at_.cell 6 rfl); (have a1_7 := (a1.call hSw).at_.cell 7 rfl); (have a1_8 := (a1.call hSw).at_.cell 8 rfl); (have a1_9 := (a1.call hSw).at_.cell 9 rfl); (have a1_10 := (a1.call hSw).at_.cell 10 rfl); go_simp) ?_
 (try simp only [Act.put]); (try simp only [zPa]); (try simp only [zPb, zPc])
 refine wpAnyH_ready (rs := [1]) (by kernel_rfl) (by simp) ?_
 refine (AllReadyH.cons rfl (fun K hK => ?_) AllReadyH.nil)
 ·rw [if_pos (by kernel_rfl)]
  (try simp only [zGa]); (try simp only [zGb]); (try simp only [zGc])
  go_simp
  with_reducible refine (to_sf f0 _ _ (a0.call hS).rd Hn0.out).mono ?_
  rintro e W' ⟨uo, bs_u1, rfl, u1, hb⟩
  obtain ⟨A_u1, c_u1, he⟩ := form_sf u1.r
  subst he
  replace u1 := u1.mono hS.size
  dsimp only
  refine hK.out _ _ (belI_call hS hb) (fun hS => ?_)
  clear hK
  (try simp only [Act.put]); (try simp only [zPa]); (try simp only [zPb, zPc])
  refine wpAnyH_ready (rs := [3]) (by kernel_rfl) (by simp) ?_
  refine (AllReadyH.cons rfl (fun K hK => ?_) AllReadyH.nil)
  ·rw [if_pos (by kernel_rfl)]
   (try simp only [zGa]); (try simp only [zGb]); (try simp only [zGc])
   go_simp
   with_reducible refine (to_sf f1 _ _ (a1.call hS).rd Hn1.out).mono ?_
   rintro e W' ⟨uo, bs_u2, rfl, u2, hb⟩
   obtain ⟨A_u2, c_u2, he⟩ := form_sf u2.r
   subst he
   replace u2 := u2.mono hS.size
   dsimp only
   have u1 := u1.call hb
   refine hK.out _ _ (belI_call hS hb) (fun hS => ?_)
   clear hK
   (try simp only [Act.put]); (try simp only [zPa]); (try simp only [zPb, zPc])
   refine wpAnyH_ready (rs := [4]) (by kernel_rfl) (by simp) ?_
   refine (AllReadyH.cons rfl (fun K hK => ?_) AllReadyH.nil)
   ·rw [if_pos (by kernel_rfl)]
    (try simp only [zGa]); (try simp only [zGb]); (try simp only [zGc])
    go_simp
    with_reducible refine (HS.out _ _ _ u1.r _ _ u2.r).mono ?_
    rintro e W' ⟨rfl, hb⟩
    dsimp only
    have u1 := u1.call hb
    have u2 := u2.call hb
    refine hK.out _ _ (belI_call hS hb) (fun hS => ?_)
    clear hK
    (try simp only [Act.put]); (try simp only [zPa]); (try simp only [zPb, zPc])
    refine tcH (i := 5) (v := .bool q0) rfl (by intro w' hSw; (try dsimp only at hSw); (have a0_0 := (a0.call hSw).at_.cell 0 rfl); (have a0_1 := (a0.call hSw).at_.cell 1 rfl); (have a0_2 := (a0.call hSw).at_.cell 2 rfl); (have a0_3 := (a0.call hSw).at_.cell 3 rfl); (have a0_4 := (a0.call hSw).at_.cell 4 rfl); (have a0_5 := (a0.call hSw).at_.cell 5 rfl); (have a0_6 := (a0.call hSw).at_.cell 6 rfl); (have a0_7 := (a0.call hSw).at_.cell 7 rfl); (have a0_8 := (a0.call hSw).at_.cell 8 rfl); (have a0_9 := (a0.call hSw).at_.cell 9 rfl); (have a0_10 := (a0.call hSw).at_.cell 10 rfl); (have a1_0 := (a1.call hSw).at_.cell 0 rfl); (have a1_1 := (a1.call hSw).at_.cell 1 rfl); (have a1_2 := (a1.call hSw).at_.cell 2 rfl); (have a1_3 := (a1.call hSw).at_.cell 3 rfl); (have a1_4 := (a1.call hSw).at_.cell 4 rfl); (have a1_5 := (a1.call hSw).at_.cell 5 rfl); (have a1_6 := (a1.call hSw).at_.cell 6 rfl); (have a1_7 := (a1.call hSw).at_.cell 7 rfl); (have a1_8 := (a1.call hSw).at_.cell 8 rfl); (have a1_9 := (a1.call hSw).at_.cell 9 rfl); (have a1_10 := (a1.call hSw).at_.cell 10 rfl); go_simp) ?_
    refine wpAnyH_done (by kernel_rfl) ?_ _
    have hb := hS
    replace a0 := a0.call hb
    replace a1 := a1.call hb
    replace Kw := belI_call Kw hb
    clear hb hS
    clear u1
    clear u2
    obtain ⟨w6, hWy⟩ : ∃ w6, w6 = W' := ⟨_, rfl⟩
    subst hWy
    have a0_0 := a0.at_.cell 0 rfl
    have a0_1 := a0.at_.cell 1 rfl
    have a0_2 := a0.at_.cell 2 rfl
    have a0_3 := a0.at_.cell 3 rfl
    have a0_4 := a0.at_.cell 4 rfl
    have a0_5 := a0.at_.cell 5 rfl
    have a0_6 := a0.at_.cell 6 rfl
    have a0_7 := a0.at_.cell 7 rfl
    have a0_8 := a0.at_.cell 8 rfl
    have a0_9 := a0.at_.cell 9 rfl
    have a0_10 := a0.at_.cell 10 rfl
    go_wp2_with fail
    clear a0_0 a0_1 a0_2 a0_3 a0_4 a0_5 a0_6 a0_7 a0_8 a0_9 a0_10
    refine (to_sf f0 _ _ a0.rd Hn0.out).mono ?_
    rintro e w7 ⟨uo, bs_u3, rfl, u3, hb⟩
    obtain ⟨A_u3, c_u3, he⟩ := form_sf u3.r
    subst he
    have hlo_V4 := Lib.hid Kw.size
    have hl_a0_V4 := Lib.hid a0.lt
    have hl_a1_V4 := Lib.hid a1.lt
    have V4 := VarB.born hb u3 48
    replace hb := belI_call hb (belI_box w7 (.cells #[.int .i64 f0.id, .int .i64 f0.x, .int .i64 f0.y, .int .i64 f0.w, .int .i64 f0.h, .int .i64 f0.alpha, .int .i64 f0.orient, .bool f0.vis, .int .i64 f0.bw, .int .i64 f0.bh, .slice A_u3 f0.data.length c_u3] 48))
    replace a0 := a0.call hb
    replace a1 := a1.call hb
    replace Kw := belI_call Kw hb
    clear hb u3
    have a1_0 := a1.at_.cell 0 rfl
    have a1_1 := a1.at_.cell 1 rfl
    have a1_2 := a1.at_.cell 2 rfl
    have a1_3 := a1.at_.cell 3 rfl
    have a1_4 := a1.at_.cell 4 rfl
    have a1_5 := a1.at_.cell 5 rfl
    have a1_6 := a1.at_.cell 6 rfl
    have a1_7 := a1.at_.cell 7 rfl
    have a1_8 := a1.at_.cell 8 rfl
    have a1_9 := a1.at_.cell 9 rfl
    have a1_10 := a1.at_.cell 10 rfl
    go_wp2_with fail
    clear a1_0 a1_1 a1_2 a1_3 a1_4 a1_5 a1_6 a1_7 a1_8 a1_9 a1_10
    obtain ⟨w8, hWx⟩ : ∃ w8, w8 = (w7.alloc (.cells #[.int .i64 f0.id, .int .i64 f0.x, .int .i64 f0.y, .int .i64 f0.w, .int .i64 f0.h, .int .i64 f0.alpha, .int .i64 f0.orient, .bool f0.vis, .int .i64 f0.bw, .int .i64 f0.bh, .slice A_u3 f0.data.length c_u3] 48)) := ⟨_, rfl⟩
    rw [← hWx]
    rw [← hWx] at Kw a0 a1 V4
    clear hWx
    refine (to_sf f1 _ _ a1.rd Hn1.out).mono ?_
    rintro e w9 ⟨uo, bs_u5, rfl, u5, hb⟩
    obtain ⟨A_u5, c_u5, he⟩ := form_sf u5.r
    subst he
    have hs_V4_V6 := Lib.hid V4.hs
    have hlo_V6 := Lib.hid Kw.size
    have hl_a0_V6 := Lib.hid a0.lt
    have hl_a1_V6 := Lib.hid a1.lt
    have V6 := VarB.born hb u5 48
    replace hb := belI_call hb (belI_box w9 (.cells #[.int .i64 f1.id, .int .i64 f1.x, .int .i64 f1.y, .int .i64 f1.w, .int .i64 f1.h, .int .i64 f1.alpha, .int .i64 f1.orient, .bool f1.vis, .int .i64 f1.bw, .int .i64 f1.bh, .slice A_u5 f1.data.length c_u5] 48))
    replace a0 := a0.call hb
    replace a1 := a1.call hb
    replace V4 := V4.call hb
    replace Kw := belI_call Kw hb
    clear hb u5
    have V4_0 := V4.at_.cell 0 rfl
    have V4_1 := V4.at_.cell 1 rfl
    have V4_2 := V4.at_.cell 2 rfl
    have V4_3 := V4.at_.cell 3 rfl
    have V4_4 := V4.at_.cell 4 rfl
    have V4_5 := V4.at_.cell 5 rfl
    have V4_6 := V4.at_.cell 6 rfl
    have V4_7 := V4.at_.cell 7 rfl
    have V4_8 := V4.at_.cell 8 rfl
    have V4_9 := V4.at_.cell 9 rfl
    have V4_10 := V4.at_.cell 10 rfl
    have V6_0 := V6.at_.cell 0 rfl
    have V6_1 := V6.at_.cell 1 rfl
    have V6_2 := V6.at_.cell 2 rfl
    have V6_3 := V6.at_.cell 3 rfl
    have V6_4 := V6.at_.cell 4 rfl
    have V6_5 := V6.at_.cell 5 rfl
    have V6_6 := V6.at_.cell 6 rfl
    have V6_7 := V6.at_.cell 7 rfl
    have V6_8 := V6.at_.cell 8 rfl
    have V6_9 := V6.at_.cell 9 rfl
    have V6_10 := V6.at_.cell 10 rfl
    go_wp2_with fail
    clear V4_0 V4_1 V4_2 V4_3 V4_4 V4_5 V4_6 V4_7 V4_8 V4_9 V4_10 V6_0 V6_1 V6_2 V6_3 V6_4 V6_5 V6_6 V6_7 V6_8 V6_9 V6_10
    obtain ⟨w10, hWx⟩ : ∃ w10, w10 = (w9.alloc (.cells #[.int .i64 f1.id, .int .i64 f1.x, .int .i64 f1.y, .int .i64 f1.w, .int .i64 f1.h, .int .i64 f1.alpha, .int .i64 f1.orient, .bool f1.vis, .int .i64 f1.bw, .int .i64 f1.bh, .slice A_u5 f1.data.length c_u5] 48)) := ⟨_, rfl⟩
    rw [← hWx]
    rw [← hWx] at Kw a0 a1 V4 V6
    clear hWx
    refine (HI.out _ _ _ V4.r _ _ V6.r).mono ?_
    rintro e w11 ⟨rfl, hb⟩
    replace a0 := a0.call hb
    replace a1 := a1.call hb
    replace V4 := V4.call hb
    replace V6 := V6.call hb
    replace Kw := belI_call Kw hb
    clear hb
    go_upto_region 14 with fail
    refine wp_region_held_drew (S := fun W => Below w11.heap.size w11 W) (by kernel_rfl) (Below.refl _ _).drew (fun hS => ?_)
    refine tcH (i := 0) (v := .agg #[.int .i64 f0.id, .int .i64 f0.x, .int .i64 f0.y, .int .i64 f0.w, .int .i64 f0.h, .int .i64 f0.alpha, .int .i64 f0.orient, .bool f0.vis, .int .i64 f0.bw, .int .i64 f0.bh, .slice A_u3 f0.data.length c_u3]) rfl (by intro w' hSw; (try dsimp only at hSw); (have V4_0 := (V4.call hSw).at_.cell 0 rfl); (have V4_1 := (V4.call hSw).at_.cell 1 rfl); (have V4_2 := (V4.call hSw).at_.cell 2 rfl); (have V4_3 := (V4.call hSw).at_.cell 3 rfl); (have V4_4 := (V4.call hSw).at_.cell 4 rfl); (have V4_5 := (V4.call hSw).at_.cell 5 rfl); (have V4_6 := (V4.call hSw).at_.cell 6 rfl); (have V4_7 := (V4.call hSw).at_.cell 7 rfl); (have V4_8 := (V4.call hSw).at_.cell 8 rfl); (have V4_9 := (V4.call hSw).at_.cell 9 rfl); (have V4_10 := (V4.call hSw).at_.cell 10 rfl); (have a0_0 := (a0.call hSw).at_.cell 0 rfl); (have a0_1 := (a0.call hSw).at_.cell 1 rfl); (have a0_2 := (a0.call hSw).at_.cell 2 rfl); (have a0_3 := (a0.call hSw).at_.cell 3 rfl); (have a0_4 := (a0.call hSw).at_.cell 4 rfl); (have a0_5 := (a0.call hSw).at_.cell 5 rfl); (have a0_6 := (a0.call hSw).at_.cell 6 rfl); (have a0_7 := (a0.call hSw).at_.cell 7 rfl); (have a0_8 := (a0.call hSw).at_.cell 8 rfl); (have a0_9 := (a0.call hSw).at_.cell 9 rfl); (have a0_10 := (a0.call hSw).at_.cell 10 rfl); go_simp) ?_
    refine tcH (i := 1) (v := .agg #[.int .i64 f0.id, .int .i64 f0.x, .int .i64 f0.y, .int .i64 f0.w, .int .i64 f0.h, .int .i64 f0.alpha, .int .i64 f0.orient, .bool f0.vis, .int .i64 f0.bw, .int .i64 f0.bh, .slice A0 f0.data.length c0]) rfl (by intro w' hSw; (try dsimp only at hSw); (have V4_0 := (V4.call hSw).at_.cell 0 rfl); (have V4_1 := (V4.call hSw).at_.cell 1 rfl); (have V4_2 := (V4.call hSw).at_.cell 2 rfl); (have V4_3 := (V4.call hSw).at_.cell 3 rfl); (have V4_4 := (V4.call hSw).at_.cell 4 rfl); (have V4_5 := (V4.call hSw).at_.cell 5 rfl); (have V4_6 := (V4.call hSw).at_.cell 6 rfl); (have V4_7 := (V4.call hSw).at_.cell 7 rfl); (have V4_8 := (V4.call hSw).at_.cell 8 rfl); (have V4_9 := (V4.call hSw).at_.cell 9 rfl); (have V4_10 := (V4.call hSw).at_.cell 10 rfl); (have a0_0 := (a0.call hSw).at_.cell 0 rfl); (have a0_1 := (a0.call hSw).at_.cell 1 rfl); (have a0_2 := (a0.call hSw).at_.cell 2 rfl); (have a0_3 := (a0.call hSw).at_.cell 3 rfl); (have a0_4 := (a0.call hSw).at_.cell 4 rfl); (have a0_5 := (a0.call hSw).at_.cell 5 rfl); (have a0_6 := (a0.call hSw).at_.cell 6 rfl); (have a0_7 := (a0.call hSw).at_.cell 7 rfl); (have a0_8 := (a0.call hSw).at_.cell 8 rfl); (have a0_9 := (a0.call hSw).at_.cell 9 rfl); (have a0_10 := (a0.call hSw).at_.cell 10 rfl); go_simp) ?_
    (try simp only [Act.put]); (try simp only [zPa]); (try simp only [zPb, zPc])
    refine wpAnyH_ready (rs := [2]) (by kernel_rfl) (by simp) ?_
    refine (AllReadyH.cons rfl (fun K hK => ?_) AllReadyH.nil)
    ·rw [if_pos (by kernel_rfl)]
     (try simp only [zGa]); (try simp only [zGb]); (try simp only [zGc])
     go_simp
     with_reducible refine (to_sf f0 _ _ (a0.call hS).rd Hn0.out).mono ?_
     rintro e W' ⟨uo, bs_u7, rfl, u7, hb⟩
     obtain ⟨A_u7, c_u7, he⟩ := form_sf u7.r
     subst he
     replace u7 := u7.mono hS.size
     dsimp only
     refine hK.out _ _ (belI_call hS hb) (fun hS => ?_)
     clear hK
     (try simp only [Act.put]); (try simp only [zPa]); (try simp only [zPb, zPc])
     refine wpAnyH_ready (rs := [3]) (by kernel_rfl) (by simp) ?_
     refine (AllReadyH.cons rfl (fun K hK => ?_) AllReadyH.nil)
     ·rw [if_pos (by kernel_rfl)]
      (try simp only [zGa]); (try simp only [zGb]); (try simp only [zGc])
      go_simp
      with_reducible refine (eq_sf f0 _ _ _ _ _ (V4.call hS).r u7.r).mono ?_
      rintro e W' ⟨rfl, hb⟩
      dsimp only
      have u7 := u7.call hb
      refine hK.out _ _ (belI_call hS hb) (fun hS => ?_)
      clear hK
      (try simp only [Act.put]); (try simp only [zPa]); (try simp only [zPb, zPc])
      refine tcH (i := 4) (v := .bool false) rfl (by intro w' hSw; (try dsimp only at hSw); (have V4_0 := (V4.call hSw).at_.cell 0 rfl); (have V4_1 := (V4.call hSw).at_.cell 1 rfl); (have V4_2 := (V4.call hSw).at_.cell 2 rfl); (have V4_3 := (V4.call hSw).at_.cell 3 rfl); (have V4_4 := (V4.call hSw).at_.cell 4 rfl); (have V4_5 := (V4.call hSw).at_.cell 5 rfl); (have V4_6 := (V4.call hSw).at_.cell 6 rfl); (have V4_7 := (V4.call hSw).at_.cell 7 rfl); (have V4_8 := (V4.call hSw).at_.cell 8 rfl); (have V4_9 := (V4.call hSw).at_.cell 9 rfl); (have V4_10 := (V4.call hSw).at_.cell 10 rfl); (have a0_0 := (a0.call hSw).at_.cell 0 rfl); (have a0_1 := (a0.call hSw).at_.cell 1 rfl); (have a0_2 := (a0.call hSw).at_.cell 2 rfl); (have a0_3 := (a0.call hSw).at_.cell 3 rfl); (have a0_4 := (a0.call hSw).at_.cell 4 rfl); (have a0_5 := (a0.call hSw).at_.cell 5 rfl); (have a0_6 := (a0.call hSw).at_.cell 6 rfl); (have a0_7 := (a0.call hSw).at_.cell 7 rfl); (have a0_8 := (a0.call hSw).at_.cell 8 rfl); (have a0_9 := (a0.call hSw).at_.cell 9 rfl); (have a0_10 := (a0.call hSw).at_.cell 10 rfl); go_simp) ?_
      refine wpAnyH_done (by kernel_rfl) ?_ _
      have hb := hS
      replace a0 := a0.call hb
      replace a1 := a1.call hb
      replace V4 := V4.call hb
      replace V6 := V6.call hb
      replace Kw := belI_call Kw hb
      clear hb hS
      clear u7
      obtain ⟨w12, hWy⟩ : ∃ w12, w12 = W' := ⟨_, rfl⟩
      subst hWy
      go_upto_region 16 with fail
      refine wp_region_held_drew (S := fun W => Below w12.heap.size w12 W) (by kernel_rfl) (Below.refl _ _).drew (fun hS => ?_)
      refine tcH (i := 0) (v := .agg #[.int .i64 f1.id, .int .i64 f1.x, .int .i64 f1.y, .int .i64 f1.w, .int .i64 f1.h, .int .i64 f1.alpha, .int .i64 f1.orient, .bool f1.vis, .int .i64 f1.bw, .int .i64 f1.bh, .slice A_u5 f1.data.length c_u5]) rfl (by intro w' hSw; (try dsimp only at hSw); (have V6_0 := (V6.call hSw).at_.cell 0 rfl); (have V6_1 := (V6.call hSw).at_.cell 1 rfl); (have V6_2 := (V6.call hSw).at_.cell 2 rfl); (have V6_3 := (V6.call hSw).at_.cell 3 rfl); (have V6_4 := (V6.call hSw).at_.cell 4 rfl); (have V6_5 := (V6.call hSw).at_.cell 5 rfl); (have V6_6 := (V6.call hSw).at_.cell 6 rfl); (have V6_7 := (V6.call hSw).at_.cell 7 rfl); (have V6_8 := (V6.call hSw).at_.cell 8 rfl); (have V6_9 := (V6.call hSw).at_.cell 9 rfl); (have V6_10 := (V6.call hSw).at_.cell 10 rfl); (have a1_0 := (a1.call hSw).at_.cell 0 rfl); (have a1_1 := (a1.call hSw).at_.cell 1 rfl); (have a1_2 := (a1.call hSw).at_.cell 2 rfl); (have a1_3 := (a1.call hSw).at_.cell 3 rfl); (have a1_4 := (a1.call hSw).at_.cell 4 rfl); (have a1_5 := (a1.call hSw).at_.cell 5 rfl); (have a1_6 := (a1.call hSw).at_.cell 6 rfl); (have a1_7 := (a1.call hSw).at_.cell 7 rfl); (have a1_8 := (a1.call hSw).at_.cell 8 rfl); (have a1_9 := (a1.call hSw).at_.cell 9 rfl); (have a1_10 := (a1.call hSw).at_.cell 10 rfl); go_simp) ?_
      refine tcH (i := 1) (v := .agg #[.int .i64 f1.id, .int .i64 f1.x, .int .i64 f1.y, .int .i64 f1.w, .int .i64 f1.h, .int .i64 f1.alpha, .int .i64 f1.orient, .bool f1.vis, .int .i64 f1.bw, .int .i64 f1.bh, .slice A1 f1.data.length c1]) rfl (by intro w' hSw; (try dsimp only at hSw); (have V6_0 := (V6.call hSw).at_.cell 0 rfl); (have V6_1 := (V6.call hSw).at_.cell 1 rfl); (have V6_2 := (V6.call hSw).at_.cell 2 rfl); (have V6_3 := (V6.call hSw).at_.cell 3 rfl); (have V6_4 := (V6.call hSw).at_.cell 4 rfl); (have V6_5 := (V6.call hSw).at_.cell 5 rfl); (have V6_6 := (V6.call hSw).at_.cell 6 rfl); (have V6_7 := (V6.call hSw).at_.cell 7 rfl); (have V6_8 := (V6.call hSw).at_.cell 8 rfl); (have V6_9 := (V6.call hSw).at_.cell 9 rfl); (have V6_10 := (V6.call hSw).at_.cell 10 rfl); (have a1_0 := (a1.call hSw).at_.cell 0 rfl); (have a1_1 := (a1.call hSw).at_.cell 1 rfl); (have a1_2 := (a1.call hSw).at_.cell 2 rfl); (have a1_3 := (a1.call hSw).at_.cell 3 rfl); (have a1_4 := (a1.call hSw).at_.cell 4 rfl); (have a1_5 := (a1.call hSw).at_.cell 5 rfl); (have a1_6 := (a1.call hSw).at_.cell 6 rfl); (have a1_7 := (a1.call hSw).at_.cell 7 rfl); (have a1_8 := (a1.call hSw).at_.cell 8 rfl); (have a1_9 := (a1.call hSw).at_.cell 9 rfl); (have a1_10 := (a1.call hSw).at_.cell 10 rfl); go_simp) ?_
      (try simp only [Act.put]); (try simp only [zPa]); (try simp only [zPb, zPc])
      refine wpAnyH_ready (rs := [2]) (by kernel_rfl) (by simp) ?_
      refine (AllReadyH.cons rfl (fun K hK => ?_) AllReadyH.nil)
      ·rw [if_pos (by kernel_rfl)]
       (try simp only [zGa]); (try simp only [zGb]); (try simp only [zGc])
       go_simp
       with_reducible refine (to_sf f1 _ _ (a1.call hS).rd Hn1.out).mono ?_
       rintro e W' ⟨uo, bs_u8, rfl, u8, hb⟩
       obtain ⟨A_u8, c_u8, he⟩ := form_sf u8.r
       subst he
       replace u8 := u8.mono hS.size
       dsimp only
       refine hK.out _ _ (belI_call hS hb) (fun hS => ?_)
       clear hK
       (try simp only [Act.put]); (try simp only [zPa]); (try simp only [zPb, zPc])
       refine wpAnyH_ready (rs := [3]) (by kernel_rfl) (by simp) ?_
       refine (AllReadyH.cons rfl (fun K hK => ?_) AllReadyH.nil)
       ·rw [if_pos (by kernel_rfl)]
        (try simp only [zGa]); (try simp only [zGb]); (try simp only [zGc])
        go_simp
        with_reducible refine (eq_sf f1 _ _ _ _ _ (V6.call hS).r u8.r).mono ?_
        rintro e W' ⟨rfl, hb⟩
        dsimp only
        have u8 := u8.call hb
        refine hK.out _ _ (belI_call hS hb) (fun hS => ?_)
        clear hK
        (try simp only [Act.put]); (try simp only [zPa]); (try simp only [zPb, zPc])
        refine tcH (i := 4) (v := .bool false) rfl (by intro w' hSw; (try dsimp only at hSw); (have V6_0 := (V6.call hSw).at_.cell 0 rfl); (have V6_1 := (V6.call hSw).at_.cell 1 rfl); (have V6_2 := (V6.call hSw).at_.cell 2 rfl); (have V6_3 := (V6.call hSw).at_.cell 3 rfl); (have V6_4 := (V6.call hSw).at_.cell 4 rfl); (have V6_5 := (V6.call hSw).at_.cell 5 rfl); (have V6_6 := (V6.call hSw).at_.cell 6 rfl); (have V6_7 := (V6.call hSw).at_.cell 7 rfl); (have V6_8 := (V6.call hSw).at_.cell 8 rfl); (have V6_9 := (V6.call hSw).at_.cell 9 rfl); (have V6_10 := (V6.call hSw).at_.cell 10 rfl); (have a1_0 := (a1.call hSw).at_.cell 0 rfl); (have a1_1 := (a1.call hSw).at_.cell 1 rfl); (have a1_2 := (a1.call hSw).at_.cell 2 rfl); (have a1_3 := (a1.call hSw).at_.cell 3 rfl); (have a1_4 := (a1.call hSw).at_.cell 4 rfl); (have a1_5 := (a1.call hSw).at_.cell 5 rfl); (have a1_6 := (a1.call hSw).at_.cell 6 rfl); (have a1_7 := (a1.call hSw).at_.cell 7 rfl); (have a1_8 := (a1.call hSw).at_.cell 8 rfl); (have a1_9 := (a1.call hSw).at_.cell 9 rfl); (have a1_10 := (a1.call hSw).at_.cell 10 rfl); go_simp) ?_
        refine wpAnyH_done (by kernel_rfl) ?_ _
        have hb := hS
        replace a0 := a0.call hb
        replace a1 := a1.call hb
        replace V4 := V4.call hb
        replace V6 := V6.call hb
        replace Kw := belI_call Kw hb
        clear hb hS
        clear u8
        obtain ⟨w13, hWy⟩ : ∃ w13, w13 = W' := ⟨_, rfl⟩
        subst hWy
        go_wp2_with fail
        go_ret
        exact ⟨rfl, Kw⟩
end Go.Proofs.Ytdgagooldlnpeaa
