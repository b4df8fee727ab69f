/- The walk of the law FnExactSurfaceRect: it returns true for every surface. -/
import Derived.Test.YtflehkbalnikiaaRd
import Derived.Test.YtflehkbalnikiaaIntR
import Derived.Test.YtflehkbalnikiaaImR
import Derived.Test.YtflehkbalnikiaaRep
import Derived.Test.YtflehkbalnikiaaBk
import Derived.Test.YtflehkbalnikiaaVar
import Derived.Test.YtflehkbalnikiaaPixM
import Derived.Test.YtflehkbalnikiaaSfM
import Derived.Test.YtflehkbalnikiaaBlk4
import Derived.Test.YtflehkbalnikiaaHasC
import Derived.Test.YtflehkbalnikiaaOriC
import Derived.Test.YtflehkbalnikiaaSfI
import Derived.Test.YtflehkbalnikiaaLk
import Derived.Test.YtflehkbalnikiaaLkW
import Derived.Test.YtflehkbalnikiaaOriQ
import Derived.Test.YtflehkbalnikiaaSfR
import Derived.Test.YtflehkbalnikiaaProg
import Derived.WalkKit
import Derived.ProofKit
import Derived.OpenShut
import Derived.WalkLawsBesides
import Derived.WalkSpells
import Derived.ShutString
import Derived.ChangeOld
import Derived.Below
import Derived.Lib.Hide
import Derived.BigQuiet
import Derived.Deep.QuietTactic
import Derived.Maps.AppendAt
import Derived.Deep.OwnRows
import Derived.Handy
import Derived.Deep.Draws
import Derived.OwnWalk
import Derived.Deep.AppendLies
import Derived.Deep.LoopGhost
import Derived.Deep.Onto
import Derived.Deep.MidRow
import Derived.Deep.WholeRow
import Derived.Laws.BitsAllLaws
import Derived.Lib.QuoteBits
import Derived.Deep.RegionHeld3
import Derived.Deep.DeepCutAuto
import Derived.Test.YtflehkbalnikiaaShelf
import Derived.Laws.CopyOwn
import Derived.Deep.RegionLaw
import Derived.Great.BuildSlice
namespace Go.Proofs.Ytflehkbalnikiaa
open Go.RowKit
set_option maxHeartbeats 8000000 in
set_option maxRecDepth 100000 in
theorem walk_FnExactSurfaceRect (f0 : Sf) (d0 : Value) (w : World) (h0 : wkSf.R w f0 [.int .i64 f0.id, .int .i64 f0.x, .int .i64 f0.y, .int .i64 f0.w, .int .i64 f0.h, .int .i64 f0.alpha, .int .i64 f0.orient, .bool f0.vis, .int .i64 f0.bw, .int .i64 f0.bh, d0]) :
    Calls Try.prog 7 #[.agg #[.int .i64 f0.id, .int .i64 f0.x, .int .i64 f0.y, .int .i64 f0.w, .int .i64 f0.h, .int .i64 f0.alpha, .int .i64 f0.orient, .bool f0.vis, .int .i64 f0.bw, .int .i64 f0.bh, d0]] w fun e w' => e = .returned (.bool true) ∧ Below w.heap.size w w' := by
  obtain ⟨A0, c0, rfl⟩ := wform_sf h0
  have O0 := Lib.hid h0
  have Kw := Below.refl w.heap.size w
  have hb0 := belI_box w (.cells #[.int .i64 f0.id, .int .i64 f0.x, .int .i64 f0.y, .int .i64 f0.w, .int .i64 f0.h, .int .i64 f0.alpha, .int .i64 f0.orient, .bool f0.vis, .int .i64 f0.bw, .int .i64 f0.bh, .slice A0 f0.data.length c0] 47)
  have a0 : ArgB wkSf 47 (w.heap.size) f0 [.int .i64 f0.id, .int .i64 f0.x, .int .i64 f0.y, .int .i64 f0.w, .int .i64 f0.h, .int .i64 f0.alpha, .int .i64 f0.orient, .bool f0.vis, .int .i64 f0.bw, .int .i64 f0.bh, .slice A0 f0.data.length c0] (w.alloc (.cells #[.int .i64 f0.id, .int .i64 f0.x, .int .i64 f0.y, .int .i64 f0.w, .int .i64 f0.h, .int .i64 f0.alpha, .int .i64 f0.orient, .bool f0.vis, .int .i64 f0.bw, .int .i64 f0.bh, .slice A0 f0.data.length c0] 47)) := ArgB.bornAt (w := w) (by simp) (wkSf.call h0 Kw) _
  replace Kw := belI_call Kw hb0
  clear hb0
  obtain ⟨w0, hw0⟩ : ∃ w0, w0 = (w.alloc (.cells #[.int .i64 f0.id, .int .i64 f0.x, .int .i64 f0.y, .int .i64 f0.w, .int .i64 f0.h, .int .i64 f0.alpha, .int .i64 f0.orient, .bool f0.vis, .int .i64 f0.bw, .int .i64 f0.bh, .slice A0 f0.data.length c0] 47)) := ⟨_, rfl⟩
  rw [← hw0] at Kw a0
  have Hw := Lib.hid hw0
  clear hw0 h0
  by_cases g0 : f0.data.length ≤ 1048576
  rotate_left
  · have g' : ¬ f0.data.length ≤ 1048576 := g0
    have a0_0 := a0.at_.cell 0 rfl
    have a0_1 := a0.at_.cell 1 rfl
    have a0_2 := a0.at_.cell 2 rfl
    have a0_3 := a0.at_.cell 3 rfl
    have a0_4 := a0.at_.cell 4 rfl
    have a0_5 := a0.at_.cell 5 rfl
    have a0_6 := a0.at_.cell 6 rfl
    have a0_7 := a0.at_.cell 7 rfl
    have a0_8 := a0.at_.cell 8 rfl
    have a0_9 := a0.at_.cell 9 rfl
    have a0_10 := a0.at_.cell 10 rfl
    go_enter Try.func7, Try.ntmps7
    go_wp2_with fail
    rw [← Hw.out]
    clear a0_0 a0_1 a0_2 a0_3 a0_4 a0_5 a0_6 a0_7 a0_8 a0_9 a0_10
    have q0 : (0 : Int) ≤ (1048576 : Int) := by omega
    have q1 : (1048576 : Int) < ((f0.data.length : Nat) : Int) := by omega
    refine (sz_sf_no f0 _ _ _ a0.rd q0 q1 (by omega)).mono ?_
    rintro e w1 ⟨rfl, hb⟩
    replace a0 := a0.call hb
    replace Kw := belI_call Kw hb
    clear hb
    go_wp2_with fail
    go_ret
    exact ⟨rfl, Kw⟩
  have Hn0 := Lib.hid (show f0.data.length ≤ 1048576 by omega)
  obtain ⟨q0, hq0⟩ : ∃ q, q = sfRect f0 := ⟨_, rfl⟩
  have PS := fun (W : World) (u0 : Value) (bs0 : List Nat) (k0 : repSf.R W f0 [.int .i64 f0.id, .int .i64 f0.x, .int .i64 f0.y, .int .i64 f0.w, .int .i64 f0.h, .int .i64 f0.alpha, .int .i64 f0.orient, .bool f0.vis, .int .i64 f0.bw, .int .i64 f0.bh, u0] bs0) => srS f0 u0 W (repInts_rd (r_sf k0))
  have PI := fun (W : World) (u0 : Value) (bs0 : List Nat) (k0 : repSf.R W f0 [.int .i64 f0.id, .int .i64 f0.x, .int .i64 f0.y, .int .i64 f0.w, .int .i64 f0.h, .int .i64 f0.alpha, .int .i64 f0.orient, .bool f0.vis, .int .i64 f0.bw, .int .i64 f0.bh, u0] bs0) => srI f0 u0 W (repInts_rd (r_sf k0))
  unfold SrAns RcAns at PS PI
  rw [← hq0] at PS PI
  have HS := Lib.hid PS
  have HI := Lib.hid PI
  clear PS PI hq0
  have a0_0 := a0.at_.cell 0 rfl
  have a0_1 := a0.at_.cell 1 rfl
  have a0_2 := a0.at_.cell 2 rfl
  have a0_3 := a0.at_.cell 3 rfl
  have a0_4 := a0.at_.cell 4 rfl
  have a0_5 := a0.at_.cell 5 rfl
  have a0_6 := a0.at_.cell 6 rfl
  have a0_7 := a0.at_.cell 7 rfl
  have a0_8 := a0.at_.cell 8 rfl
  have a0_9 := a0.at_.cell 9 rfl
  have a0_10 := a0.at_.cell 10 rfl
  go_enter Try.func7, Try.ntmps7
  go_wp2_with fail
  rw [← Hw.out]
  clear a0_0 a0_1 a0_2 a0_3 a0_4 a0_5 a0_6 a0_7 a0_8 a0_9 a0_10
  refine (sz_sf_yes f0 _ _ _ a0.rd (by omega) (by omega)).mono ?_
  rintro e w2 ⟨rfl, hb⟩
  replace a0 := a0.call hb
  replace Kw := belI_call Kw hb
  clear hb
  have z0 : ¬ ((1048576 : Int) - ((f0.data.length : Nat) : Int)) < 0 := by omega
  have a0_0 := a0.at_.cell 0 rfl
  have a0_1 := a0.at_.cell 1 rfl
  have a0_2 := a0.at_.cell 2 rfl
  have a0_3 := a0.at_.cell 3 rfl
  have a0_4 := a0.at_.cell 4 rfl
  have a0_5 := a0.at_.cell 5 rfl
  have a0_6 := a0.at_.cell 6 rfl
  have a0_7 := a0.at_.cell 7 rfl
  have a0_8 := a0.at_.cell 8 rfl
  have a0_9 := a0.at_.cell 9 rfl
  have a0_10 := a0.at_.cell 10 rfl
  go_wp2_with fail
  clear a0_0 a0_1 a0_2 a0_3 a0_4 a0_5 a0_6 a0_7 a0_8 a0_9 a0_10
  refine (to_sf f0 _ _ a0.rd Hn0.out).mono ?_
  rintro e w3 ⟨uo, bs_u1, rfl, u1, hb⟩
  obtain ⟨A_u1, c_u1, he⟩ := form_sf u1.r
  subst he
  replace a0 := a0.call hb
  replace Kw := belI_call Kw hb
  clear hb
  go_wp2_with fail
  refine (HS.out _ _ _ u1.r).mono ?_
  rintro e w4 ⟨rfl, hb⟩
  have hlo_V2 := Lib.hid Kw.size
  have hl_a0_V2 := Lib.hid a0.lt
  have V2 := VarB.born hb (repRc_own _ _ q0) 64
  replace hb := belI_call hb (belI_box w4 (.cells #[.int .i64 q0.x, .int .i64 q0.y, .int .i64 q0.w, .int .i64 q0.h] 64))
  replace a0 := a0.call hb
  replace u1 := u1.call hb
  replace Kw := belI_call Kw hb
  clear hb
  clear u1
  have a0_0 := a0.at_.cell 0 rfl
  have a0_1 := a0.at_.cell 1 rfl
  have a0_2 := a0.at_.cell 2 rfl
  have a0_3 := a0.at_.cell 3 rfl
  have a0_4 := a0.at_.cell 4 rfl
  have a0_5 := a0.at_.cell 5 rfl
  have a0_6 := a0.at_.cell 6 rfl
  have a0_7 := a0.at_.cell 7 rfl
  have a0_8 := a0.at_.cell 8 rfl
  have a0_9 := a0.at_.cell 9 rfl
  have a0_10 := a0.at_.cell 10 rfl
  go_wp2_with fail
  clear a0_0 a0_1 a0_2 a0_3 a0_4 a0_5 a0_6 a0_7 a0_8 a0_9 a0_10
  obtain ⟨w5, hWx⟩ : ∃ w5, w5 = (w4.alloc (.cells #[.int .i64 q0.x, .int .i64 q0.y, .int .i64 q0.w, .int .i64 q0.h] 64)) := ⟨_, rfl⟩
  rw [← hWx]
  rw [← hWx] at Kw a0 V2
  clear hWx
  refine (to_sf f0 _ _ a0.rd Hn0.out).mono ?_
  rintro e w6 ⟨uo, bs_u3, rfl, u3, hb⟩
  obtain ⟨A_u3, c_u3, he⟩ := form_sf u3.r
  subst he
  have hs_V2_V4 := Lib.hid V2.hs
  have hlo_V4 := Lib.hid Kw.size
  have hl_a0_V4 := Lib.hid a0.lt
  have V4 := VarB.born hb u3 37
  replace hb := belI_call hb (belI_box w6 (.cells #[.int .i64 f0.id, .int .i64 f0.x, .int .i64 f0.y, .int .i64 f0.w, .int .i64 f0.h, .int .i64 f0.alpha, .int .i64 f0.orient, .bool f0.vis, .int .i64 f0.bw, .int .i64 f0.bh, .slice A_u3 f0.data.length c_u3] 37))
  replace a0 := a0.call hb
  replace V2 := V2.call hb
  replace Kw := belI_call Kw hb
  clear hb u3
  have V4_0 := V4.at_.cell 0 rfl
  have V4_1 := V4.at_.cell 1 rfl
  have V4_2 := V4.at_.cell 2 rfl
  have V4_3 := V4.at_.cell 3 rfl
  have V4_4 := V4.at_.cell 4 rfl
  have V4_5 := V4.at_.cell 5 rfl
  have V4_6 := V4.at_.cell 6 rfl
  have V4_7 := V4.at_.cell 7 rfl
  have V4_8 := V4.at_.cell 8 rfl
  have V4_9 := V4.at_.cell 9 rfl
  have V4_10 := V4.at_.cell 10 rfl
  go_wp2_with fail
  clear V4_0 V4_1 V4_2 V4_3 V4_4 V4_5 V4_6 V4_7 V4_8 V4_9 V4_10
  obtain ⟨w7, hWx⟩ : ∃ w7, w7 = (w6.alloc (.cells #[.int .i64 f0.id, .int .i64 f0.x, .int .i64 f0.y, .int .i64 f0.w, .int .i64 f0.h, .int .i64 f0.alpha, .int .i64 f0.orient, .bool f0.vis, .int .i64 f0.bw, .int .i64 f0.bh, .slice A_u3 f0.data.length c_u3] 37)) := ⟨_, rfl⟩
  rw [← hWx]
  rw [← hWx] at Kw a0 V2 V4
  clear hWx
  refine (HI.out _ _ _ V4.r).mono ?_
  rintro e w8 ⟨rfl, hb⟩
  have hs_V2_V5 := Lib.hid V2.hs
  have hs_V4_V5 := Lib.hid V4.hs
  have hlo_V5 := Lib.hid Kw.size
  have hl_a0_V5 := Lib.hid a0.lt
  have V5 := VarB.born hb (repRc_own _ _ q0) 64
  replace hb := belI_call hb (belI_box w8 (.cells #[.int .i64 q0.x, .int .i64 q0.y, .int .i64 q0.w, .int .i64 q0.h] 64))
  replace a0 := a0.call hb
  replace V2 := V2.call hb
  replace V4 := V4.call hb
  replace Kw := belI_call Kw hb
  clear hb
  have V5_0 := V5.at_.cell 0 rfl
  have V5_1 := V5.at_.cell 1 rfl
  have V5_2 := V5.at_.cell 2 rfl
  have V5_3 := V5.at_.cell 3 rfl
  have V2_0 := V2.at_.cell 0 rfl
  have V2_1 := V2.at_.cell 1 rfl
  have V2_2 := V2.at_.cell 2 rfl
  have V2_3 := V2.at_.cell 3 rfl
  go_wp2_with fail
  clear V5_0 V5_1 V5_2 V5_3 V2_0 V2_1 V2_2 V2_3
  obtain ⟨w9, hWx⟩ : ∃ w9, w9 = (w8.alloc (.cells #[.int .i64 q0.x, .int .i64 q0.y, .int .i64 q0.w, .int .i64 q0.h] 64)) := ⟨_, rfl⟩
  rw [← hWx]
  rw [← hWx] at Kw a0 V2 V4 V5
  clear hWx
  refine (eq_rc q0 _ _ _ V5.r V2.r).mono ?_
  rintro e w10 ⟨rfl, hb⟩
  replace a0 := a0.call hb
  replace V2 := V2.call hb
  replace V4 := V4.call hb
  replace V5 := V5.call hb
  replace Kw := belI_call Kw hb
  clear hb
  go_upto_region 10 with fail
  refine wp_region_held_drew (S := fun W => Below w10.heap.size w10 W) (by kernel_rfl) (Below.refl _ _).drew (fun hS => ?_)
  refine wpAnyH_take (i := 0) (v := .agg #[.int .i64 f0.id, .int .i64 f0.x, .int .i64 f0.y, .int .i64 f0.w, .int .i64 f0.h, .int .i64 f0.alpha, .int .i64 f0.orient, .bool f0.vis, .int .i64 f0.bw, .int .i64 f0.bh, .slice A_u3 f0.data.length c_u3]) rfl (by kernel_rfl) (by kernel_rfl) (by kernel_rfl) (fun _ _ _ h => h) (Or.inl ⟨by kernel_rfl, by intro w' hSw; (try dsimp only at hSw); (have V4_0 := (V4.call hSw).at_.cell 0 rfl); (have V4_1 := (V4.call hSw).at_.cell 1 rfl); (have V4_2 := (V4.call hSw).at_.cell 2 rfl); (have V4_3 := (V4.call hSw).at_.cell 3 rfl); (have V4_4 := (V4.call hSw).at_.cell 4 rfl); (have V4_5 := (V4.call hSw).at_.cell 5 rfl); (have V4_6 := (V4.call hSw).at_.cell 6 rfl); (have V4_7 := (V4.call hSw).at_.cell 7 rfl); (have V4_8 := (V4.call hSw).at_.cell 8 rfl); (have V4_9 := (V4.call hSw).at_.cell 9 rfl); (have V4_10 := (V4.call hSw).at_.cell 10 rfl); (have a0_0 := (a0.call hSw).at_.cell 0 rfl); (have a0_1 := (a0.call hSw).at_.cell 1 rfl); (have a0_2 := (a0.call hSw).at_.cell 2 rfl); (have a0_3 := (a0.call hSw).at_.cell 3 rfl); (have a0_4 := (a0.call hSw).at_.cell 4 rfl); (have a0_5 := (a0.call hSw).at_.cell 5 rfl); (have a0_6 := (a0.call hSw).at_.cell 6 rfl); (have a0_7 := (a0.call hSw).at_.cell 7 rfl); (have a0_8 := (a0.call hSw).at_.cell 8 rfl); (have a0_9 := (a0.call hSw).at_.cell 9 rfl); (have a0_10 := (a0.call hSw).at_.cell 10 rfl); go_simp⟩) (by assumption) ?_
  refine wpAnyH_take (i := 1) (v := .agg #[.int .i64 f0.id, .int .i64 f0.x, .int .i64 f0.y, .int .i64 f0.w, .int .i64 f0.h, .int .i64 f0.alpha, .int .i64 f0.orient, .bool f0.vis, .int .i64 f0.bw, .int .i64 f0.bh, .slice A0 f0.data.length c0]) rfl (by kernel_rfl) (by kernel_rfl) (by kernel_rfl) (fun _ _ _ h => h) (Or.inl ⟨by kernel_rfl, by intro w' hSw; (try dsimp only at hSw); (have V4_0 := (V4.call hSw).at_.cell 0 rfl); (have V4_1 := (V4.call hSw).at_.cell 1 rfl); (have V4_2 := (V4.call hSw).at_.cell 2 rfl); (have V4_3 := (V4.call hSw).at_.cell 3 rfl); (have V4_4 := (V4.call hSw).at_.cell 4 rfl); (have V4_5 := (V4.call hSw).at_.cell 5 rfl); (have V4_6 := (V4.call hSw).at_.cell 6 rfl); (have V4_7 := (V4.call hSw).at_.cell 7 rfl); (have V4_8 := (V4.call hSw).at_.cell 8 rfl); (have V4_9 := (V4.call hSw).at_.cell 9 rfl); (have V4_10 := (V4.call hSw).at_.cell 10 rfl); (have a0_0 := (a0.call hSw).at_.cell 0 rfl); (have a0_1 := (a0.call hSw).at_.cell 1 rfl); (have a0_2 := (a0.call hSw).at_.cell 2 rfl); (have a0_3 := (a0.call hSw).at_.cell 3 rfl); (have a0_4 := (a0.call hSw).at_.cell 4 rfl); (have a0_5 := (a0.call hSw).at_.cell 5 rfl); (have a0_6 := (a0.call hSw).at_.cell 6 rfl); (have a0_7 := (a0.call hSw).at_.cell 7 rfl); (have a0_8 := (a0.call hSw).at_.cell 8 rfl); (have a0_9 := (a0.call hSw).at_.cell 9 rfl); (have a0_10 := (a0.call hSw).at_.cell 10 rfl); go_simp⟩) (by assumption) ?_
  (try simp only [Act.put]); (try simp only [List.setIfInBounds_toArray]); (try simp only [List.set_cons_zero, List.set_cons_succ])
  refine wpAnyH_ready (rs := [2]) (by kernel_rfl) (by simp) ?_
  refine (AllReadyH.cons rfl (fun K hK => ?_) AllReadyH.nil)
  · rw [if_pos (by kernel_rfl)]
    (try simp only [List.getElem_toArray]); (try simp only [List.getElem_cons_succ]); (try simp only [List.getElem_cons_zero])
    go_simp
    with_reducible refine (to_sf f0 _ _ (a0.call hS).rd Hn0.out).mono ?_
    rintro e W' ⟨uo, bs_u6, rfl, u6, hb⟩
    obtain ⟨A_u6, c_u6, he⟩ := form_sf u6.r
    subst he
    replace u6 := u6.mono hS.size
    dsimp only
    refine hK.out _ _ (belI_call hS hb) (fun hS => ?_)
    clear hK
    (try simp only [Act.put]); (try simp only [List.setIfInBounds_toArray]); (try simp only [List.set_cons_zero, List.set_cons_succ])
    refine wpAnyH_ready (rs := [3]) (by kernel_rfl) (by simp) ?_
    refine (AllReadyH.cons rfl (fun K hK => ?_) AllReadyH.nil)
    · rw [if_pos (by kernel_rfl)]
      (try simp only [List.getElem_toArray]); (try simp only [List.getElem_cons_succ]); (try simp only [List.getElem_cons_zero])
      go_simp
      with_reducible refine (eq_sf f0 _ _ _ _ _ (V4.call hS).r u6.r).mono ?_
      rintro e W' ⟨rfl, hb⟩
      dsimp only
      have u6 := u6.call hb
      refine hK.out _ _ (belI_call hS hb) (fun hS => ?_)
      clear hK
      (try simp only [Act.put]); (try simp only [List.setIfInBounds_toArray]); (try simp only [List.set_cons_zero, List.set_cons_succ])
      refine wpAnyH_take (i := 4) (v := .bool false) rfl (by kernel_rfl) (by kernel_rfl) (by kernel_rfl) (fun _ _ _ h => h) (Or.inl ⟨by kernel_rfl, by intro w' hSw; (try dsimp only at hSw); (have V4_0 := (V4.call hSw).at_.cell 0 rfl); (have V4_1 := (V4.call hSw).at_.cell 1 rfl); (have V4_2 := (V4.call hSw).at_.cell 2 rfl); (have V4_3 := (V4.call hSw).at_.cell 3 rfl); (have V4_4 := (V4.call hSw).at_.cell 4 rfl); (have V4_5 := (V4.call hSw).at_.cell 5 rfl); (have V4_6 := (V4.call hSw).at_.cell 6 rfl); (have V4_7 := (V4.call hSw).at_.cell 7 rfl); (have V4_8 := (V4.call hSw).at_.cell 8 rfl); (have V4_9 := (V4.call hSw).at_.cell 9 rfl); (have V4_10 := (V4.call hSw).at_.cell 10 rfl); (have a0_0 := (a0.call hSw).at_.cell 0 rfl); (have a0_1 := (a0.call hSw).at_.cell 1 rfl); (have a0_2 := (a0.call hSw).at_.cell 2 rfl); (have a0_3 := (a0.call hSw).at_.cell 3 rfl); (have a0_4 := (a0.call hSw).at_.cell 4 rfl); (have a0_5 := (a0.call hSw).at_.cell 5 rfl); (have a0_6 := (a0.call hSw).at_.cell 6 rfl); (have a0_7 := (a0.call hSw).at_.cell 7 rfl); (have a0_8 := (a0.call hSw).at_.cell 8 rfl); (have a0_9 := (a0.call hSw).at_.cell 9 rfl); (have a0_10 := (a0.call hSw).at_.cell 10 rfl); go_simp⟩) (by assumption) ?_
      refine wpAnyH_done (by kernel_rfl) ?_ _
      have hb := hS
      replace a0 := a0.call hb
      replace V2 := V2.call hb
      replace V4 := V4.call hb
      replace V5 := V5.call hb
      replace Kw := belI_call Kw hb
      clear hb hS
      clear u6
      obtain ⟨w11, hWy⟩ : ∃ w11, w11 = W' := ⟨_, rfl⟩
      subst hWy
      go_wp2_with fail
      go_ret
      exact ⟨rfl, Kw⟩
end Go.Proofs.Ytflehkbalnikiaa
