/- The walk of the law FnExactPaintAt: it returns true for every scene and every place. -/
import Derived.Test.YtfolphadhmgbiaaMA
import Derived.Test.YtfolphadhmgbiaaMB
import Derived.Test.YtfolphadhmgbiaaSlE
import Derived.Test.YtfolphadhmgbiaaSlT
import Derived.Test.YtfolphadhmgbiaaMC
import Derived.Test.YtfolphadhmgbiaaSfP
import Derived.Test.YtfolphadhmgbiaaPnM
import Derived.Test.YtfolphadhmgbiaaSnS
import Derived.Test.YtfolphadhmgbiaaPnS
import Derived.Test.YtfolphadhmgbiaaPnI
import Derived.Test.YtfolphadhmgbiaaPlH
import Derived.Test.YtfolphadhmgbiaaOcI
import Derived.Test.YtfolphadhmgbiaaOcJ
import Derived.Test.YtfolphadhmgbiaaOcK
import Derived.Test.YtfolphadhmgbiaaOcS
import Derived.Test.YtfolphadhmgbiaaPnP
import Derived.Test.YtfolphadhmgbiaaProg
import Derived.WalkKit
import Derived.ProofKit
import Derived.OpenShut
import Derived.WalkLawsBesides
import Derived.WalkSpells
import Derived.ShutString
import Derived.ChangeOld
import Derived.Below
import Derived.Lib.Hide
import Derived.BigQuiet
import Derived.Deep.QuietTactic
import Derived.Maps.AppendAt
import Derived.Deep.OwnRows
import Derived.Handy
import Derived.Deep.Draws
import Derived.OwnWalk
import Derived.Deep.AppendLies
import Derived.Deep.LoopGhost
import Derived.Deep.Onto
import Derived.Deep.MidRow
import Derived.Deep.WholeRow
import Derived.Laws.BitsAllLaws
import Derived.Lib.QuoteBits
import Derived.Deep.RegionHeld3
import Derived.Deep.DeepCutAuto
import Derived.Test.YtfolphadhmgbiaaShelf
import Derived.Laws.CopyOwn
import Derived.Deep.RegionLaw
import Derived.Great.BuildSlice
import Derived.Laws.AppendOwn
import Derived.ChangeKeysEq
import Derived.Deep.RegionWith
import Derived.Shelf.RegionOpenPlain
import Derived.Lib.SliceRun
import Derived.Deep.DeepAppendRoom
namespace Go.Proofs.Ytfolphadhmgbiaa
open Go.RowKit
set_option maxHeartbeats 8000000 in
set_option maxRecDepth 100000 in
theorem walk_FnExactPaintAt (f0 : Sn) (d0 : Value) (p1 : Int) (_ : (Lit.int .i64 p1).wf = true) (p2 : Int) (_ : (Lit.int .i64 p2).wf = true) (w : World) (h0 : wkSn.R w f0 [.int .i64 f0.w, .int .i64 f0.h, .int .i64 f0.back, d0]) :
    Calls Try.prog 7 #[.agg #[.int .i64 f0.w, .int .i64 f0.h, .int .i64 f0.back, d0], .int .i64 p1, .int .i64 p2] w fun e w' => e = .returned (.bool true) ∧ Below w.heap.size w w' := by
  obtain ⟨A0, c0, rfl⟩ := wform_sn h0
  have O0 := Lib.hid h0
  have Kw := Below.refl w.heap.size w
  have hb0 := belI_box w (.cells #[.int .i64 f0.w, .int .i64 f0.h, .int .i64 f0.back, .slice A0 f0.fs.length c0] 56)
  have a0 : ArgB wkSn 56 (w.heap.size) f0 [.int .i64 f0.w, .int .i64 f0.h, .int .i64 f0.back, .slice A0 f0.fs.length c0] (w.alloc (.cells #[.int .i64 f0.w, .int .i64 f0.h, .int .i64 f0.back, .slice A0 f0.fs.length c0] 56)) := ArgB.bornAt (w := w) (by simp) (wkSn.call h0 Kw) _
  replace Kw := belI_call Kw hb0
  clear hb0
  obtain ⟨w0, hw0⟩ : ∃ w0, w0 = (w.alloc (.cells #[.int .i64 f0.w, .int .i64 f0.h, .int .i64 f0.back, .slice A0 f0.fs.length c0] 56)) := ⟨_, rfl⟩
  rw [← hw0] at Kw a0
  have Hw := Lib.hid hw0
  clear hw0 h0
  by_cases g0 : (sizFs f0.fs) ≤ 1048576
  rotate_left
  · have g' : ¬ (sizFs f0.fs) ≤ 1048576 := g0
    have a0_0 := a0.at_.cell 0 rfl
    have a0_1 := a0.at_.cell 1 rfl
    have a0_2 := a0.at_.cell 2 rfl
    have a0_3 := a0.at_.cell 3 rfl
    go_enter Try.func7, Try.ntmps7
    go_wp2_with fail
    rw [← Hw.out]
    clear a0_0 a0_1 a0_2 a0_3
    have q0 : (0 : Int) ≤ (1048576 : Int) := by omega
    have q1 : (1048576 : Int) < (((sizFs f0.fs) : Nat) : Int) := by omega
    refine (sz_sn_no f0 _ _ _ a0.rd q0 q1 (by omega)).mono ?_
    rintro e w1 ⟨rfl, hb⟩
    replace a0 := a0.call hb
    replace Kw := belI_call Kw hb
    clear hb
    go_wp2_with fail
    go_ret
    exact ⟨rfl, Kw⟩
  have Hn0 := Lib.hid (show (sizFs f0.fs) ≤ 1048576 by omega)
  obtain ⟨q0, hq0⟩ : ∃ q, q = pnAt f0 p1 p2 := ⟨_, rfl⟩
  have PS := fun (W : World) (u0 : Value) (bs0 : List Nat) (k0 : repSn.R W f0 [.int .i64 f0.w, .int .i64 f0.h, .int .i64 f0.back, u0] bs0) => patS f0 p1 p2 u0 _ W (r_sn k0)
  have PI := fun (W : World) (u0 : Value) (bs0 : List Nat) (k0 : repSn.R W f0 [.int .i64 f0.w, .int .i64 f0.h, .int .i64 f0.back, u0] bs0) => patI f0 p1 p2 u0 _ W (r_sn k0)
  unfold PatAns at PS PI
  rw [← hq0] at PS PI
  have HS := Lib.hid PS
  have HI := Lib.hid PI
  clear PS PI hq0
  have a0_0 := a0.at_.cell 0 rfl
  have a0_1 := a0.at_.cell 1 rfl
  have a0_2 := a0.at_.cell 2 rfl
  have a0_3 := a0.at_.cell 3 rfl
  go_enter Try.func7, Try.ntmps7
  go_wp2_with fail
  rw [← Hw.out]
  clear a0_0 a0_1 a0_2 a0_3
  refine (sz_sn_yes f0 _ _ _ a0.rd (by omega) (by omega)).mono ?_
  rintro e w2 ⟨rfl, hb⟩
  replace a0 := a0.call hb
  replace Kw := belI_call Kw hb
  clear hb
  have z0 : ¬ ((1048576 : Int) - (((sizFs f0.fs) : Nat) : Int)) < 0 := by omega
  have a0_0 := a0.at_.cell 0 rfl
  have a0_1 := a0.at_.cell 1 rfl
  have a0_2 := a0.at_.cell 2 rfl
  have a0_3 := a0.at_.cell 3 rfl
  go_wp2_with fail
  clear a0_0 a0_1 a0_2 a0_3
  refine (to_sn f0 _ _ a0.rd Hn0.out).mono ?_
  rintro e w3 ⟨uo, bs_u1, rfl, u1, hb⟩
  obtain ⟨A_u1, c_u1, he⟩ := form_sn u1.r
  subst he
  replace a0 := a0.call hb
  replace Kw := belI_call Kw hb
  clear hb
  go_wp2_with fail
  refine (HS.out _ _ _ u1.r).mono ?_
  rintro e w4 ⟨rfl, hb⟩
  replace a0 := a0.call hb
  replace u1 := u1.call hb
  replace Kw := belI_call Kw hb
  clear hb
  clear u1
  have a0_0 := a0.at_.cell 0 rfl
  have a0_1 := a0.at_.cell 1 rfl
  have a0_2 := a0.at_.cell 2 rfl
  have a0_3 := a0.at_.cell 3 rfl
  go_wp2_with fail
  clear a0_0 a0_1 a0_2 a0_3
  refine (to_sn f0 _ _ a0.rd Hn0.out).mono ?_
  rintro e w5 ⟨uo, bs_u2, rfl, u2, hb⟩
  obtain ⟨A_u2, c_u2, he⟩ := form_sn u2.r
  subst he
  have hlo_V3 := Lib.hid Kw.size
  have hl_a0_V3 := Lib.hid a0.lt
  have V3 := VarB.born hb u2 26
  replace hb := belI_call hb (belI_box w5 (.cells #[.int .i64 f0.w, .int .i64 f0.h, .int .i64 f0.back, .slice A_u2 f0.fs.length c_u2] 26))
  replace a0 := a0.call hb
  replace Kw := belI_call Kw hb
  clear hb u2
  have V3_0 := V3.at_.cell 0 rfl
  have V3_1 := V3.at_.cell 1 rfl
  have V3_2 := V3.at_.cell 2 rfl
  have V3_3 := V3.at_.cell 3 rfl
  go_wp2_with fail
  clear V3_0 V3_1 V3_2 V3_3
  obtain ⟨w6, hWx⟩ : ∃ w6, w6 = (w5.alloc (.cells #[.int .i64 f0.w, .int .i64 f0.h, .int .i64 f0.back, .slice A_u2 f0.fs.length c_u2] 26)) := ⟨_, rfl⟩
  rw [← hWx]
  rw [← hWx] at Kw a0 V3
  clear hWx
  refine (HI.out _ _ _ V3.r).mono ?_
  rintro e w7 ⟨rfl, hb⟩
  replace a0 := a0.call hb
  replace V3 := V3.call hb
  replace Kw := belI_call Kw hb
  clear hb
  go_upto_region 10 with fail
  refine wp_region_held_drew (S := fun W => Below w7.heap.size w7 W) (by kernel_rfl) (Below.refl _ _).drew (fun hS => ?_)
  refine wpAnyH_take (i := 0) (v := .agg #[.int .i64 f0.w, .int .i64 f0.h, .int .i64 f0.back, .slice A_u2 f0.fs.length c_u2]) rfl (by kernel_rfl) (by kernel_rfl) (by kernel_rfl) (fun _ _ _ h => h) (Or.inl ⟨by kernel_rfl, by intro w' hSw; (try dsimp only at hSw); (have V3_0 := (V3.call hSw).at_.cell 0 rfl); (have V3_1 := (V3.call hSw).at_.cell 1 rfl); (have V3_2 := (V3.call hSw).at_.cell 2 rfl); (have V3_3 := (V3.call hSw).at_.cell 3 rfl); (have a0_0 := (a0.call hSw).at_.cell 0 rfl); (have a0_1 := (a0.call hSw).at_.cell 1 rfl); (have a0_2 := (a0.call hSw).at_.cell 2 rfl); (have a0_3 := (a0.call hSw).at_.cell 3 rfl); go_simp⟩) (by assumption) ?_
  refine wpAnyH_take (i := 1) (v := .agg #[.int .i64 f0.w, .int .i64 f0.h, .int .i64 f0.back, .slice A0 f0.fs.length c0]) rfl (by kernel_rfl) (by kernel_rfl) (by kernel_rfl) (fun _ _ _ h => h) (Or.inl ⟨by kernel_rfl, by intro w' hSw; (try dsimp only at hSw); (have V3_0 := (V3.call hSw).at_.cell 0 rfl); (have V3_1 := (V3.call hSw).at_.cell 1 rfl); (have V3_2 := (V3.call hSw).at_.cell 2 rfl); (have V3_3 := (V3.call hSw).at_.cell 3 rfl); (have a0_0 := (a0.call hSw).at_.cell 0 rfl); (have a0_1 := (a0.call hSw).at_.cell 1 rfl); (have a0_2 := (a0.call hSw).at_.cell 2 rfl); (have a0_3 := (a0.call hSw).at_.cell 3 rfl); go_simp⟩) (by assumption) ?_
  (try simp only [Act.put]); (try simp only [List.setIfInBounds_toArray]); (try simp only [List.set_cons_zero, List.set_cons_succ])
  refine wpAnyH_ready (rs := [2]) (by kernel_rfl) (by simp) ?_
  refine (AllReadyH.cons rfl (fun K hK => ?_) AllReadyH.nil)
  · rw [if_pos (by kernel_rfl)]
    (try simp only [List.getElem_toArray]); (try simp only [List.getElem_cons_succ]); (try simp only [List.getElem_cons_zero])
    go_simp
    with_reducible refine (to_sn f0 _ _ (a0.call hS).rd Hn0.out).mono ?_
    rintro e W' ⟨uo, bs_u4, rfl, u4, hb⟩
    obtain ⟨A_u4, c_u4, he⟩ := form_sn u4.r
    subst he
    replace u4 := u4.mono hS.size
    dsimp only
    refine hK.out _ _ (belI_call hS hb) (fun hS => ?_)
    clear hK
    (try simp only [Act.put]); (try simp only [List.setIfInBounds_toArray]); (try simp only [List.set_cons_zero, List.set_cons_succ])
    refine wpAnyH_ready (rs := [3]) (by kernel_rfl) (by simp) ?_
    refine (AllReadyH.cons rfl (fun K hK => ?_) AllReadyH.nil)
    · rw [if_pos (by kernel_rfl)]
      (try simp only [List.getElem_toArray]); (try simp only [List.getElem_cons_succ]); (try simp only [List.getElem_cons_zero])
      go_simp
      with_reducible refine (eq_sn f0 _ _ _ _ _ (V3.call hS).r u4.r).mono ?_
      rintro e W' ⟨rfl, hb⟩
      dsimp only
      have u4 := u4.call hb
      refine hK.out _ _ (belI_call hS hb) (fun hS => ?_)
      clear hK
      (try simp only [Act.put]); (try simp only [List.setIfInBounds_toArray]); (try simp only [List.set_cons_zero, List.set_cons_succ])
      refine wpAnyH_take (i := 4) (v := .bool false) rfl (by kernel_rfl) (by kernel_rfl) (by kernel_rfl) (fun _ _ _ h => h) (Or.inl ⟨by kernel_rfl, by intro w' hSw; (try dsimp only at hSw); (have V3_0 := (V3.call hSw).at_.cell 0 rfl); (have V3_1 := (V3.call hSw).at_.cell 1 rfl); (have V3_2 := (V3.call hSw).at_.cell 2 rfl); (have V3_3 := (V3.call hSw).at_.cell 3 rfl); (have a0_0 := (a0.call hSw).at_.cell 0 rfl); (have a0_1 := (a0.call hSw).at_.cell 1 rfl); (have a0_2 := (a0.call hSw).at_.cell 2 rfl); (have a0_3 := (a0.call hSw).at_.cell 3 rfl); go_simp⟩) (by assumption) ?_
      refine wpAnyH_done (by kernel_rfl) ?_ _
      have hb := hS
      replace a0 := a0.call hb
      replace V3 := V3.call hb
      replace Kw := belI_call Kw hb
      clear hb hS
      clear u4
      obtain ⟨w8, hWy⟩ : ∃ w8, w8 = W' := ⟨_, rfl⟩
      subst hWy
      go_wp2_with fail
      go_ret
      exact ⟨rfl, Kw⟩
end Go.Proofs.Ytfolphadhmgbiaa
