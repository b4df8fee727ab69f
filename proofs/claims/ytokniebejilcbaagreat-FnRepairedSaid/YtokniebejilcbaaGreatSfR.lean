/- The contracts of pictureSize and of SurfaceRect, of the program and of its model. No statement is proved here. -/
import Derived.Test.YtokniebejilcbaaGreatMA
import Derived.Test.YtokniebejilcbaaGreatMC
import Derived.Test.YtokniebejilcbaaGreatSfO
import Derived.Test.YtokniebejilcbaaGreatProg
import Derived.WalkKit
import Derived.ProofKit
import Derived.OpenShut
import Derived.WalkLawsBesides
import Derived.WalkSpells
import Derived.ShutString
import Derived.ChangeOld
import Derived.Below
import Derived.Lib.Hide
import Derived.BigQuiet
import Derived.Deep.QuietTactic
import Derived.Maps.AppendAt
import Derived.Deep.OwnRows
import Derived.Handy
import Derived.Deep.Draws
import Derived.OwnWalk
import Derived.Deep.AppendLies
import Derived.Deep.LoopGhost
import Derived.Deep.Onto
import Derived.Deep.MidRow
import Derived.Deep.WholeRow
import Derived.Laws.BitsAllLaws
import Derived.Lib.QuoteBits
import Derived.Deep.RegionHeld3
import Derived.Deep.DeepCutAuto
namespace Go.Proofs.YtokniebejilcbaaGreat
open Go.RowKit
open Classical in
noncomputable def sfSize (f : Sf) : Int × Int := if f.w = 0 then osM f.bw f.bh f.orient else (f.w, f.h)
open Classical in
noncomputable def sfRect (f : Sf) : Rc := if sfOk f ∧ f.vis = true then ⟨f.x, f.y, (sfSize f).1, (sfSize f).2⟩ else ⟨0, 0, 0, 0⟩
theorem sfRect_no {f : Sf} (h : ¬ (sfOk f ∧ f.vis = true)) : sfRect f = ⟨0, 0, 0, 0⟩ := if_neg h
theorem sfRect_yes {f : Sf} (h : sfOk f) (hv : f.vis = true) : sfRect f = ⟨f.x, f.y, (sfSize f).1, (sfSize f).2⟩ := if_pos ⟨h, hv⟩
def RcAns (r : Rc) (w : World) (e : Ending) (w' : World) : Prop := e = .returned (.agg #[.int .i64 r.x, .int .i64 r.y, .int .i64 r.w, .int .i64 r.h]) ∧ Below w.heap.size w w'
theorem ret_rc4 {r : Rc} {a b c d : Int} (h : r = ⟨a, b, c, d⟩) : Ending.returned (.agg #[.int .i64 a, .int .i64 b, .int .i64 c, .int .i64 d]) = .returned (.agg #[.int .i64 r.x, .int .i64 r.y, .int .i64 r.w, .int .i64 r.h]) := by rw [h]
def SrAns (f : Sf) (w : World) (e : Ending) (w' : World) : Prop := RcAns (sfRect f) w e w'
set_option maxHeartbeats 1000000 in
set_option maxRecDepth 10000 in
theorem psI (f : Sf) (d : Value) (w : World) (hv : RdI w d f.data) : Calls Tryz.prog 218 #[.agg #[.int .i64 f.id, .int .i64 f.x, .int .i64 f.y, .int .i64 f.w, .int .i64 f.h, .int .i64 f.alpha, .int .i64 f.orient, .bool f.vis, .int .i64 f.bw, .int .i64 f.bh, d]] w (TwoAns (sfSize f) w) := by
 have HB := Lib.hid (belI_box w (.cells #[.int .i64 f.id, .int .i64 f.x, .int .i64 f.y, .int .i64 f.w, .int .i64 f.h, .int .i64 f.alpha, .int .i64 f.orient, .bool f.vis, .int .i64 f.bw, .int .i64 f.bh, d] 153))
 have hX := BkAt.new w 153 #[.int .i64 f.id, .int .i64 f.x, .int .i64 f.y, .int .i64 f.w, .int .i64 f.h, .int .i64 f.alpha, .int .i64 f.orient, .bool f.vis, .int .i64 f.bw, .int .i64 f.bh, d]
 obtain ⟨A, c, rfl⟩ := hv.form
 obtain ⟨fi, fx, fy, fw, fh, fa, fo, fv, fbw, fbh, fd⟩ := f
 dsimp only at HB hX ⊢
 by_cases h0 : fw = 0
 ·subst h0
  have Hq := Lib.hid (show sfSize ⟨fi, fx, fy, 0, fh, fa, fo, fv, fbw, fbh, fd⟩ = osM fbw fbh fo from if_pos rfl)
  have HK := Lib.hid (fun W => osI fbw fbh fo W)
  unfold TwoAns at HK
  obtain ⟨a, ha⟩ : ∃ a, a = (osM fbw fbh fo).1 := ⟨_, rfl⟩
  obtain ⟨b, hb⟩ : ∃ a, a = (osM fbw fbh fo).2 := ⟨_, rfl⟩
  rw [← ha, ← hb] at HK
  have Ha := Lib.hid ha
  have Hb := Lib.hid hb
  clear ha hb hX hv
  go_enter Tryz.func218, Tryz.ntmps218
  go_wp2_with fail
  refine (HK.out _).mono ?_
  rintro e w1 ⟨rfl, hb⟩
  go_wp2_with fail
  go_ret2
  exact ⟨ret_two (by rw [Hq.out, Ha.out, Hb.out]), belI_call HB.out hb⟩
 ·have Hq := Lib.hid (show sfSize ⟨fi, fx, fy, fw, fh, fa, fo, fv, fbw, fbh, fd⟩ = (fw, fh) from if_neg h0)
  have e3 := hX.cell 3 rfl
  have e4 := hX.cell 4 rfl
  clear hX hv
  go_enter Tryz.func218, Tryz.ntmps218
  go_wp2_with fail
  go_quiet (fail)
  go_wp2_with fail
  go_ret2
  exact ⟨ret_two Hq.out, below_drewN HB.out _⟩
set_option maxHeartbeats 2000000 in
set_option maxRecDepth 10000 in
theorem srI (f : Sf) (d : Value) (w : World) (hv : RdI w d f.data) : Calls Tryz.prog 195 #[.agg #[.int .i64 f.id, .int .i64 f.x, .int .i64 f.y, .int .i64 f.w, .int .i64 f.h, .int .i64 f.alpha, .int .i64 f.orient, .bool f.vis, .int .i64 f.bw, .int .i64 f.bh, d]] w (SrAns f w) := by
  have hB := belI_call (belI_box w (.cells #[.int .i64 f.id, .int .i64 f.x, .int .i64 f.y, .int .i64 f.w, .int .i64 f.h, .int .i64 f.alpha, .int .i64 f.orient, .bool f.vis, .int .i64 f.bw, .int .i64 f.bh, d] 153)) (belI_box _ (.cells #[.int .i64 0, .int .i64 0, .int .i64 0, .int .i64 0] 111))
  have hX := BkAt.alloc (BkAt.new w 153 #[.int .i64 f.id, .int .i64 f.x, .int .i64 f.y, .int .i64 f.w, .int .i64 f.h, .int .i64 f.alpha, .int .i64 f.orient, .bool f.vis, .int .i64 f.bw, .int .i64 f.bh, d]) (.cells #[.int .i64 0, .int .i64 0, .int .i64 0, .int .i64 0] 111)
  have hR := BkAt.newAt (w := w.alloc (.cells #[.int .i64 f.id, .int .i64 f.x, .int .i64 f.y, .int .i64 f.w, .int .i64 f.h, .int .i64 f.alpha, .int .i64 f.orient, .bool f.vis, .int .i64 f.bw, .int .i64 f.bh, d] 153)) (g := w.heap.size + 1) (by simp) 111 #[.int .i64 0, .int .i64 0, .int .i64 0, .int .i64 0]
  have HV := Lib.hid (hv.call hB)
  have HC := Lib.hid (sfI f d _ HV.out)
  unfold SfOkAns at HC
  have HP := Lib.hid (fun W hd => psI f d W hd)
  unfold TwoAns at HP
  obtain ⟨A, c, rfl⟩ := hv.form
  have Hd := Lib.hid hv
  clear hv
  by_cases hs : sfOk f
  · rw [sfB_yes hs] at HC
    have Hs := Lib.hid hs
    clear hs
    cases hvis : f.vis with
    | false =>
      have Hq := Lib.hid (sfRect_no (f := f) fun e => by rw [hvis] at e; cases e.2)
      rw [hvis] at hX hR HC hB HV
      clear hvis
      go_enter Tryz.func195, Tryz.ntmps195
      go_wp2_with fail
      refine HC.out.mono ?_
      rintro e w1 ⟨rfl, hb⟩
      replace hX := hX.call hb
      replace hR := hR.call hb
      replace hB := belI_call hB hb
      have hrd := HV.out.call hb
      have Hrd := Lib.hid hrd
      clear hb hrd
      have e7 := hX.cell 7 rfl
      have r0 := hR.cell 0 rfl
      have fr0 := hR.frozen 0
      have r1 := hR.cell 1 rfl
      have fr1 := hR.frozen 1
      have r2 := hR.cell 2 rfl
      have fr2 := hR.frozen 2
      have r3 := hR.cell 3 rfl
      have fr3 := hR.frozen 3
      go_wp2_with fail
      have j0 := hR.put 0 (.int .i64 0) (cs' := #[.int .i64 0, .int .i64 0, .int .i64 0, .int .i64 0]) (by simp only [List.setIfInBounds_toArray, List.set_cons_zero])
      have j1 := j0.put 1 (.int .i64 0) (cs' := #[.int .i64 0, .int .i64 0, .int .i64 0, .int .i64 0]) (by simp only [List.setIfInBounds_toArray, List.set_cons_zero, List.set_cons_succ])
      have j2 := j1.put 2 (.int .i64 0) (cs' := #[.int .i64 0, .int .i64 0, .int .i64 0, .int .i64 0]) (by simp only [List.setIfInBounds_toArray, List.set_cons_zero, List.set_cons_succ])
      have j3 := j2.put 3 (.int .i64 0) (cs' := #[.int .i64 0, .int .i64 0, .int .i64 0, .int .i64 0]) (by simp only [List.setIfInBounds_toArray, List.set_cons_zero, List.set_cons_succ])
      obtain ⟨x0, x1, x2, x3⟩ := j3.cells4
      exact bodyPost_ret (v := .agg #[.int .i64 0, .int .i64 0, .int .i64 0, .int .i64 0]) (by simp [results, Tryz.results195, go_sem, x0, x1, x2, x3]) rfl ⟨ret_rc4 Hq.out, (((hB.setCell (by simp) _).setCell (by simp) _).setCell (by simp) _).setCell (by simp) _⟩
    | true =>
      obtain ⟨p1, h1⟩ : ∃ p, p = (sfSize f).1 := ⟨_, rfl⟩
      obtain ⟨p2, h2⟩ : ∃ p, p = (sfSize f).2 := ⟨_, rfl⟩
      have Hq := Lib.hid (show sfRect f = ⟨f.x, f.y, p1, p2⟩ by rw [sfRect_yes Hs.out hvis, h1, h2])
      rw [← h1, ← h2] at HP
      rw [hvis] at hX hR HC hB HV HP
      clear h1 h2 hvis
      go_enter Tryz.func195, Tryz.ntmps195
      go_wp2_with fail
      refine HC.out.mono ?_
      rintro e w1 ⟨rfl, hb⟩
      replace hX := hX.call hb
      replace hR := hR.call hb
      replace hB := belI_call hB hb
      have hrd := HV.out.call hb
      have Hrd := Lib.hid hrd
      clear hb hrd
      have e0 := hX.cell 0 rfl
      have e1 := hX.cell 1 rfl
      have e2 := hX.cell 2 rfl
      have e3 := hX.cell 3 rfl
      have e4 := hX.cell 4 rfl
      have e5 := hX.cell 5 rfl
      have e6 := hX.cell 6 rfl
      have e7 := hX.cell 7 rfl
      have e8 := hX.cell 8 rfl
      have e9 := hX.cell 9 rfl
      have e10 := hX.cell 10 rfl
      go_wp2_with fail
      refine (HP.out _ Hrd.out).mono ?_
      rintro e w2 ⟨rfl, hb⟩
      clear e0 e1 e2 e3 e4 e5 e6 e7 e8 e9 e10
      replace hX := hX.call hb
      replace hR := hR.call hb
      replace hB := belI_call hB hb
      clear hb
      have e1 := hX.cell 1 rfl
      have e2 := hX.cell 2 rfl
      have r0 := hR.cell 0 rfl
      have fr0 := hR.frozen 0
      have r1 := hR.cell 1 rfl
      have fr1 := hR.frozen 1
      have r2 := hR.cell 2 rfl
      have fr2 := hR.frozen 2
      have r3 := hR.cell 3 rfl
      have fr3 := hR.frozen 3
      go_wp2_with fail
      have j0 := hR.put 0 (.int .i64 f.x) (cs' := #[.int .i64 f.x, .int .i64 0, .int .i64 0, .int .i64 0]) (by simp only [List.setIfInBounds_toArray, List.set_cons_zero])
      have j1 := j0.put 1 (.int .i64 f.y) (cs' := #[.int .i64 f.x, .int .i64 f.y, .int .i64 0, .int .i64 0]) (by simp only [List.setIfInBounds_toArray, List.set_cons_zero, List.set_cons_succ])
      have j2 := j1.put 2 (.int .i64 p1) (cs' := #[.int .i64 f.x, .int .i64 f.y, .int .i64 p1, .int .i64 0]) (by simp only [List.setIfInBounds_toArray, List.set_cons_zero, List.set_cons_succ])
      have j3 := j2.put 3 (.int .i64 p2) (cs' := #[.int .i64 f.x, .int .i64 f.y, .int .i64 p1, .int .i64 p2]) (by simp only [List.setIfInBounds_toArray, List.set_cons_zero, List.set_cons_succ])
      obtain ⟨x0, x1, x2, x3⟩ := j3.cells4
      exact bodyPost_ret (v := .agg #[.int .i64 f.x, .int .i64 f.y, .int .i64 p1, .int .i64 p2]) (by simp [results, Tryz.results195, go_sem, x0, x1, x2, x3]) rfl ⟨ret_rc4 Hq.out, (((hB.setCell (by simp) _).setCell (by simp) _).setCell (by simp) _).setCell (by simp) _⟩
  · rw [sfB_no hs] at HC
    have Hq := Lib.hid (sfRect_no (f := f) fun e => hs e.1)
    clear hs
    go_enter Tryz.func195, Tryz.ntmps195
    go_wp2_with fail
    refine HC.out.mono ?_
    rintro e w1 ⟨rfl, hb⟩
    replace hX := hX.call hb
    replace hR := hR.call hb
    replace hB := belI_call hB hb
    have hrd := HV.out.call hb
    have Hrd := Lib.hid hrd
    clear hb hrd
    have e7 := hX.cell 7 rfl
    have r0 := hR.cell 0 rfl
    have fr0 := hR.frozen 0
    have r1 := hR.cell 1 rfl
    have fr1 := hR.frozen 1
    have r2 := hR.cell 2 rfl
    have fr2 := hR.frozen 2
    have r3 := hR.cell 3 rfl
    have fr3 := hR.frozen 3
    go_wp2_with fail
    have j0 := hR.put 0 (.int .i64 0) (cs' := #[.int .i64 0, .int .i64 0, .int .i64 0, .int .i64 0]) (by simp only [List.setIfInBounds_toArray, List.set_cons_zero])
    have j1 := j0.put 1 (.int .i64 0) (cs' := #[.int .i64 0, .int .i64 0, .int .i64 0, .int .i64 0]) (by simp only [List.setIfInBounds_toArray, List.set_cons_zero, List.set_cons_succ])
    have j2 := j1.put 2 (.int .i64 0) (cs' := #[.int .i64 0, .int .i64 0, .int .i64 0, .int .i64 0]) (by simp only [List.setIfInBounds_toArray, List.set_cons_zero, List.set_cons_succ])
    have j3 := j2.put 3 (.int .i64 0) (cs' := #[.int .i64 0, .int .i64 0, .int .i64 0, .int .i64 0]) (by simp only [List.setIfInBounds_toArray, List.set_cons_zero, List.set_cons_succ])
    obtain ⟨x0, x1, x2, x3⟩ := j3.cells4
    exact bodyPost_ret (v := .agg #[.int .i64 0, .int .i64 0, .int .i64 0, .int .i64 0]) (by simp [results, Tryz.results195, go_sem, x0, x1, x2, x3]) rfl ⟨ret_rc4 Hq.out, (((hB.setCell (by simp) _).setCell (by simp) _).setCell (by simp) _).setCell (by simp) _⟩
set_option maxHeartbeats 2000000 in
set_option maxRecDepth 10000 in
theorem srS (f : Sf) (d : Value) (w : World) (hv : RdI w d f.data) : Calls Tryz.prog 124 #[.agg #[.int .i64 f.id, .int .i64 f.x, .int .i64 f.y, .int .i64 f.w, .int .i64 f.h, .int .i64 f.alpha, .int .i64 f.orient, .bool f.vis, .int .i64 f.bw, .int .i64 f.bh, d]] w (SrAns f w) := by
  have hB := belI_call (belI_box w (.cells #[.int .i64 f.id, .int .i64 f.x, .int .i64 f.y, .int .i64 f.w, .int .i64 f.h, .int .i64 f.alpha, .int .i64 f.orient, .bool f.vis, .int .i64 f.bw, .int .i64 f.bh, d] 153)) (belI_box _ (.cells #[.int .i64 0, .int .i64 0, .int .i64 0, .int .i64 0] 111))
  have hX := BkAt.alloc (BkAt.new w 153 #[.int .i64 f.id, .int .i64 f.x, .int .i64 f.y, .int .i64 f.w, .int .i64 f.h, .int .i64 f.alpha, .int .i64 f.orient, .bool f.vis, .int .i64 f.bw, .int .i64 f.bh, d]) (.cells #[.int .i64 0, .int .i64 0, .int .i64 0, .int .i64 0] 111)
  have hR := BkAt.newAt (w := w.alloc (.cells #[.int .i64 f.id, .int .i64 f.x, .int .i64 f.y, .int .i64 f.w, .int .i64 f.h, .int .i64 f.alpha, .int .i64 f.orient, .bool f.vis, .int .i64 f.bw, .int .i64 f.bh, d] 153)) (g := w.heap.size + 1) (by simp) 111 #[.int .i64 0, .int .i64 0, .int .i64 0, .int .i64 0]
  have HV := Lib.hid (hv.call hB)
  have HC := Lib.hid (sfS f d _ HV.out)
  unfold SfOkAns at HC
  obtain ⟨A, c, rfl⟩ := hv.form
  have Hd := Lib.hid hv
  clear hv
  by_cases hs : sfOk f
  · rw [sfB_yes hs] at HC
    have Hs := Lib.hid hs
    clear hs
    cases hvis : f.vis with
    | false =>
      have Hq := Lib.hid (sfRect_no (f := f) fun e => by rw [hvis] at e; cases e.2)
      rw [hvis] at hX hR HC hB HV
      clear hvis
      go_enter Tryz.func124, Tryz.ntmps124
      go_wp2_with fail
      refine HC.out.mono ?_
      rintro e w1 ⟨rfl, hb⟩
      replace hX := hX.call hb
      replace hR := hR.call hb
      replace hB := belI_call hB hb
      have hrd := HV.out.call hb
      have Hrd := Lib.hid hrd
      clear hb hrd
      have e7 := hX.cell 7 rfl
      have r0 := hR.cell 0 rfl
      have fr0 := hR.frozen 0
      have r1 := hR.cell 1 rfl
      have fr1 := hR.frozen 1
      have r2 := hR.cell 2 rfl
      have fr2 := hR.frozen 2
      have r3 := hR.cell 3 rfl
      have fr3 := hR.frozen 3
      go_wp2_with fail
      have j0 := hR.put 0 (.int .i64 0) (cs' := #[.int .i64 0, .int .i64 0, .int .i64 0, .int .i64 0]) (by simp only [List.setIfInBounds_toArray, List.set_cons_zero])
      have j1 := j0.put 1 (.int .i64 0) (cs' := #[.int .i64 0, .int .i64 0, .int .i64 0, .int .i64 0]) (by simp only [List.setIfInBounds_toArray, List.set_cons_zero, List.set_cons_succ])
      have j2 := j1.put 2 (.int .i64 0) (cs' := #[.int .i64 0, .int .i64 0, .int .i64 0, .int .i64 0]) (by simp only [List.setIfInBounds_toArray, List.set_cons_zero, List.set_cons_succ])
      have j3 := j2.put 3 (.int .i64 0) (cs' := #[.int .i64 0, .int .i64 0, .int .i64 0, .int .i64 0]) (by simp only [List.setIfInBounds_toArray, List.set_cons_zero, List.set_cons_succ])
      obtain ⟨x0, x1, x2, x3⟩ := j3.cells4
      exact bodyPost_ret (v := .agg #[.int .i64 0, .int .i64 0, .int .i64 0, .int .i64 0]) (by simp [results, Tryz.results124, go_sem, x0, x1, x2, x3]) rfl ⟨ret_rc4 Hq.out, (((hB.setCell (by simp) _).setCell (by simp) _).setCell (by simp) _).setCell (by simp) _⟩
    | true =>
      obtain ⟨p1, h1⟩ : ∃ p, p = (sfSize f).1 := ⟨_, rfl⟩
      obtain ⟨p2, h2⟩ : ∃ p, p = (sfSize f).2 := ⟨_, rfl⟩
      have Hq := Lib.hid (show sfRect f = ⟨f.x, f.y, p1, p2⟩ by rw [sfRect_yes Hs.out hvis, h1, h2])
      have HP := fun W => osS f.bw f.bh f.orient W
      unfold TwoAns at HP
      obtain ⟨a, ha⟩ : ∃ a, a = (osM f.bw f.bh f.orient).1 := ⟨_, rfl⟩
      obtain ⟨b, hb⟩ : ∃ a, a = (osM f.bw f.bh f.orient).2 := ⟨_, rfl⟩
      rw [← ha, ← hb] at HP
      have HP := Lib.hid HP
      by_cases h0 : f.w = 0
      · have Hq2 := Lib.hid (show sfRect f = ⟨f.x, f.y, a, b⟩ by rw [Hq.out, h1, h2, ha, hb]; unfold sfSize; rw [if_pos h0])
        have hw : ¬ (0 : Int) < 0 := by omega
        rw [hvis] at hX hR HC hB HV
        rw [h0] at hX hR HC hB HV ⊢
        clear h1 h2 hvis ha hb h0 Hq
        go_enter Tryz.func124, Tryz.ntmps124
        go_wp2_with fail
        refine HC.out.mono ?_
        rintro e w1 ⟨rfl, hb⟩
        replace hX := hX.call hb
        replace hR := hR.call hb
        replace hB := belI_call hB hb
        have hrd := HV.out.call hb
        have Hrd := Lib.hid hrd
        clear hb hrd
        have e1 := hX.cell 1 rfl
        have e2 := hX.cell 2 rfl
        have e3 := hX.cell 3 rfl
        have e4 := hX.cell 4 rfl
        have e6 := hX.cell 6 rfl
        have e7 := hX.cell 7 rfl
        have e8 := hX.cell 8 rfl
        have e9 := hX.cell 9 rfl
        go_wp2_with fail
        refine (HP.out _).mono ?_
        rintro e w2 ⟨rfl, hb⟩
        clear e1 e2 e3 e4 e6 e7 e8 e9
        replace hX := hX.call hb
        replace hR := hR.call hb
        replace hB := belI_call hB hb
        clear hb
        have e1 := hX.cell 1 rfl
        have e2 := hX.cell 2 rfl
        have e3 := hX.cell 3 rfl
        have e4 := hX.cell 4 rfl
        have r0 := hR.cell 0 rfl
        have fr0 := hR.frozen 0
        have r1 := hR.cell 1 rfl
        have fr1 := hR.frozen 1
        have r2 := hR.cell 2 rfl
        have fr2 := hR.frozen 2
        have r3 := hR.cell 3 rfl
        have fr3 := hR.frozen 3
        go_wp2_with fail
        have j0 := hR.put 0 (.int .i64 f.x) (cs' := #[.int .i64 f.x, .int .i64 0, .int .i64 0, .int .i64 0]) (by simp only [List.setIfInBounds_toArray, List.set_cons_zero])
        have j1 := j0.put 1 (.int .i64 f.y) (cs' := #[.int .i64 f.x, .int .i64 f.y, .int .i64 0, .int .i64 0]) (by simp only [List.setIfInBounds_toArray, List.set_cons_zero, List.set_cons_succ])
        have j2 := j1.put 2 (.int .i64 a) (cs' := #[.int .i64 f.x, .int .i64 f.y, .int .i64 a, .int .i64 0]) (by simp only [List.setIfInBounds_toArray, List.set_cons_zero, List.set_cons_succ])
        have j3 := j2.put 3 (.int .i64 b) (cs' := #[.int .i64 f.x, .int .i64 f.y, .int .i64 a, .int .i64 b]) (by simp only [List.setIfInBounds_toArray, List.set_cons_zero, List.set_cons_succ])
        obtain ⟨x0, x1, x2, x3⟩ := j3.cells4
        exact bodyPost_ret (v := .agg #[.int .i64 f.x, .int .i64 f.y, .int .i64 a, .int .i64 b]) (by simp [results, Tryz.results124, go_sem, x0, x1, x2, x3]) rfl ⟨ret_rc4 Hq2.out, (((hB.setCell (by simp) _).setCell (by simp) _).setCell (by simp) _).setCell (by simp) _⟩
      · have hw : 0 < f.w := by rcases Hs.out.2.2.2.1 with h | h; exact absurd h.1 h0; have := h.1; omega
        have Hq2 := Lib.hid (show sfRect f = ⟨f.x, f.y, f.w, f.h⟩ by rw [Hq.out, h1, h2]; unfold sfSize; rw [if_neg h0])
        rw [hvis] at hX hR HC hB HV
        clear h1 h2 hvis ha hb h0 Hq
        go_enter Tryz.func124, Tryz.ntmps124
        go_wp2_with fail
        refine HC.out.mono ?_
        rintro e w1 ⟨rfl, hb⟩
        replace hX := hX.call hb
        replace hR := hR.call hb
        replace hB := belI_call hB hb
        have hrd := HV.out.call hb
        have Hrd := Lib.hid hrd
        clear hb hrd
        have e1 := hX.cell 1 rfl
        have e2 := hX.cell 2 rfl
        have e3 := hX.cell 3 rfl
        have e4 := hX.cell 4 rfl
        have e6 := hX.cell 6 rfl
        have e7 := hX.cell 7 rfl
        have e8 := hX.cell 8 rfl
        have e9 := hX.cell 9 rfl
        go_wp2_with fail
        refine (HP.out _).mono ?_
        rintro e w2 ⟨rfl, hb⟩
        clear e1 e2 e3 e4 e6 e7 e8 e9
        replace hX := hX.call hb
        replace hR := hR.call hb
        replace hB := belI_call hB hb
        clear hb
        have e1 := hX.cell 1 rfl
        have e2 := hX.cell 2 rfl
        have e3 := hX.cell 3 rfl
        have e4 := hX.cell 4 rfl
        have r0 := hR.cell 0 rfl
        have fr0 := hR.frozen 0
        have r1 := hR.cell 1 rfl
        have fr1 := hR.frozen 1
        have r2 := hR.cell 2 rfl
        have fr2 := hR.frozen 2
        have r3 := hR.cell 3 rfl
        have fr3 := hR.frozen 3
        go_wp2_with fail
        have j0 := hR.put 0 (.int .i64 f.x) (cs' := #[.int .i64 f.x, .int .i64 0, .int .i64 0, .int .i64 0]) (by simp only [List.setIfInBounds_toArray, List.set_cons_zero])
        have j1 := j0.put 1 (.int .i64 f.y) (cs' := #[.int .i64 f.x, .int .i64 f.y, .int .i64 0, .int .i64 0]) (by simp only [List.setIfInBounds_toArray, List.set_cons_zero, List.set_cons_succ])
        have j2 := j1.put 2 (.int .i64 f.w) (cs' := #[.int .i64 f.x, .int .i64 f.y, .int .i64 f.w, .int .i64 0]) (by simp only [List.setIfInBounds_toArray, List.set_cons_zero, List.set_cons_succ])
        have j3 := j2.put 3 (.int .i64 f.h) (cs' := #[.int .i64 f.x, .int .i64 f.y, .int .i64 f.w, .int .i64 f.h]) (by simp only [List.setIfInBounds_toArray, List.set_cons_zero, List.set_cons_succ])
        obtain ⟨x0, x1, x2, x3⟩ := j3.cells4
        exact bodyPost_ret (v := .agg #[.int .i64 f.x, .int .i64 f.y, .int .i64 f.w, .int .i64 f.h]) (by simp [results, Tryz.results124, go_sem, x0, x1, x2, x3]) rfl ⟨ret_rc4 Hq2.out, (((hB.setCell (by simp) _).setCell (by simp) _).setCell (by simp) _).setCell (by simp) _⟩
  · rw [sfB_no hs] at HC
    have Hq := Lib.hid (sfRect_no (f := f) fun e => hs e.1)
    clear hs
    go_enter Tryz.func124, Tryz.ntmps124
    go_wp2_with fail
    refine HC.out.mono ?_
    rintro e w1 ⟨rfl, hb⟩
    replace hX := hX.call hb
    replace hR := hR.call hb
    replace hB := belI_call hB hb
    have hrd := HV.out.call hb
    have Hrd := Lib.hid hrd
    clear hb hrd
    have e7 := hX.cell 7 rfl
    have r0 := hR.cell 0 rfl
    have fr0 := hR.frozen 0
    have r1 := hR.cell 1 rfl
    have fr1 := hR.frozen 1
    have r2 := hR.cell 2 rfl
    have fr2 := hR.frozen 2
    have r3 := hR.cell 3 rfl
    have fr3 := hR.frozen 3
    go_wp2_with fail
    have j0 := hR.put 0 (.int .i64 0) (cs' := #[.int .i64 0, .int .i64 0, .int .i64 0, .int .i64 0]) (by simp only [List.setIfInBounds_toArray, List.set_cons_zero])
    have j1 := j0.put 1 (.int .i64 0) (cs' := #[.int .i64 0, .int .i64 0, .int .i64 0, .int .i64 0]) (by simp only [List.setIfInBounds_toArray, List.set_cons_zero, List.set_cons_succ])
    have j2 := j1.put 2 (.int .i64 0) (cs' := #[.int .i64 0, .int .i64 0, .int .i64 0, .int .i64 0]) (by simp only [List.setIfInBounds_toArray, List.set_cons_zero, List.set_cons_succ])
    have j3 := j2.put 3 (.int .i64 0) (cs' := #[.int .i64 0, .int .i64 0, .int .i64 0, .int .i64 0]) (by simp only [List.setIfInBounds_toArray, List.set_cons_zero, List.set_cons_succ])
    obtain ⟨x0, x1, x2, x3⟩ := j3.cells4
    exact bodyPost_ret (v := .agg #[.int .i64 0, .int .i64 0, .int .i64 0, .int .i64 0]) (by simp [results, Tryz.results124, go_sem, x0, x1, x2, x3]) rfl ⟨ret_rc4 Hq.out, (((hB.setCell (by simp) _).setCell (by simp) _).setCell (by simp) _).setCell (by simp) _⟩
end Go.Proofs.YtokniebejilcbaaGreat
