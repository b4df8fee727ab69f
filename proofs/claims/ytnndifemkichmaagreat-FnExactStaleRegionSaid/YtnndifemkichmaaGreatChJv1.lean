/- The contract of ChainOk of the program. No statement is proved here. -/
import Derived.Test.YtnndifemkichmaaGreatMA
import Derived.Test.YtnndifemkichmaaGreatMB
import Derived.Test.YtnndifemkichmaaGreatB1sa
import Derived.Test.YtnndifemkichmaaGreatMAv1
import Derived.Test.YtnndifemkichmaaGreatB0na
import Derived.Test.YtnndifemkichmaaGreatB1sav1
import Derived.Test.YtnndifemkichmaaGreatChLv1
import Derived.Test.YtnndifemkichmaaGreatB1sbv1
import Derived.Test.YtnndifemkichmaaGreatProg
import Derived.WalkKit
import Derived.ProofKit
import Derived.OpenShut
import Derived.WalkLawsBesides
import Derived.WalkSpells
import Derived.ShutString
import Derived.ChangeOld
import Derived.Below
import Derived.Lib.Hide
import Derived.BigQuiet
import Derived.Deep.QuietTactic
import Derived.Maps.AppendAt
import Derived.Deep.OwnRows
import Derived.Handy
import Derived.Deep.Draws
import Derived.OwnWalk
import Derived.Deep.AppendLies
import Derived.Deep.LoopGhost
import Derived.Deep.Onto
import Derived.Deep.MidRow
import Derived.Deep.WholeRow
import Derived.Laws.BitsAllLaws
import Derived.Lib.QuoteBits
import Derived.Deep.RegionHeld3
import Derived.Deep.DeepCutAuto
import Derived.Test.YtnndifemkichmaaGreatShelf
import Derived.Laws.CopyOwn
import Derived.Deep.RegionLaw
import Derived.Great.BuildSlice
import Derived.Laws.AppendOwn
namespace Go.Proofs.YtnndifemkichmaaGreat
open Go.RowKit
structure CnA (w : World) (f : Ch) (a b e d : Value) (bs : List Nat) (W : World) : Prop where
 at_ : BkAt W w.heap.size 34 #[a, b, e, .int .i64 f.s.w, .int .i64 f.s.h, .int .i64 f.s.back, d]
 r : repCh.R W f [a, b, e, .int .i64 f.s.w, .int .i64 f.s.h, .int .i64 f.s.back, d] bs
 bw : Below w.heap.size w W
section
variable {w : World} {f : Ch} {a b e d : Value} {bs : List Nat} {W W' : World}
theorem CnA.call (h : CnA w f a b e d bs W) (hb : Below W.heap.size W W') : CnA w f a b e d bs W' := ⟨h.at_.call hb, Rep.call h.r hb, belI_call h.bw hb⟩
theorem CnA.born (h : repCh.R w f [a, b, e, .int .i64 f.s.w, .int .i64 f.s.h, .int .i64 f.s.back, d] bs) : CnA w f a b e d bs (w.alloc (.cells #[a, b, e, .int .i64 f.s.w, .int .i64 f.s.h, .int .i64 f.s.back, d] 34)) :=
 ⟨BkAt.new _ _ _, Rep.call h (belI_box _ _), belI_box _ _⟩
theorem CnA.cells (h : CnA w f a b e d bs W) : W.cell? ⟨w.heap.size, 0, none⟩ = some a ∧ W.cell? ⟨w.heap.size, 1, none⟩ = some b ∧ W.cell? ⟨w.heap.size, 2, none⟩ = some e ∧ W.cell? ⟨w.heap.size, 3, none⟩ = some (.int .i64 f.s.w) ∧ W.cell? ⟨w.heap.size, 4, none⟩ = some (.int .i64 f.s.h) ∧ W.cell? ⟨w.heap.size, 5, none⟩ = some (.int .i64 f.s.back) ∧ W.cell? ⟨w.heap.size, 6, none⟩ = some d :=
 ⟨h.at_.cell 0 rfl, h.at_.cell 1 rfl, h.at_.cell 2 rfl, h.at_.cell 3 rfl, h.at_.cell 4 rfl, h.at_.cell 5 rfl, h.at_.cell 6 rfl⟩
theorem CnA.i (h : CnA w f a b e d bs W) : ∃ b1, repIms.R W f.ims [a] b1 := by obtain ⟨b1, b2, b3, b4, h1, h2, h3, h4, _⟩ := r_cn h.r; exact ⟨_, h1⟩
theorem CnA.g (h : CnA w f a b e d bs W) : RdI W b f.ages := by obtain ⟨b1, b2, b3, b4, h1, h2, h3, h4, _⟩ := r_cn h.r; exact repInts_rd h2
theorem CnA.r' (h : CnA w f a b e d bs W) : ∃ b3, repRgs.R W f.rgs [e] b3 := by obtain ⟨b1, b2, b3, b4, h1, h2, h3, h4, _⟩ := r_cn h.r; exact ⟨_, h3⟩
theorem CnA.sn (h : CnA w f a b e d bs W) : ∃ b4, repSfs.R W f.s.fs [d] b4 := by obtain ⟨b1, b2, b3, b4, h1, h2, h3, h4, _⟩ := r_cn h.r; exact ⟨_, h4⟩
end
def CnOkAns (f : Ch) (w : World) (e : Ending) (w' : World) : Prop := e = .returned (.bool (cnB f)) ∧ Below w.heap.size w w'
set_option maxHeartbeats 20000000 in
set_option maxRecDepth 10000 in
theorem cnI (f : Ch) (a b e d : Value) (bs : List Nat) (w : World) (h : repCh.R w f [a, b, e, .int .i64 f.s.w, .int .i64 f.s.h, .int .i64 f.s.back, d] bs) :
  Calls Tryz.prog 16 #[.agg #[a, b, e, .int .i64 f.s.w, .int .i64 f.s.h, .int .i64 f.s.back, d]] w (CnOkAns f w) := by
 have hT := CnA.born h
 obtain ⟨A0, c0, A1, c1, A2, c2, A3, c3, rfl, rfl, rfl, rfl⟩ := form_cn h
 have HS := Lib.hid (fun (W : World) (h : ∃ b4, repSfs.R W f.s.fs [.slice A3 f.s.fs.length c3] b4) => by obtain ⟨b4, h⟩ := h; exact snI f.s _ b4 W h)
 have HU := Lib.hid (fun (W : World) (h : ∃ b1, repIms.R W f.ims [.slice A0 f.ims.length c0] b1) (hs : ∃ b4, repSfs.R W f.s.fs [.slice A3 f.s.fs.length c3] b4) => by obtain ⟨b1, h⟩ := h; obtain ⟨b4, hs⟩ := hs; exact bufI f.s _ f.ims _ b1 b4 W hs h)
 have HD := Lib.hid (fun (W : World) (h : ∃ b3, repRgs.R W f.rgs [.slice A2 f.rgs.length c2] b3) => by obtain ⟨b3, h⟩ := h; exact dmsI f.rgs _ b3 W h)
 unfold SnOkAns at HS
 clear h
 go_enter Tryz.func16, Tryz.ntmps16
 go_upto_region 1 with fail
 refine wp_region_held_drew (S := fun W => CnA w f (.slice A0 f.ims.length c0) (.slice A1 f.ages.length c1) (.slice A2 f.rgs.length c2) (.slice A3 f.s.fs.length c3) bs W) (by kernel_rfl) (hT.call (belI_drew _)) (fun hS => ?_)
 refine tcH (i := 0) (v := .pointer (some ⟨w.heap.size, 3, none⟩)) rfl (by intro w' hSw; (try dsimp only at hSw); (obtain ⟨d0, d1, d2, d3, d4, d5, d6⟩ := hSw.cells); go_simp) ?_
 refine tcH (i := 1) (v := .agg #[.int .i64 f.s.w, .int .i64 f.s.h, .int .i64 f.s.back, .slice A3 f.s.fs.length c3]) rfl (by intro w' hSw; (try dsimp only at hSw); (obtain ⟨d0, d1, d2, d3, d4, d5, d6⟩ := hSw.cells); go_simp) ?_
 (try simp only [Act.put]); (try simp only [zPa]); (try simp only [zPb, zPc])
 refine wpAnyH_ready (rs := [2]) (by kernel_rfl) (by simp) ?_
 refine (AllReadyH.cons rfl (fun K hK => ?_) AllReadyH.nil)
 ·rw [if_pos (by kernel_rfl)]
  by_cases q0 : snOk f.s
  rotate_left
  ·have hno := Lib.hid (cnB_no (c := f) (fun h => q0 h.1))
   rw [snB_no q0] at HS
   (try simp only [zGa]); (try simp only [zGb]); (try simp only [zGc])
   go_simp
   with_reducible refine (HS.out _ hS.sn).mono ?_
   rintro e W' ⟨rfl, hb⟩
   dsimp only
   refine hK.out _ _ (hS.call hb) (fun hS => ?_)
   clear hK
   (try simp only [Act.put]); (try simp only [zPa]); (try simp only [zPb, zPc])
   refine tcH (i := 3) (v := .bool false) rfl (by intro w' hSw; (try dsimp only at hSw); (obtain ⟨d0, d1, d2, d3, d4, d5, d6⟩ := hSw.cells); go_simp) ?_
   refine tnH (i := 4) rfl ?_
   refine tnH (i := 5) rfl ?_
   refine tnH (i := 6) rfl ?_
   refine tnH (i := 7) rfl ?_
   refine tnH (i := 8) rfl ?_
   refine tcH (i := 9) (v := .bool false) rfl (by intro w' hSw; (try dsimp only at hSw); (obtain ⟨d0, d1, d2, d3, d4, d5, d6⟩ := hSw.cells); go_simp) ?_
   refine tcH (i := 10) (v := .bool false) rfl (by intro w' hSw; (try dsimp only at hSw); (obtain ⟨d0, d1, d2, d3, d4, d5, d6⟩ := hSw.cells); go_simp) ?_
   refine tnH (i := 11) rfl ?_
   refine tnH (i := 12) rfl ?_
   refine tnH (i := 13) rfl ?_
   refine tcH (i := 14) (v := .bool false) rfl (by intro w' hSw; (try dsimp only at hSw); (obtain ⟨d0, d1, d2, d3, d4, d5, d6⟩ := hSw.cells); go_simp) ?_
   refine tcH (i := 15) (v := .bool false) rfl (by intro w' hSw; (try dsimp only at hSw); (obtain ⟨d0, d1, d2, d3, d4, d5, d6⟩ := hSw.cells); go_simp) ?_
   refine tnH (i := 16) rfl ?_
   refine tnH (i := 17) rfl ?_
   refine tnH (i := 18) rfl ?_
   refine tnH (i := 19) rfl ?_
   refine tnH (i := 20) rfl ?_
   refine tnH (i := 21) rfl ?_
   refine tnH (i := 22) rfl ?_
   refine tcH (i := 23) (v := .bool false) rfl (by intro w' hSw; (try dsimp only at hSw); (obtain ⟨d0, d1, d2, d3, d4, d5, d6⟩ := hSw.cells); go_simp) ?_
   refine tcH (i := 24) (v := .bool false) rfl (by intro w' hSw; (try dsimp only at hSw); (obtain ⟨d0, d1, d2, d3, d4, d5, d6⟩ := hSw.cells); go_simp) ?_
   refine tnH (i := 25) rfl ?_
   refine tnH (i := 26) rfl ?_
   refine tnH (i := 27) rfl ?_
   refine tnH (i := 28) rfl ?_
   refine tnH (i := 29) rfl ?_
   refine tnH (i := 30) rfl ?_
   refine tcH (i := 31) (v := .bool false) rfl (by intro w' hSw; (try dsimp only at hSw); (obtain ⟨d0, d1, d2, d3, d4, d5, d6⟩ := hSw.cells); go_simp) ?_
   refine tcH (i := 32) (v := .bool false) rfl (by intro w' hSw; (try dsimp only at hSw); (obtain ⟨d0, d1, d2, d3, d4, d5, d6⟩ := hSw.cells); go_simp) ?_
   go_simp
   refine wpAnyH_done (by kernel_rfl) ?_ _
   go_wp2_with fail
   go_ret
   exact ⟨ret_bool hno.out.symm, hS.bw⟩
  have Q0 := Lib.hid q0
  rw [snB_yes q0] at HS
  clear q0
  (try simp only [zGa]); (try simp only [zGb]); (try simp only [zGc])
  go_simp
  with_reducible refine (HS.out _ hS.sn).mono ?_
  rintro e W' ⟨rfl, hb⟩
  dsimp only
  refine hK.out _ _ (hS.call hb) (fun hS => ?_)
  clear hK
  (try simp only [Act.put]); (try simp only [zPa]); (try simp only [zPb, zPc])
  refine tcH (i := 3) (v := .bool true) rfl (by intro w' hSw; (try dsimp only at hSw); (obtain ⟨d0, d1, d2, d3, d4, d5, d6⟩ := hSw.cells); go_simp) ?_
  refine tcH (i := 4) (v := .pointer (some ⟨w.heap.size, 3, none⟩)) rfl (by intro w' hSw; (try dsimp only at hSw); (obtain ⟨d0, d1, d2, d3, d4, d5, d6⟩ := hSw.cells); go_simp) ?_
  refine tcH (i := 5) (v := .agg #[.int .i64 f.s.w, .int .i64 f.s.h, .int .i64 f.s.back, .slice A3 f.s.fs.length c3]) rfl (by intro w' hSw; (try dsimp only at hSw); (obtain ⟨d0, d1, d2, d3, d4, d5, d6⟩ := hSw.cells); go_simp) ?_
  refine tcH (i := 6) (v := .pointer (some ⟨w.heap.size, 0, none⟩)) rfl (by intro w' hSw; (try dsimp only at hSw); (obtain ⟨d0, d1, d2, d3, d4, d5, d6⟩ := hSw.cells); go_simp) ?_
  refine tcH (i := 7) (v := .slice A0 f.ims.length c0) rfl (by intro w' hSw; (try dsimp only at hSw); (obtain ⟨d0, d1, d2, d3, d4, d5, d6⟩ := hSw.cells); go_simp) ?_
  (try simp only [Act.put]); (try simp only [zPa]); (try simp only [zPb, zPc])
  refine wpAnyH_ready (rs := [8]) (by kernel_rfl) (by simp) ?_
  refine (AllReadyH.cons rfl (fun K hK => ?_) AllReadyH.nil)
  ·rw [if_pos (by kernel_rfl)]
   by_cases q1 : bufP f.s.w f.s.h f.ims
   rotate_left
   ·have hno := Lib.hid (cnB_no (c := f) (fun h => q1 h.2.1))
    rw [bufB_no q1] at HU
    (try simp only [zGa]); (try simp only [zGb]); (try simp only [zGc])
    go_simp
    with_reducible refine (HU.out _ hS.i hS.sn).mono ?_
    rintro e W' ⟨rfl, hb⟩
    dsimp only
    refine hK.out _ _ (hS.call hb) (fun hS => ?_)
    clear hK
    (try simp only [Act.put]); (try simp only [zPa]); (try simp only [zPb, zPc])
    refine tcH (i := 9) (v := .bool false) rfl (by intro w' hSw; (try dsimp only at hSw); (obtain ⟨d0, d1, d2, d3, d4, d5, d6⟩ := hSw.cells); go_simp) ?_
    refine tcH (i := 10) (v := .bool false) rfl (by intro w' hSw; (try dsimp only at hSw); (obtain ⟨d0, d1, d2, d3, d4, d5, d6⟩ := hSw.cells); go_simp) ?_
    refine tnH (i := 11) rfl ?_
    refine tnH (i := 12) rfl ?_
    refine tnH (i := 13) rfl ?_
    refine tcH (i := 14) (v := .bool false) rfl (by intro w' hSw; (try dsimp only at hSw); (obtain ⟨d0, d1, d2, d3, d4, d5, d6⟩ := hSw.cells); go_simp) ?_
    refine tcH (i := 15) (v := .bool false) rfl (by intro w' hSw; (try dsimp only at hSw); (obtain ⟨d0, d1, d2, d3, d4, d5, d6⟩ := hSw.cells); go_simp) ?_
    refine tnH (i := 16) rfl ?_
    refine tnH (i := 17) rfl ?_
    refine tnH (i := 18) rfl ?_
    refine tnH (i := 19) rfl ?_
    refine tnH (i := 20) rfl ?_
    refine tnH (i := 21) rfl ?_
    refine tnH (i := 22) rfl ?_
    refine tcH (i := 23) (v := .bool false) rfl (by intro w' hSw; (try dsimp only at hSw); (obtain ⟨d0, d1, d2, d3, d4, d5, d6⟩ := hSw.cells); go_simp) ?_
    refine tcH (i := 24) (v := .bool false) rfl (by intro w' hSw; (try dsimp only at hSw); (obtain ⟨d0, d1, d2, d3, d4, d5, d6⟩ := hSw.cells); go_simp) ?_
    refine tnH (i := 25) rfl ?_
    refine tnH (i := 26) rfl ?_
    refine tnH (i := 27) rfl ?_
    refine tnH (i := 28) rfl ?_
    refine tnH (i := 29) rfl ?_
    refine tnH (i := 30) rfl ?_
    refine tcH (i := 31) (v := .bool false) rfl (by intro w' hSw; (try dsimp only at hSw); (obtain ⟨d0, d1, d2, d3, d4, d5, d6⟩ := hSw.cells); go_simp) ?_
    refine tcH (i := 32) (v := .bool false) rfl (by intro w' hSw; (try dsimp only at hSw); (obtain ⟨d0, d1, d2, d3, d4, d5, d6⟩ := hSw.cells); go_simp) ?_
    go_simp
    refine wpAnyH_done (by kernel_rfl) ?_ _
    go_wp2_with fail
    go_ret
    exact ⟨ret_bool hno.out.symm, hS.bw⟩
   have Q1 := Lib.hid q1
   rw [bufB_yes q1] at HU
   clear q1
   (try simp only [zGa]); (try simp only [zGb]); (try simp only [zGc])
   go_simp
   with_reducible refine (HU.out _ hS.i hS.sn).mono ?_
   rintro e W' ⟨rfl, hb⟩
   dsimp only
   refine hK.out _ _ (hS.call hb) (fun hS => ?_)
   clear hK
   (try simp only [Act.put]); (try simp only [zPa]); (try simp only [zPb, zPc])
   refine tcH (i := 9) (v := .bool true) rfl (by intro w' hSw; (try dsimp only at hSw); (obtain ⟨d0, d1, d2, d3, d4, d5, d6⟩ := hSw.cells); go_simp) ?_
   refine tcH (i := 10) (v := .bool true) rfl (by intro w' hSw; (try dsimp only at hSw); (obtain ⟨d0, d1, d2, d3, d4, d5, d6⟩ := hSw.cells); go_simp) ?_
   refine tcH (i := 11) (v := .pointer (some ⟨w.heap.size, 2, none⟩)) rfl (by intro w' hSw; (try dsimp only at hSw); (obtain ⟨d0, d1, d2, d3, d4, d5, d6⟩ := hSw.cells); go_simp) ?_
   refine tcH (i := 12) (v := .slice A2 f.rgs.length c2) rfl (by intro w' hSw; (try dsimp only at hSw); (obtain ⟨d0, d1, d2, d3, d4, d5, d6⟩ := hSw.cells); go_simp) ?_
   (try simp only [Act.put]); (try simp only [zPa]); (try simp only [zPb, zPc])
   refine wpAnyH_ready (rs := [13]) (by kernel_rfl) (by simp) ?_
   refine (AllReadyH.cons rfl (fun K hK => ?_) AllReadyH.nil)
   ·rw [if_pos (by kernel_rfl)]
    by_cases q2 : dmsP f.rgs
    rotate_left
    ·have hno := Lib.hid (cnB_no (c := f) (fun h => q2 h.2.2.1))
     rw [dmsB_no q2] at HD
     (try simp only [zGa]); (try simp only [zGb]); (try simp only [zGc])
     go_simp
     with_reducible refine (HD.out _ hS.r').mono ?_
     rintro e W' ⟨rfl, hb⟩
     dsimp only
     refine hK.out _ _ (hS.call hb) (fun hS => ?_)
     clear hK
     (try simp only [Act.put]); (try simp only [zPa]); (try simp only [zPb, zPc])
     refine tcH (i := 14) (v := .bool false) rfl (by intro w' hSw; (try dsimp only at hSw); (obtain ⟨d0, d1, d2, d3, d4, d5, d6⟩ := hSw.cells); go_simp) ?_
     refine tcH (i := 15) (v := .bool false) rfl (by intro w' hSw; (try dsimp only at hSw); (obtain ⟨d0, d1, d2, d3, d4, d5, d6⟩ := hSw.cells); go_simp) ?_
     refine tnH (i := 16) rfl ?_
     refine tnH (i := 17) rfl ?_
     refine tnH (i := 18) rfl ?_
     refine tnH (i := 19) rfl ?_
     refine tnH (i := 20) rfl ?_
     refine tnH (i := 21) rfl ?_
     refine tnH (i := 22) rfl ?_
     refine tcH (i := 23) (v := .bool false) rfl (by intro w' hSw; (try dsimp only at hSw); (obtain ⟨d0, d1, d2, d3, d4, d5, d6⟩ := hSw.cells); go_simp) ?_
     refine tcH (i := 24) (v := .bool false) rfl (by intro w' hSw; (try dsimp only at hSw); (obtain ⟨d0, d1, d2, d3, d4, d5, d6⟩ := hSw.cells); go_simp) ?_
     refine tnH (i := 25) rfl ?_
     refine tnH (i := 26) rfl ?_
     refine tnH (i := 27) rfl ?_
     refine tnH (i := 28) rfl ?_
     refine tnH (i := 29) rfl ?_
     refine tnH (i := 30) rfl ?_
     refine tcH (i := 31) (v := .bool false) rfl (by intro w' hSw; (try dsimp only at hSw); (obtain ⟨d0, d1, d2, d3, d4, d5, d6⟩ := hSw.cells); go_simp) ?_
     refine tcH (i := 32) (v := .bool false) rfl (by intro w' hSw; (try dsimp only at hSw); (obtain ⟨d0, d1, d2, d3, d4, d5, d6⟩ := hSw.cells); go_simp) ?_
     go_simp
     refine wpAnyH_done (by kernel_rfl) ?_ _
     go_wp2_with fail
     go_ret
     exact ⟨ret_bool hno.out.symm, hS.bw⟩
    have Q2 := Lib.hid q2
    rw [dmsB_yes q2] at HD
    have HG := Lib.hid (fun W => grI A2 f.rgs.length c2 W (by have := Q2.out.1; omega))
    have HQ := Lib.hid (fun W h => agesI f.ages (.slice A1 f.ages.length c1) (grA f.rgs.length) W h)
    clear q2
    (try simp only [zGa]); (try simp only [zGb]); (try simp only [zGc])
    go_simp
    with_reducible refine (HD.out _ hS.r').mono ?_
    rintro e W' ⟨rfl, hb⟩
    dsimp only
    refine hK.out _ _ (hS.call hb) (fun hS => ?_)
    clear hK
    (try simp only [Act.put]); (try simp only [zPa]); (try simp only [zPb, zPc])
    refine tcH (i := 14) (v := .bool true) rfl (by intro w' hSw; (try dsimp only at hSw); (obtain ⟨d0, d1, d2, d3, d4, d5, d6⟩ := hSw.cells); go_simp) ?_
    refine tcH (i := 15) (v := .bool true) rfl (by intro w' hSw; (try dsimp only at hSw); (obtain ⟨d0, d1, d2, d3, d4, d5, d6⟩ := hSw.cells); go_simp) ?_
    by_cases q3 : f.ages.length = f.ims.length
    rotate_left
    ·have hno := Lib.hid (cnB_no (c := f) (fun h => q3 h.2.2.2.1))
     have q3b : ((f.ages.length : Int) == (f.ims.length : Int)) = false := by simpa using (fun h => q3 (by exact_mod_cast h))
     clear q3
     refine tcH (i := 16) (v := .pointer (some ⟨w.heap.size, 1, none⟩)) rfl (by intro w' hSw; (try dsimp only at hSw); (obtain ⟨d0, d1, d2, d3, d4, d5, d6⟩ := hSw.cells); go_simp) ?_
     refine tcH (i := 17) (v := .slice A1 f.ages.length c1) rfl (by intro w' hSw; (try dsimp only at hSw); (obtain ⟨d0, d1, d2, d3, d4, d5, d6⟩ := hSw.cells); go_simp) ?_
     refine tcH (i := 18) (v := .int .i64 (f.ages.length : Int)) rfl (by intro w' hSw; (try dsimp only at hSw); (obtain ⟨d0, d1, d2, d3, d4, d5, d6⟩ := hSw.cells); go_simp) ?_
     refine tcH (i := 19) (v := .pointer (some ⟨w.heap.size, 0, none⟩)) rfl (by intro w' hSw; (try dsimp only at hSw); (obtain ⟨d0, d1, d2, d3, d4, d5, d6⟩ := hSw.cells); go_simp) ?_
     refine tcH (i := 20) (v := .slice A0 f.ims.length c0) rfl (by intro w' hSw; (try dsimp only at hSw); (obtain ⟨d0, d1, d2, d3, d4, d5, d6⟩ := hSw.cells); go_simp) ?_
     refine tcH (i := 21) (v := .int .i64 (f.ims.length : Int)) rfl (by intro w' hSw; (try dsimp only at hSw); (obtain ⟨d0, d1, d2, d3, d4, d5, d6⟩ := hSw.cells); go_simp) ?_
     refine tcH (i := 22) (v := .bool false) rfl (by intro w' hSw; (try dsimp only at hSw); (obtain ⟨d0, d1, d2, d3, d4, d5, d6⟩ := hSw.cells); go_simp) ?_
     refine tcH (i := 23) (v := .bool false) rfl (by intro w' hSw; (try dsimp only at hSw); (obtain ⟨d0, d1, d2, d3, d4, d5, d6⟩ := hSw.cells); go_simp) ?_
     refine tcH (i := 24) (v := .bool false) rfl (by intro w' hSw; (try dsimp only at hSw); (obtain ⟨d0, d1, d2, d3, d4, d5, d6⟩ := hSw.cells); go_simp) ?_
     refine tnH (i := 25) rfl ?_
     refine tnH (i := 26) rfl ?_
     refine tnH (i := 27) rfl ?_
     refine tnH (i := 28) rfl ?_
     refine tnH (i := 29) rfl ?_
     refine tnH (i := 30) rfl ?_
     refine tcH (i := 31) (v := .bool false) rfl (by intro w' hSw; (try dsimp only at hSw); (obtain ⟨d0, d1, d2, d3, d4, d5, d6⟩ := hSw.cells); go_simp) ?_
     refine tcH (i := 32) (v := .bool false) rfl (by intro w' hSw; (try dsimp only at hSw); (obtain ⟨d0, d1, d2, d3, d4, d5, d6⟩ := hSw.cells); go_simp) ?_
     go_simp
     refine wpAnyH_done (by kernel_rfl) ?_ _
     go_wp2_with fail
     go_ret
     exact ⟨ret_bool hno.out.symm, hS.bw⟩
    have Q3 := Lib.hid q3
    have q3b : ((f.ages.length : Int) == (f.ims.length : Int)) = true := by rw [q3]; exact beq_self_eq_true _
    clear q3
    refine tcH (i := 16) (v := .pointer (some ⟨w.heap.size, 1, none⟩)) rfl (by intro w' hSw; (try dsimp only at hSw); (obtain ⟨d0, d1, d2, d3, d4, d5, d6⟩ := hSw.cells); go_simp) ?_
    refine tcH (i := 17) (v := .slice A1 f.ages.length c1) rfl (by intro w' hSw; (try dsimp only at hSw); (obtain ⟨d0, d1, d2, d3, d4, d5, d6⟩ := hSw.cells); go_simp) ?_
    refine tcH (i := 18) (v := .int .i64 (f.ages.length : Int)) rfl (by intro w' hSw; (try dsimp only at hSw); (obtain ⟨d0, d1, d2, d3, d4, d5, d6⟩ := hSw.cells); go_simp) ?_
    refine tcH (i := 19) (v := .pointer (some ⟨w.heap.size, 0, none⟩)) rfl (by intro w' hSw; (try dsimp only at hSw); (obtain ⟨d0, d1, d2, d3, d4, d5, d6⟩ := hSw.cells); go_simp) ?_
    refine tcH (i := 20) (v := .slice A0 f.ims.length c0) rfl (by intro w' hSw; (try dsimp only at hSw); (obtain ⟨d0, d1, d2, d3, d4, d5, d6⟩ := hSw.cells); go_simp) ?_
    refine tcH (i := 21) (v := .int .i64 (f.ims.length : Int)) rfl (by intro w' hSw; (try dsimp only at hSw); (obtain ⟨d0, d1, d2, d3, d4, d5, d6⟩ := hSw.cells); go_simp) ?_
    refine tcH (i := 22) (v := .bool true) rfl (by intro w' hSw; (try dsimp only at hSw); (obtain ⟨d0, d1, d2, d3, d4, d5, d6⟩ := hSw.cells); go_simp) ?_
    refine tcH (i := 23) (v := .bool true) rfl (by intro w' hSw; (try dsimp only at hSw); (obtain ⟨d0, d1, d2, d3, d4, d5, d6⟩ := hSw.cells); go_simp) ?_
    refine tcH (i := 24) (v := .bool true) rfl (by intro w' hSw; (try dsimp only at hSw); (obtain ⟨d0, d1, d2, d3, d4, d5, d6⟩ := hSw.cells); go_simp) ?_
    refine tcH (i := 25) (v := .pointer (some ⟨w.heap.size, 1, none⟩)) rfl (by intro w' hSw; (try dsimp only at hSw); (obtain ⟨d0, d1, d2, d3, d4, d5, d6⟩ := hSw.cells); go_simp) ?_
    refine tcH (i := 26) (v := .slice A1 f.ages.length c1) rfl (by intro w' hSw; (try dsimp only at hSw); (obtain ⟨d0, d1, d2, d3, d4, d5, d6⟩ := hSw.cells); go_simp) ?_
    refine tcH (i := 27) (v := .pointer (some ⟨w.heap.size, 2, none⟩)) rfl (by intro w' hSw; (try dsimp only at hSw); (obtain ⟨d0, d1, d2, d3, d4, d5, d6⟩ := hSw.cells); go_simp) ?_
    refine tcH (i := 28) (v := .slice A2 f.rgs.length c2) rfl (by intro w' hSw; (try dsimp only at hSw); (obtain ⟨d0, d1, d2, d3, d4, d5, d6⟩ := hSw.cells); go_simp) ?_
    (try simp only [Act.put]); (try simp only [zPa]); (try simp only [zPb, zPc])
    refine wpAnyH_ready (rs := [29]) (by kernel_rfl) (by simp) ?_
    refine (AllReadyH.cons rfl (fun K hK => ?_) AllReadyH.nil)
    ·rw [if_pos (by kernel_rfl)]
     (try simp only [zGa]); (try simp only [zGb]); (try simp only [zGc])
     go_simp
     with_reducible refine (HG.out _).mono ?_
     rintro e W' ⟨rfl, rfl⟩
     dsimp only
     refine hK.out _ _ (hS) (fun hS => ?_)
     clear hK
     (try simp only [Act.put]); (try simp only [zPa]); (try simp only [zPb, zPc])
     refine wpAnyH_ready (rs := [30]) (by kernel_rfl) (by simp) ?_
     refine (AllReadyH.cons rfl (fun K hK => ?_) AllReadyH.nil)
     ·rw [if_pos (by kernel_rfl)]
      by_cases q4 : agesP f.ages (grA f.rgs.length)
      rotate_left
      ·have hno := Lib.hid (cnB_no (c := f) (fun h => q4 h.2.2.2.2))
       rw [agesB_no q4] at HQ
       (try simp only [zGa]); (try simp only [zGb]); (try simp only [zGc])
       go_simp
       with_reducible refine (HQ.out _ hS.g).mono ?_
       rintro e W' ⟨rfl, rfl⟩
       dsimp only
       refine hK.out _ _ (hS) (fun hS => ?_)
       clear hK
       (try simp only [Act.put]); (try simp only [zPa]); (try simp only [zPb, zPc])
       refine tcH (i := 31) (v := .bool false) rfl (by intro w' hSw; (try dsimp only at hSw); (obtain ⟨d0, d1, d2, d3, d4, d5, d6⟩ := hSw.cells); go_simp) ?_
       refine tcH (i := 32) (v := .bool false) rfl (by intro w' hSw; (try dsimp only at hSw); (obtain ⟨d0, d1, d2, d3, d4, d5, d6⟩ := hSw.cells); go_simp) ?_
       refine wpAnyH_done (by kernel_rfl) ?_ _
       go_wp2_with fail
       go_ret
       exact ⟨ret_bool hno.out.symm, hS.bw⟩
      have Q4 := Lib.hid q4
      rw [agesB_yes q4] at HQ
      clear q4
      have hno := Lib.hid (cnB_yes (c := f) ⟨Q0.out, Q1.out, Q2.out, Q3.out, Q4.out⟩)
      (try simp only [zGa]); (try simp only [zGb]); (try simp only [zGc])
      go_simp
      with_reducible refine (HQ.out _ hS.g).mono ?_
      rintro e W' ⟨rfl, rfl⟩
      dsimp only
      refine hK.out _ _ (hS) (fun hS => ?_)
      clear hK
      (try simp only [Act.put]); (try simp only [zPa]); (try simp only [zPb, zPc])
      refine tcH (i := 31) (v := .bool true) rfl (by intro w' hSw; (try dsimp only at hSw); (obtain ⟨d0, d1, d2, d3, d4, d5, d6⟩ := hSw.cells); go_simp) ?_
      refine tcH (i := 32) (v := .bool true) rfl (by intro w' hSw; (try dsimp only at hSw); (obtain ⟨d0, d1, d2, d3, d4, d5, d6⟩ := hSw.cells); go_simp) ?_
      refine wpAnyH_done (by kernel_rfl) ?_ _
      go_wp2_with fail
      go_ret
      exact ⟨ret_bool hno.out.symm, hS.bw⟩
end Go.Proofs.YtnndifemkichmaaGreat
