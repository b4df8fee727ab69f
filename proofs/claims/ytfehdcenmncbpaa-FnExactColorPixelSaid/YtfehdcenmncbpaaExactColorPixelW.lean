/- The walk of the law FnExactColorPixel: it returns true for every color map and number. -/
import Derived.Test.YtfehdcenmncbpaaRd
import Derived.Test.YtfehdcenmncbpaaIntR
import Derived.Test.YtfehdcenmncbpaaImR
import Derived.Test.YtfehdcenmncbpaaPixM
import Derived.Test.YtfehdcenmncbpaaPixA
import Derived.Test.YtfehdcenmncbpaaColM
import Derived.Test.YtfehdcenmncbpaaImV
import Derived.Test.YtfehdcenmncbpaaBk
import Derived.Test.YtfehdcenmncbpaaCmB
import Derived.Test.YtfehdcenmncbpaaBlk4
import Derived.Test.YtfehdcenmncbpaaHasC
import Derived.Test.YtfehdcenmncbpaaRectEq
import Derived.Test.YtfehdcenmncbpaaRds
import Derived.Test.YtfehdcenmncbpaaCmP
import Derived.Test.YtfehdcenmncbpaaCmQ
import Derived.Test.YtfehdcenmncbpaaFilB
import Derived.Test.YtfehdcenmncbpaaCrpB
import Derived.Test.YtfehdcenmncbpaaLaw
import Derived.Test.YtfehdcenmncbpaaCmE
import Derived.Test.YtfehdcenmncbpaaProg
import Derived.WalkKit
import Derived.ProofKit
import Derived.OpenShut
import Derived.WalkLawsBesides
import Derived.WalkSpells
import Derived.ShutString
import Derived.ChangeOld
import Derived.Below
import Derived.Lib.Hide
import Derived.BigQuiet
import Derived.Deep.QuietTactic
import Derived.Maps.AppendAt
import Derived.Deep.OwnRows
import Derived.Handy
import Derived.Deep.Draws
import Derived.OwnWalk
import Derived.Deep.AppendLies
import Derived.Deep.LoopGhost
import Derived.Deep.Onto
import Derived.Deep.RegionHeld3
import Derived.Deep.DeepCutAuto
import Derived.Laws.BitsAllLaws
import Derived.Lib.QuoteBits
import Derived.Test.YtfehdcenmncbpaaShelf
import Derived.Laws.CopyOwn
import Derived.Deep.RegionLaw
import Derived.Great.BuildSlice
import Derived.Deep.MidRow
import Derived.Deep.WholeRow
import Derived.Laws.AppendOwn
import Derived.ChangeKeysEq
namespace Go.Proofs.Ytfehdcenmncbpaa
open Go.RowKit
set_option maxHeartbeats 4000000 in
set_option maxRecDepth 10000 in
theorem walk_FnExactColorPixel (v0 v0c : Value) (L0 C0 : List Int) (p1 : Int) (_ : (Lit.int .i64 p1).wf = true) (w : World) (h0 : Rd w v0 L0.length (intCells L0)) (h0c : Rd w v0c C0.length (intCells C0)) :
    Calls Try.prog 8 #[.agg #[v0, v0c], .int .i64 p1] w fun e w' => e = .returned (.bool true) ∧ Below w.heap.size w w' := by
  obtain ⟨A0, c0, rfl⟩ := h0.form
  have hm0 : L0.length ≤ maxLen := h0.len.2
  obtain ⟨B0, d0, rfl⟩ := h0c.form
  have hm0c : C0.length ≤ maxLen := h0c.len.2
  have O0 := Lib.hid h0
  have O0c := Lib.hid h0c
  have Kw := Below.refl w.heap.size w
  have hb0 := belI_box w (.cells #[.slice A0 L0.length c0, .slice B0 C0.length d0] 34)
  have a0 : CmA (w.heap.size) (.slice A0 L0.length c0) (.slice B0 C0.length d0) L0 C0 (w.alloc (.cells #[.slice A0 L0.length c0, .slice B0 C0.length d0] 34)) := ⟨cmA_at (w := w) (by simp) _ _, (h0.call Kw).call hb0, (h0c.call Kw).call hb0⟩
  replace Kw := belI_call Kw hb0
  clear hb0
  obtain ⟨w0, hw0⟩ : ∃ w0, w0 = (w.alloc (.cells #[.slice A0 L0.length c0, .slice B0 C0.length d0] 34)) := ⟨_, rfl⟩
  rw [← hw0] at Kw a0
  have Hw := Lib.hid hw0
  clear hw0 h0 h0c
  by_cases g0 : (L0.length + C0.length) ≤ 1048576
  rotate_left
  · have g' : ¬ (L0.length + C0.length) ≤ 1048576 := g0
    obtain ⟨a0_0, a0_1⟩ := a0.cells
    go_enter Try.func8, Try.ntmps8
    go_wp2_with fail
    rw [← Hw.out]
    clear a0_0 a0_1
    have q0 : (0 : Int) ≤ (1048576 : Int) := by omega
    have q1 : (1048576 : Int) < (((L0.length + C0.length) : Nat) : Int) := by omega
    refine (szCm_no L0.length C0.length A0 B0 c0 d0 hm0 hm0c _ q0 (by omega) q1 _).mono ?_
    rintro e w1 ⟨rfl, hb⟩
    replace a0 := a0.call hb
    replace Kw := belI_call Kw hb
    clear hb
    go_wp2_with fail
    go_ret
    exact ⟨rfl, Kw⟩
  have n0 : L0.length ≤ 1048576 := by omega
  have n0c : C0.length ≤ 1048576 := by omega
  have Hn0c := Lib.hid n0c
  have Hn0 := Lib.hid n0
  obtain ⟨q, hq⟩ : ∃ q, q = corA L0 C0 p1 := ⟨_, rfl⟩
  have PS := fun (W : World) u0 u0c k0 k0c => cpixS u0 u0c L0 C0 p1 W k0 k0c
  have PI := fun (W : World) u0 u0c k0 k0c => cpixI u0 u0c L0 C0 p1 W k0 k0c
  rw [← hq] at PS PI
  have HS := Lib.hid PS
  have HI := Lib.hid PI
  clear PS PI hq
  obtain ⟨a0_0, a0_1⟩ := a0.cells
  go_enter Try.func8, Try.ntmps8
  go_wp2_with fail
  rw [← Hw.out]
  clear a0_0 a0_1
  refine (szCm_yes L0.length C0.length A0 B0 c0 d0 _ (by omega) (by omega) _).mono ?_
  rintro e w2 ⟨rfl, hb⟩
  replace a0 := a0.call hb
  replace Kw := belI_call Kw hb
  clear hb
  have z0 : ¬ ((1048576 : Int) - (((L0.length + C0.length) : Nat) : Int)) < 0 := by omega
  obtain ⟨a0_0, a0_1⟩ := a0.cells
  go_wp2_with fail
  clear a0_0 a0_1
  refine (toCm _ _ L0 C0 _ Hn0.out Hn0c.out a0.rm a0.rc).mono ?_
  rintro e w3 ⟨vo, vp, rfl, u1, u1c, u1n, hb⟩
  obtain ⟨A_u1, c_u1, he⟩ := ownI_shape u1
  subst he
  obtain ⟨B_u1, d_u1, he⟩ := ownI_shape u1c
  subst he
  replace a0 := a0.call hb
  replace Kw := belI_call Kw hb
  clear hb
  clear u1n
  obtain ⟨a0_0, a0_1⟩ := a0.cells
  go_wp2_with fail
  clear a0_0 a0_1
  refine (HS.out _ _ _ (RdI.of_own u1) (RdI.of_own u1c)).mono ?_
  rintro e w4 ⟨rfl, hb⟩
  replace a0 := a0.call hb
  replace u1 := ownI_call u1 hb
  replace u1c := ownI_call u1c hb
  replace Kw := belI_call Kw hb
  clear hb
  clear u1 u1c
  obtain ⟨a0_0, a0_1⟩ := a0.cells
  go_wp2_with fail
  clear a0_0 a0_1
  refine (toCm _ _ L0 C0 _ Hn0.out Hn0c.out a0.rm a0.rc).mono ?_
  rintro e w5 ⟨vo, vp, rfl, u2, u2c, u2n, hb⟩
  obtain ⟨A_u2, c_u2, he⟩ := ownI_shape u2
  subst he
  obtain ⟨B_u2, d_u2, he⟩ := ownI_shape u2c
  subst he
  have hlo_V3 := Lib.hid Kw.size
  have hl_a0_V3 := Lib.hid a0.lt
  have V3 := CmV.born hb u2 u2c u2n
  replace hb := belI_call hb (belI_box w5 (.cells #[.slice A_u2 L0.length c_u2, .slice B_u2 C0.length d_u2] 26))
  replace a0 := a0.call hb
  replace Kw := belI_call Kw hb
  clear hb u2 u2c u2n
  obtain ⟨a0_0, a0_1⟩ := a0.cells
  obtain ⟨V3_0, V3_1⟩ := V3.cells
  go_wp2_with fail
  clear a0_0 a0_1 V3_0 V3_1
  refine (HI.out _ _ _ V3.rm V3.rc).mono ?_
  rintro e w6 ⟨rfl, hb⟩
  replace a0 := a0.call hb
  replace V3 := V3.call hb
  replace Kw := belI_call Kw hb
  clear hb
  obtain ⟨a0_0, a0_1⟩ := a0.cells
  obtain ⟨V3_0, V3_1⟩ := V3.cells
  go_upto_region 10 with fail
  clear a0_0 a0_1 V3_0 V3_1
  refine wp_region_held_drew (S := fun W => Below w6.heap.size w6 W) (by kernel_rfl) (Below.refl _ _).drew (fun hS => ?_)
  refine wpAnyH_take (i := 0) (v := .agg #[.slice A_u2 L0.length c_u2, .slice B_u2 C0.length d_u2]) rfl (by kernel_rfl) (by kernel_rfl) (by kernel_rfl) (fun _ _ _ h => h) (Or.inl ⟨by kernel_rfl, by intro w' hSw; (try dsimp only at hSw); (obtain ⟨a0_0, a0_1⟩ := (a0.call hSw).cells); (obtain ⟨V3_0, V3_1⟩ := (V3.call hSw).cells); go_simp⟩) (by assumption) ?_
  refine wpAnyH_take (i := 1) (v := .agg #[.slice A0 L0.length c0, .slice B0 C0.length d0]) rfl (by kernel_rfl) (by kernel_rfl) (by kernel_rfl) (fun _ _ _ h => h) (Or.inl ⟨by kernel_rfl, by intro w' hSw; (try dsimp only at hSw); (obtain ⟨a0_0, a0_1⟩ := (a0.call hSw).cells); (obtain ⟨V3_0, V3_1⟩ := (V3.call hSw).cells); go_simp⟩) (by assumption) ?_
  (try simp only [Act.put]); (try simp only [List.setIfInBounds_toArray]); (try simp only [List.set_cons_zero, List.set_cons_succ])
  refine wpAnyH_ready (rs := [2]) (by kernel_rfl) (by simp) ?_
  refine (AllReadyH.cons rfl (fun K hK => ?_) AllReadyH.nil)
  · rw [if_pos (by kernel_rfl)]
    (try simp only [List.getElem_toArray]); (try simp only [List.getElem_cons_succ]); (try simp only [List.getElem_cons_zero])
    go_simp
    with_reducible refine (toCm _ _ L0 C0 _ Hn0.out Hn0c.out (a0.call hS).rm (a0.call hS).rc).mono ?_
    rintro e W' ⟨vo, vp, rfl, u4, u4c, u4n, hb⟩
    obtain ⟨A_u4, c_u4, he⟩ := ownI_shape u4
    subst he
    obtain ⟨B_u4, d_u4, he⟩ := ownI_shape u4c
    subst he
    dsimp only
    refine hK.out _ _ (belI_call hS hb) (fun hS => ?_)
    clear hK
    (try simp only [Act.put]); (try simp only [List.setIfInBounds_toArray]); (try simp only [List.set_cons_zero, List.set_cons_succ])
    refine wpAnyH_ready (rs := [3]) (by kernel_rfl) (by simp) ?_
    refine (AllReadyH.cons rfl (fun K hK => ?_) AllReadyH.nil)
    · rw [if_pos (by kernel_rfl)]
      (try simp only [List.getElem_toArray]); (try simp only [List.getElem_cons_succ]); (try simp only [List.getElem_cons_zero])
      go_simp
      with_reducible refine (eqCm_same _ _ _ _ L0 C0 _ (V3.call hS).rm (V3.call hS).rc (RdI.of_own u4) (RdI.of_own u4c)).mono ?_
      rintro e W' ⟨rfl, hb⟩
      dsimp only
      have u4 := ownI_call u4 hb
      have u4c := ownI_call u4c hb
      refine hK.out _ _ (belI_call hS hb) (fun hS => ?_)
      clear hK
      (try simp only [Act.put]); (try simp only [List.setIfInBounds_toArray]); (try simp only [List.set_cons_zero, List.set_cons_succ])
      refine wpAnyH_take (i := 4) (v := .bool false) rfl (by kernel_rfl) (by kernel_rfl) (by kernel_rfl) (fun _ _ _ h => h) (Or.inl ⟨by kernel_rfl, by intro w' hSw; (try dsimp only at hSw); (obtain ⟨a0_0, a0_1⟩ := (a0.call hSw).cells); (obtain ⟨V3_0, V3_1⟩ := (V3.call hSw).cells); go_simp⟩) (by assumption) ?_
      refine wpAnyH_done (by kernel_rfl) ?_ _
      have hb := hS
      replace a0 := a0.call hb
      replace V3 := V3.call hb
      replace Kw := belI_call Kw hb
      clear hb hS
      obtain ⟨w7, hWy⟩ : ∃ w7, w7 = W' := ⟨_, rfl⟩
      subst hWy
      go_wp2_with fail
      go_ret
      exact ⟨rfl, Kw⟩
end Go.Proofs.Ytfehdcenmncbpaa
