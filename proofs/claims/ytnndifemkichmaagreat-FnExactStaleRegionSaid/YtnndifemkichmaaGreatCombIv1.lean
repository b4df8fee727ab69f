/- The contract of impl.combined. No statement is proved here. -/
import Derived.Test.YtnndifemkichmaaGreatMA
import Derived.Test.YtnndifemkichmaaGreatMAv1
import Derived.Test.YtnndifemkichmaaGreatProg
import Derived.WalkKit
import Derived.ProofKit
import Derived.OpenShut
import Derived.WalkLawsBesides
import Derived.WalkSpells
import Derived.ShutString
import Derived.ChangeOld
import Derived.Below
import Derived.Lib.Hide
import Derived.BigQuiet
import Derived.Deep.QuietTactic
import Derived.Maps.AppendAt
import Derived.Deep.Draws
import Derived.Deep.MidRow
import Derived.Deep.WholeRow
import Derived.Deep.OwnRows
import Derived.Deep.RegionHeld3
import Derived.Deep.DeepCutAuto
import Derived.Deep.LoopGhost
import Derived.OwnWalk
import Derived.Deep.AppendLies
import Derived.Deep.Onto
import Derived.Laws.AppendOwn
import Derived.Deep.RegionWith
namespace Go.Proofs.YtnndifemkichmaaGreat
open Go.RowKit
structure CbSt (w : World) (va vb : Value) (A B : List Rc) (W : World) : Prop where
 ca : W.cell? ⟨w.heap.size, 0, none⟩ = some va
 cb : W.cell? ⟨w.heap.size + 1, 0, none⟩ = some vb
 rs : BxR W (w.heap.size + 2)
 ra : RdR W va A
 rb : RdR W vb B
 bw : Below w.heap.size w W
theorem CbSt.call {w W W' : World} {va vb : Value} {A B : List Rc} (h : CbSt w va vb A B W) (hb : Below W.heap.size W W') : CbSt w va vb A B W' :=
 ⟨cell_call hb h.ca, cell_call hb h.cb, h.rs.call hb, h.ra.call hb, h.rb.call hb, below_call h.bw hb⟩
theorem CbSt.drew {w W : World} {va vb : Value} {A B : List Rc} (h : CbSt w va vb A B W) : CbSt w va vb A B W.drew := h.call ((Below.refl _ _).drew)
theorem CbSt.born (w : World) (va vb : Value) {A B : List Rc} (ha : RdR w va A) (hb : RdR w vb B) :
  CbSt w va vb A B (((w.alloc (.cells #[va] 55)).alloc (.cells #[vb] 55)).alloc (.cells #[.slice none 0 0] 55)) := by
 have k1 : Below w.heap.size w (w.alloc (.cells #[va] 55)) := (Below.refl _ _).alloc (Nat.le_refl _) _
 have k2 : Below (w.alloc (.cells #[va] 55)).heap.size (w.alloc (.cells #[va] 55)) ((w.alloc (.cells #[va] 55)).alloc (.cells #[vb] 55)) := (Below.refl _ _).alloc (Nat.le_refl _) _
 have k3 : Below ((w.alloc (.cells #[va] 55)).alloc (.cells #[vb] 55)).heap.size ((w.alloc (.cells #[va] 55)).alloc (.cells #[vb] 55)) (((w.alloc (.cells #[va] 55)).alloc (.cells #[vb] 55)).alloc (.cells #[.slice none 0 0] 55)) := (Below.refl _ _).alloc (Nat.le_refl _) _
 have kk := below_call (below_call k1 k2) k3
 refine ⟨cell_call k3 (cell_call k2 (new_cell w va _)), cell_call k3 ?_, ?_, ha.call kk, hb.call kk, kk⟩
 ·have := new_cell (w.alloc (.cells #[va] 55)) vb 55
  rw [show (w.alloc (.cells #[va] 55)).heap.size = w.heap.size + 1 by simp] at this
  exact this
 ·have := heap_alloc_new ((w.alloc (.cells #[va] 55)).alloc (.cells #[vb] 55)) (.cells #[.slice none 0 0] 55)
  rw [show ((w.alloc (.cells #[va] 55)).alloc (.cells #[vb] 55)).heap.size = w.heap.size + 2 by simp] at this
  exact this
set_option maxHeartbeats 4000000 in
set_option maxRecDepth 10000 in
theorem combI (fid : Nat) (f : Bool → Bool → Bool) (HE : ∀ args w, (callFunc fid args).run Tryz.prog w = .ok (.enter fid args) w) (HK : ∀ p q W, Calls Tryz.prog fid #[.bool p, .bool q] W fun e w' => e = .returned (.bool (f p q)) ∧ W = w') (va vb : Value) (A B : List Rc) (w : World) (ha : RdR w va A) (hb : RdR w vb B) :
  Calls Tryz.prog 123 #[.agg #[va], .agg #[vb], .func (.func fid) #[] #[]] w (JoinAns f A B w) := by
 have hS := CbSt.born w va vb ha hb
 clear ha hb
 rcases hA : okL A with _ | _
 ·have Hj := Lib.hid (joinL_no (f := f) (A := A) (B := B) (by rw [hA]; simp))
  have R := fun W hv => rokI va A W hv
  unfold RokAns at R
  rw [hA] at R
  clear hA
  have ca := hS.ca
  go_enter Tryz.func123, Tryz.ntmps123
  go_wp2_with fail
  refine (R _ hS.ra).mono ?_
  rintro e w1 ⟨rfl, hb⟩
  replace hS := hS.call hb
  have rc := hS.rs.cell
  have rf := hS.rs.frozen
  clear hb R ca
  go_wp2_with fail
  exact bodyPost_ret (v := .agg #[.slice none 0 0]) (by simp [results, Tryz.results123, go_sem, rc]) rfl ⟨_, rfl, by rw [Hj.out]; exact World.ownsRow_nil _ _ _ _, hS.bw.setCell (by simp; omega) _⟩
 ·rcases hB : okL B with _ | _
  ·have Hj := Lib.hid (joinL_no (f := f) (A := A) (B := B) (by rw [hB]; simp))
   have R := fun W hv => rokI va A W hv
   have R2 := fun W hv => rokI vb B W hv
   unfold RokAns at R R2
   rw [hA] at R
   rw [hB] at R2
   clear hA hB
   have ca := hS.ca
   go_enter Tryz.func123, Tryz.ntmps123
   go_wp2_with fail
   refine (R _ hS.ra).mono ?_
   rintro e w1 ⟨rfl, hb⟩
   replace hS := hS.call hb
   have cb := hS.cb
   clear hb R ca
   go_wp2_with fail
   refine (R2 _ hS.rb).mono ?_
   rintro e w1 ⟨rfl, hb⟩
   replace hS := hS.call hb
   have rc := hS.rs.cell
   have rf := hS.rs.frozen
   clear hb R2 cb
   go_wp2_with fail
   exact bodyPost_ret (v := .agg #[.slice none 0 0]) (by simp [results, Tryz.results123, go_sem, rc]) rfl ⟨_, rfl, by rw [Hj.out]; exact World.ownsRow_nil _ _ _ _, hS.bw.setCell (by simp; omega) _⟩
  ·have Hj := Lib.hid (joinL_yes (f := f) ⟨hA, hB⟩)
   have R := fun W hv => rokI va A W hv
   have R2 := fun W hv => rokI vb B W hv
   unfold RokAns at R R2
   rw [hA] at R
   rw [hB] at R2
   clear hA hB
   have ca := hS.ca
   go_enter Tryz.func123, Tryz.ntmps123
   go_wp2_with fail
   refine (R _ hS.ra).mono ?_
   rintro e w1 ⟨rfl, hb⟩
   replace hS := hS.call hb
   have cb := hS.cb
   clear hb R ca
   go_wp2_with fail
   refine (R2 _ hS.rb).mono ?_
   rintro e w1 ⟨rfl, hb⟩
   replace hS := hS.call hb
   clear hb R2 cb
   go_upto_region 3 with fail
   go_cut [7, 8] (fun s7 s8 wx => ∃ b c : Nat, s7 = .pointer (some ⟨b, 0, none⟩) ∧ s8 = .pointer (some ⟨c, 0, none⟩) ∧ CgSt w (gridOf A) (gridOf B) b c wx)
   case first =>
    refine wp_region_held_drew (S := fun W => W.cell? ⟨w.heap.size, 0, none⟩ = some va ∧ W.cell? ⟨w.heap.size + 1, 0, none⟩ = some vb) (by kernel_rfl) ⟨hS.ca, hS.cb⟩ (fun hHeld => ?_)
    replace hS := hS.drew
    refine tkH (i := 0) (v := .pointer (some ⟨w.heap.size, 0, none⟩)) rfl ?_
    refine tkH (i := 1) (v := va) rfl ?_
    refine tkH (i := 3) (v := .pointer (some ⟨w.heap.size + 1, 0, none⟩)) rfl ?_
    refine tkH (i := 4) (v := vb) rfl ?_
    have hA := fun W hv => gridI va A W hv
    have hB := fun W hv => gridI vb B W hv
    unfold PtsAns at hA hB
    have HA := Lib.hid hA
    have HB := Lib.hid hB
    clear hA hB
    refine wpAnyH_ready (rs := [2, 6, 7]) (by kernel_rfl) (by simp) ?_
    refine (AllReadyH.cons rfl (fun K hK => ?_) (AllReadyH.cons rfl (fun K hK => ?_) (AllReadyH.cons rfl (fun K hK => ?_) AllReadyH.nil)))
    ·rw [if_pos (by kernel_rfl)]
     go_simp
     with_reducible refine (HA.out _ hS.ra).mono ?_
     rintro e W' ⟨rfl, hb⟩
     replace hS := hS.call hb
     clear hb
     dsimp only
     refine hK.out _ _ ⟨hS.ca, hS.cb⟩ (fun _ => ?_)
     clear hK
     try simp only [Act.put, List.setIfInBounds_toArray, List.set_cons_zero, List.set_cons_succ]
     refine wpAnyH_ready (rs := [5, 6, 7]) (by kernel_rfl) (by simp) ?_
     refine (AllReadyH.cons rfl (fun K hK => ?_) (AllReadyH.cons rfl (fun K hK => ?_) (AllReadyH.cons rfl (fun K hK => ?_) AllReadyH.nil)))
     ·rw [if_pos (by kernel_rfl)]
      go_simp
      with_reducible refine (HB.out _ hS.rb).mono ?_
      rintro e W' ⟨rfl, hb⟩
      replace hS := hS.call hb
      clear hb
      dsimp only
      refine hK.out _ _ ⟨hS.ca, hS.cb⟩ (fun _ => ?_)
      clear hK
      try simp only [Act.put, List.setIfInBounds_toArray, List.set_cons_zero, List.set_cons_succ]
      refine wpAnyH_ready (rs := [6, 7]) (by kernel_rfl) (by simp) ?_
      refine (AllReadyH.cons rfl (fun K hK => ?_) (AllReadyH.cons rfl (fun K hK => ?_) AllReadyH.nil))
      ·rw [if_pos (by kernel_rfl)]
       refine wp_alloc_grid 7 rfl rfl ?_
       intro b7 W' hb G7 l7
       replace l7 : w.heap.size + 3 ≤ b7 := by have := hS.rs.lt; omega
       replace hS := hS.call hb
       clear hb
       refine hK.out _ _ ⟨hS.ca, hS.cb⟩ (fun _ => ?_)
       clear hK
       try simp only [Act.put, List.setIfInBounds_toArray, List.set_cons_zero, List.set_cons_succ]
       refine wpAnyH_ready (rs := [7]) (by kernel_rfl) (by simp) ?_
       refine (AllReadyH.cons rfl (fun K hK => ?_) AllReadyH.nil)
       ·rw [if_pos (by kernel_rfl)]
        refine wp_alloc_grid 8 rfl rfl ?_
        intro b8 W' hb G8 l8
        have n78 : b7 ≠ b8 := by have := G7.lt; omega
        replace G7 := G7.call hb
        replace l8 : w.heap.size + 3 ≤ b8 := by have := hS.rs.lt; omega
        replace hS := hS.call hb
        clear hb
        refine hK.out _ _ ⟨hS.ca, hS.cb⟩ (fun _ => ?_)
        clear hK
        try simp only [Act.put, List.setIfInBounds_toArray, List.set_cons_zero, List.set_cons_succ]
        refine wpAnyH_ready (rs := [8]) (by kernel_rfl) (by simp) ?_
        refine AllReadyH.cons rfl (fun K hK => ?_) AllReadyH.nil
        rw [if_pos (by kernel_rfl)]
        refine wp_store_grid (.tmp 7) (.tmp 22) rfl b7 _ (gridOf A) rfl rfl G7 ?_
        have ca2 := cell_row hS.ca (show w.heap.size ≠ b7 by omega) (gCells (gridOf A))
        have cb2 := cell_row hS.cb (show w.heap.size + 1 ≠ b7 by omega) (gCells (gridOf A))
        refine hK.out _ _ ⟨ca2, cb2⟩ (fun _ => ?_)
        clear hK
        try simp only [Act.put]
        refine wpAnyH_ready (rs := [9]) (by kernel_rfl) (by simp) ?_
        refine AllReadyH.cons rfl (fun K hK => ?_) AllReadyH.nil
        rw [if_pos (by kernel_rfl)]
        refine wp_store_grid (.tmp 8) (.tmp 25) rfl b8 _ (gridOf B) rfl rfl (G8.rowFar (Ne.symm n78) _) ?_
        refine hK.out _ _ ⟨cell_row ca2 (show w.heap.size ≠ b8 by omega) _, cell_row cb2 (show w.heap.size + 1 ≠ b8 by omega) _⟩ (fun _ => ?_)
        clear hK
        try simp only [Act.put]
        refine wpAnyH_done (by kernel_rfl) ?_ _
        go_wp2_with fail
        go_meet
        case rel => exact ⟨b7, b8, rfl, rfl, (G7.row).rowFar n78 _, (G8.rowFar (Ne.symm n78) _).row, n78, l7, l8, (hS.rs.rowFar (by omega) _).rowFar (by omega) _, below_setRow (below_setRow hS.bw (by omega) _) (by omega) _⟩
      ·rw [if_pos (by kernel_rfl)]
       refine wp_alloc_grid 8 rfl rfl ?_
       intro b8 W' hb G8 l8
       replace l8 : w.heap.size + 3 ≤ b8 := by have := hS.rs.lt; omega
       replace hS := hS.call hb
       clear hb
       refine hK.out _ _ ⟨hS.ca, hS.cb⟩ (fun _ => ?_)
       clear hK
       try simp only [Act.put, List.setIfInBounds_toArray, List.set_cons_zero, List.set_cons_succ]
       refine wpAnyH_ready (rs := [6]) (by kernel_rfl) (by simp) ?_
       refine (AllReadyH.cons rfl (fun K hK => ?_) AllReadyH.nil)
       ·rw [if_pos (by kernel_rfl)]
        refine wp_alloc_grid 7 rfl rfl ?_
        intro b7 W' hb G7 l7
        have n78 : b7 ≠ b8 := by have := G8.lt; omega
        replace G8 := G8.call hb
        replace l7 : w.heap.size + 3 ≤ b7 := by have := hS.rs.lt; omega
        replace hS := hS.call hb
        clear hb
        refine hK.out _ _ ⟨hS.ca, hS.cb⟩ (fun _ => ?_)
        clear hK
        try simp only [Act.put, List.setIfInBounds_toArray, List.set_cons_zero, List.set_cons_succ]
        refine wpAnyH_ready (rs := [8]) (by kernel_rfl) (by simp) ?_
        refine AllReadyH.cons rfl (fun K hK => ?_) AllReadyH.nil
        rw [if_pos (by kernel_rfl)]
        refine wp_store_grid (.tmp 7) (.tmp 22) rfl b7 _ (gridOf A) rfl rfl G7 ?_
        have ca2 := cell_row hS.ca (show w.heap.size ≠ b7 by omega) (gCells (gridOf A))
        have cb2 := cell_row hS.cb (show w.heap.size + 1 ≠ b7 by omega) (gCells (gridOf A))
        refine hK.out _ _ ⟨ca2, cb2⟩ (fun _ => ?_)
        clear hK
        try simp only [Act.put]
        refine wpAnyH_ready (rs := [9]) (by kernel_rfl) (by simp) ?_
        refine AllReadyH.cons rfl (fun K hK => ?_) AllReadyH.nil
        rw [if_pos (by kernel_rfl)]
        refine wp_store_grid (.tmp 8) (.tmp 25) rfl b8 _ (gridOf B) rfl rfl (G8.rowFar (Ne.symm n78) _) ?_
        refine hK.out _ _ ⟨cell_row ca2 (show w.heap.size ≠ b8 by omega) _, cell_row cb2 (show w.heap.size + 1 ≠ b8 by omega) _⟩ (fun _ => ?_)
        clear hK
        try simp only [Act.put]
        refine wpAnyH_done (by kernel_rfl) ?_ _
        go_wp2_with fail
        go_meet
        case rel => exact ⟨b7, b8, rfl, rfl, (G7.row).rowFar n78 _, (G8.rowFar (Ne.symm n78) _).row, n78, l7, l8, (hS.rs.rowFar (by omega) _).rowFar (by omega) _, below_setRow (below_setRow hS.bw (by omega) _) (by omega) _⟩
     ·rw [if_pos (by kernel_rfl)]
      refine wp_alloc_grid 7 rfl rfl ?_
      intro b7 W' hb G7 l7
      replace l7 : w.heap.size + 3 ≤ b7 := by have := hS.rs.lt; omega
      replace hS := hS.call hb
      clear hb
      refine hK.out _ _ ⟨hS.ca, hS.cb⟩ (fun _ => ?_)
      clear hK
      try simp only [Act.put, List.setIfInBounds_toArray, List.set_cons_zero, List.set_cons_succ]
      refine wpAnyH_ready (rs := [5, 7]) (by kernel_rfl) (by simp) ?_
      refine (AllReadyH.cons rfl (fun K hK => ?_) (AllReadyH.cons rfl (fun K hK => ?_) AllReadyH.nil))
      ·rw [if_pos (by kernel_rfl)]
       go_simp
       with_reducible refine (HB.out _ hS.rb).mono ?_
       rintro e W' ⟨rfl, hb⟩
       replace G7 := G7.call hb
       replace hS := hS.call hb
       clear hb
       dsimp only
       refine hK.out _ _ ⟨hS.ca, hS.cb⟩ (fun _ => ?_)
       clear hK
       try simp only [Act.put, List.setIfInBounds_toArray, List.set_cons_zero, List.set_cons_succ]
       refine wpAnyH_ready (rs := [7]) (by kernel_rfl) (by simp) ?_
       refine (AllReadyH.cons rfl (fun K hK => ?_) AllReadyH.nil)
       ·rw [if_pos (by kernel_rfl)]
        refine wp_alloc_grid 8 rfl rfl ?_
        intro b8 W' hb G8 l8
        have n78 : b7 ≠ b8 := by have := G7.lt; omega
        replace G7 := G7.call hb
        replace l8 : w.heap.size + 3 ≤ b8 := by have := hS.rs.lt; omega
        replace hS := hS.call hb
        clear hb
        refine hK.out _ _ ⟨hS.ca, hS.cb⟩ (fun _ => ?_)
        clear hK
        try simp only [Act.put, List.setIfInBounds_toArray, List.set_cons_zero, List.set_cons_succ]
        refine wpAnyH_ready (rs := [8]) (by kernel_rfl) (by simp) ?_
        refine AllReadyH.cons rfl (fun K hK => ?_) AllReadyH.nil
        rw [if_pos (by kernel_rfl)]
        refine wp_store_grid (.tmp 7) (.tmp 22) rfl b7 _ (gridOf A) rfl rfl G7 ?_
        have ca2 := cell_row hS.ca (show w.heap.size ≠ b7 by omega) (gCells (gridOf A))
        have cb2 := cell_row hS.cb (show w.heap.size + 1 ≠ b7 by omega) (gCells (gridOf A))
        refine hK.out _ _ ⟨ca2, cb2⟩ (fun _ => ?_)
        clear hK
        try simp only [Act.put]
        refine wpAnyH_ready (rs := [9]) (by kernel_rfl) (by simp) ?_
        refine AllReadyH.cons rfl (fun K hK => ?_) AllReadyH.nil
        rw [if_pos (by kernel_rfl)]
        refine wp_store_grid (.tmp 8) (.tmp 25) rfl b8 _ (gridOf B) rfl rfl (G8.rowFar (Ne.symm n78) _) ?_
        refine hK.out _ _ ⟨cell_row ca2 (show w.heap.size ≠ b8 by omega) _, cell_row cb2 (show w.heap.size + 1 ≠ b8 by omega) _⟩ (fun _ => ?_)
        clear hK
        try simp only [Act.put]
        refine wpAnyH_done (by kernel_rfl) ?_ _
        go_wp2_with fail
        go_meet
        case rel => exact ⟨b7, b8, rfl, rfl, (G7.row).rowFar n78 _, (G8.rowFar (Ne.symm n78) _).row, n78, l7, l8, (hS.rs.rowFar (by omega) _).rowFar (by omega) _, below_setRow (below_setRow hS.bw (by omega) _) (by omega) _⟩
      ·rw [if_pos (by kernel_rfl)]
       refine wp_alloc_grid 8 rfl rfl ?_
       intro b8 W' hb G8 l8
       have n78 : b7 ≠ b8 := by have := G7.lt; omega
       replace G7 := G7.call hb
       replace l8 : w.heap.size + 3 ≤ b8 := by have := hS.rs.lt; omega
       replace hS := hS.call hb
       clear hb
       refine hK.out _ _ ⟨hS.ca, hS.cb⟩ (fun _ => ?_)
       clear hK
       try simp only [Act.put, List.setIfInBounds_toArray, List.set_cons_zero, List.set_cons_succ]
       refine wpAnyH_ready (rs := [5]) (by kernel_rfl) (by simp) ?_
       refine (AllReadyH.cons rfl (fun K hK => ?_) AllReadyH.nil)
       ·rw [if_pos (by kernel_rfl)]
        go_simp
        with_reducible refine (HB.out _ hS.rb).mono ?_
        rintro e W' ⟨rfl, hb⟩
        replace G7 := G7.call hb
        replace G8 := G8.call hb
        replace hS := hS.call hb
        clear hb
        dsimp only
        refine hK.out _ _ ⟨hS.ca, hS.cb⟩ (fun _ => ?_)
        clear hK
        try simp only [Act.put, List.setIfInBounds_toArray, List.set_cons_zero, List.set_cons_succ]
        refine wpAnyH_ready (rs := [8]) (by kernel_rfl) (by simp) ?_
        refine AllReadyH.cons rfl (fun K hK => ?_) AllReadyH.nil
        rw [if_pos (by kernel_rfl)]
        refine wp_store_grid (.tmp 7) (.tmp 22) rfl b7 _ (gridOf A) rfl rfl G7 ?_
        have ca2 := cell_row hS.ca (show w.heap.size ≠ b7 by omega) (gCells (gridOf A))
        have cb2 := cell_row hS.cb (show w.heap.size + 1 ≠ b7 by omega) (gCells (gridOf A))
        refine hK.out _ _ ⟨ca2, cb2⟩ (fun _ => ?_)
        clear hK
        try simp only [Act.put]
        refine wpAnyH_ready (rs := [9]) (by kernel_rfl) (by simp) ?_
        refine AllReadyH.cons rfl (fun K hK => ?_) AllReadyH.nil
        rw [if_pos (by kernel_rfl)]
        refine wp_store_grid (.tmp 8) (.tmp 25) rfl b8 _ (gridOf B) rfl rfl (G8.rowFar (Ne.symm n78) _) ?_
        refine hK.out _ _ ⟨cell_row ca2 (show w.heap.size ≠ b8 by omega) _, cell_row cb2 (show w.heap.size + 1 ≠ b8 by omega) _⟩ (fun _ => ?_)
        clear hK
        try simp only [Act.put]
        refine wpAnyH_done (by kernel_rfl) ?_ _
        go_wp2_with fail
        go_meet
        case rel => exact ⟨b7, b8, rfl, rfl, (G7.row).rowFar n78 _, (G8.rowFar (Ne.symm n78) _).row, n78, l7, l8, (hS.rs.rowFar (by omega) _).rowFar (by omega) _, below_setRow (below_setRow hS.bw (by omega) _) (by omega) _⟩
     ·rw [if_pos (by kernel_rfl)]
      refine wp_alloc_grid 8 rfl rfl ?_
      intro b8 W' hb G8 l8
      replace l8 : w.heap.size + 3 ≤ b8 := by have := hS.rs.lt; omega
      replace hS := hS.call hb
      clear hb
      refine hK.out _ _ ⟨hS.ca, hS.cb⟩ (fun _ => ?_)
      clear hK
      try simp only [Act.put, List.setIfInBounds_toArray, List.set_cons_zero, List.set_cons_succ]
      refine wpAnyH_ready (rs := [5, 6]) (by kernel_rfl) (by simp) ?_
      refine (AllReadyH.cons rfl (fun K hK => ?_) (AllReadyH.cons rfl (fun K hK => ?_) AllReadyH.nil))
      ·rw [if_pos (by kernel_rfl)]
       go_simp
       with_reducible refine (HB.out _ hS.rb).mono ?_
       rintro e W' ⟨rfl, hb⟩
       replace G8 := G8.call hb
       replace hS := hS.call hb
       clear hb
       dsimp only
       refine hK.out _ _ ⟨hS.ca, hS.cb⟩ (fun _ => ?_)
       clear hK
       try simp only [Act.put, List.setIfInBounds_toArray, List.set_cons_zero, List.set_cons_succ]
       refine wpAnyH_ready (rs := [6]) (by kernel_rfl) (by simp) ?_
       refine (AllReadyH.cons rfl (fun K hK => ?_) AllReadyH.nil)
       ·rw [if_pos (by kernel_rfl)]
        refine wp_alloc_grid 7 rfl rfl ?_
        intro b7 W' hb G7 l7
        have n78 : b7 ≠ b8 := by have := G8.lt; omega
        replace G8 := G8.call hb
        replace l7 : w.heap.size + 3 ≤ b7 := by have := hS.rs.lt; omega
        replace hS := hS.call hb
        clear hb
        refine hK.out _ _ ⟨hS.ca, hS.cb⟩ (fun _ => ?_)
        clear hK
        try simp only [Act.put, List.setIfInBounds_toArray, List.set_cons_zero, List.set_cons_succ]
        refine wpAnyH_ready (rs := [8]) (by kernel_rfl) (by simp) ?_
        refine AllReadyH.cons rfl (fun K hK => ?_) AllReadyH.nil
        rw [if_pos (by kernel_rfl)]
        refine wp_store_grid (.tmp 7) (.tmp 22) rfl b7 _ (gridOf A) rfl rfl G7 ?_
        have ca2 := cell_row hS.ca (show w.heap.size ≠ b7 by omega) (gCells (gridOf A))
        have cb2 := cell_row hS.cb (show w.heap.size + 1 ≠ b7 by omega) (gCells (gridOf A))
        refine hK.out _ _ ⟨ca2, cb2⟩ (fun _ => ?_)
        clear hK
        try simp only [Act.put]
        refine wpAnyH_ready (rs := [9]) (by kernel_rfl) (by simp) ?_
        refine AllReadyH.cons rfl (fun K hK => ?_) AllReadyH.nil
        rw [if_pos (by kernel_rfl)]
        refine wp_store_grid (.tmp 8) (.tmp 25) rfl b8 _ (gridOf B) rfl rfl (G8.rowFar (Ne.symm n78) _) ?_
        refine hK.out _ _ ⟨cell_row ca2 (show w.heap.size ≠ b8 by omega) _, cell_row cb2 (show w.heap.size + 1 ≠ b8 by omega) _⟩ (fun _ => ?_)
        clear hK
        try simp only [Act.put]
        refine wpAnyH_done (by kernel_rfl) ?_ _
        go_wp2_with fail
        go_meet
        case rel => exact ⟨b7, b8, rfl, rfl, (G7.row).rowFar n78 _, (G8.rowFar (Ne.symm n78) _).row, n78, l7, l8, (hS.rs.rowFar (by omega) _).rowFar (by omega) _, below_setRow (below_setRow hS.bw (by omega) _) (by omega) _⟩
      ·rw [if_pos (by kernel_rfl)]
       refine wp_alloc_grid 7 rfl rfl ?_
       intro b7 W' hb G7 l7
       have n78 : b7 ≠ b8 := by have := G8.lt; omega
       replace G8 := G8.call hb
       replace l7 : w.heap.size + 3 ≤ b7 := by have := hS.rs.lt; omega
       replace hS := hS.call hb
       clear hb
       refine hK.out _ _ ⟨hS.ca, hS.cb⟩ (fun _ => ?_)
       clear hK
       try simp only [Act.put, List.setIfInBounds_toArray, List.set_cons_zero, List.set_cons_succ]
       refine wpAnyH_ready (rs := [5]) (by kernel_rfl) (by simp) ?_
       refine (AllReadyH.cons rfl (fun K hK => ?_) AllReadyH.nil)
       ·rw [if_pos (by kernel_rfl)]
        go_simp
        with_reducible refine (HB.out _ hS.rb).mono ?_
        rintro e W' ⟨rfl, hb⟩
        replace G7 := G7.call hb
        replace G8 := G8.call hb
        replace hS := hS.call hb
        clear hb
        dsimp only
        refine hK.out _ _ ⟨hS.ca, hS.cb⟩ (fun _ => ?_)
        clear hK
        try simp only [Act.put, List.setIfInBounds_toArray, List.set_cons_zero, List.set_cons_succ]
        refine wpAnyH_ready (rs := [8]) (by kernel_rfl) (by simp) ?_
        refine AllReadyH.cons rfl (fun K hK => ?_) AllReadyH.nil
        rw [if_pos (by kernel_rfl)]
        refine wp_store_grid (.tmp 7) (.tmp 22) rfl b7 _ (gridOf A) rfl rfl G7 ?_
        have ca2 := cell_row hS.ca (show w.heap.size ≠ b7 by omega) (gCells (gridOf A))
        have cb2 := cell_row hS.cb (show w.heap.size + 1 ≠ b7 by omega) (gCells (gridOf A))
        refine hK.out _ _ ⟨ca2, cb2⟩ (fun _ => ?_)
        clear hK
        try simp only [Act.put]
        refine wpAnyH_ready (rs := [9]) (by kernel_rfl) (by simp) ?_
        refine AllReadyH.cons rfl (fun K hK => ?_) AllReadyH.nil
        rw [if_pos (by kernel_rfl)]
        refine wp_store_grid (.tmp 8) (.tmp 25) rfl b8 _ (gridOf B) rfl rfl (G8.rowFar (Ne.symm n78) _) ?_
        refine hK.out _ _ ⟨cell_row ca2 (show w.heap.size ≠ b8 by omega) _, cell_row cb2 (show w.heap.size + 1 ≠ b8 by omega) _⟩ (fun _ => ?_)
        clear hK
        try simp only [Act.put]
        refine wpAnyH_done (by kernel_rfl) ?_ _
        go_wp2_with fail
        go_meet
        case rel => exact ⟨b7, b8, rfl, rfl, (G7.row).rowFar n78 _, (G8.rowFar (Ne.symm n78) _).row, n78, l7, l8, (hS.rs.rowFar (by omega) _).rowFar (by omega) _, below_setRow (below_setRow hS.bw (by omega) _) (by omega) _⟩
    ·rw [if_pos (by kernel_rfl)]
     refine wp_alloc_grid 7 rfl rfl ?_
     intro b7 W' hb G7 l7
     replace l7 : w.heap.size + 3 ≤ b7 := by have := hS.rs.lt; omega
     replace hS := hS.call hb
     clear hb
     refine hK.out _ _ ⟨hS.ca, hS.cb⟩ (fun _ => ?_)
     clear hK
     try simp only [Act.put, List.setIfInBounds_toArray]
     refine wpAnyH_ready (rs := [2, 7]) (by kernel_rfl) (by simp) ?_
     refine (AllReadyH.cons rfl (fun K hK => ?_) (AllReadyH.cons rfl (fun K hK => ?_) AllReadyH.nil))
     ·rw [if_pos (by kernel_rfl)]
      go_simp
      with_reducible refine (HA.out _ hS.ra).mono ?_
      rintro e W' ⟨rfl, hb⟩
      replace G7 := G7.call hb
      replace hS := hS.call hb
      clear hb
      dsimp only
      refine hK.out _ _ ⟨hS.ca, hS.cb⟩ (fun _ => ?_)
      clear hK
      try simp only [Act.put, List.setIfInBounds_toArray, List.set_cons_zero, List.set_cons_succ]
      refine wpAnyH_ready (rs := [5, 7]) (by kernel_rfl) (by simp) ?_
      refine (AllReadyH.cons rfl (fun K hK => ?_) (AllReadyH.cons rfl (fun K hK => ?_) AllReadyH.nil))
      ·rw [if_pos (by kernel_rfl)]
       go_simp
       with_reducible refine (HB.out _ hS.rb).mono ?_
       rintro e W' ⟨rfl, hb⟩
       replace G7 := G7.call hb
       replace hS := hS.call hb
       clear hb
       dsimp only
       refine hK.out _ _ ⟨hS.ca, hS.cb⟩ (fun _ => ?_)
       clear hK
       try simp only [Act.put, List.setIfInBounds_toArray, List.set_cons_zero, List.set_cons_succ]
       refine wpAnyH_ready (rs := [7]) (by kernel_rfl) (by simp) ?_
       refine (AllReadyH.cons rfl (fun K hK => ?_) AllReadyH.nil)
       ·rw [if_pos (by kernel_rfl)]
        refine wp_alloc_grid 8 rfl rfl ?_
        intro b8 W' hb G8 l8
        have n78 : b7 ≠ b8 := by have := G7.lt; omega
        replace G7 := G7.call hb
        replace l8 : w.heap.size + 3 ≤ b8 := by have := hS.rs.lt; omega
        replace hS := hS.call hb
        clear hb
        refine hK.out _ _ ⟨hS.ca, hS.cb⟩ (fun _ => ?_)
        clear hK
        try simp only [Act.put, List.setIfInBounds_toArray, List.set_cons_zero, List.set_cons_succ]
        refine wpAnyH_ready (rs := [8]) (by kernel_rfl) (by simp) ?_
        refine AllReadyH.cons rfl (fun K hK => ?_) AllReadyH.nil
        rw [if_pos (by kernel_rfl)]
        refine wp_store_grid (.tmp 7) (.tmp 22) rfl b7 _ (gridOf A) rfl rfl G7 ?_
        have ca2 := cell_row hS.ca (show w.heap.size ≠ b7 by omega) (gCells (gridOf A))
        have cb2 := cell_row hS.cb (show w.heap.size + 1 ≠ b7 by omega) (gCells (gridOf A))
        refine hK.out _ _ ⟨ca2, cb2⟩ (fun _ => ?_)
        clear hK
        try simp only [Act.put]
        refine wpAnyH_ready (rs := [9]) (by kernel_rfl) (by simp) ?_
        refine AllReadyH.cons rfl (fun K hK => ?_) AllReadyH.nil
        rw [if_pos (by kernel_rfl)]
        refine wp_store_grid (.tmp 8) (.tmp 25) rfl b8 _ (gridOf B) rfl rfl (G8.rowFar (Ne.symm n78) _) ?_
        refine hK.out _ _ ⟨cell_row ca2 (show w.heap.size ≠ b8 by omega) _, cell_row cb2 (show w.heap.size + 1 ≠ b8 by omega) _⟩ (fun _ => ?_)
        clear hK
        try simp only [Act.put]
        refine wpAnyH_done (by kernel_rfl) ?_ _
        go_wp2_with fail
        go_meet
        case rel => exact ⟨b7, b8, rfl, rfl, (G7.row).rowFar n78 _, (G8.rowFar (Ne.symm n78) _).row, n78, l7, l8, (hS.rs.rowFar (by omega) _).rowFar (by omega) _, below_setRow (below_setRow hS.bw (by omega) _) (by omega) _⟩
      ·rw [if_pos (by kernel_rfl)]
       refine wp_alloc_grid 8 rfl rfl ?_
       intro b8 W' hb G8 l8
       have n78 : b7 ≠ b8 := by have := G7.lt; omega
       replace G7 := G7.call hb
       replace l8 : w.heap.size + 3 ≤ b8 := by have := hS.rs.lt; omega
       replace hS := hS.call hb
       clear hb
       refine hK.out _ _ ⟨hS.ca, hS.cb⟩ (fun _ => ?_)
       clear hK
       try simp only [Act.put, List.setIfInBounds_toArray, List.set_cons_zero, List.set_cons_succ]
       refine wpAnyH_ready (rs := [5]) (by kernel_rfl) (by simp) ?_
       refine (AllReadyH.cons rfl (fun K hK => ?_) AllReadyH.nil)
       ·rw [if_pos (by kernel_rfl)]
        go_simp
        with_reducible refine (HB.out _ hS.rb).mono ?_
        rintro e W' ⟨rfl, hb⟩
        replace G7 := G7.call hb
        replace G8 := G8.call hb
        replace hS := hS.call hb
        clear hb
        dsimp only
        refine hK.out _ _ ⟨hS.ca, hS.cb⟩ (fun _ => ?_)
        clear hK
        try simp only [Act.put, List.setIfInBounds_toArray, List.set_cons_zero, List.set_cons_succ]
        refine wpAnyH_ready (rs := [8]) (by kernel_rfl) (by simp) ?_
        refine AllReadyH.cons rfl (fun K hK => ?_) AllReadyH.nil
        rw [if_pos (by kernel_rfl)]
        refine wp_store_grid (.tmp 7) (.tmp 22) rfl b7 _ (gridOf A) rfl rfl G7 ?_
        have ca2 := cell_row hS.ca (show w.heap.size ≠ b7 by omega) (gCells (gridOf A))
        have cb2 := cell_row hS.cb (show w.heap.size + 1 ≠ b7 by omega) (gCells (gridOf A))
        refine hK.out _ _ ⟨ca2, cb2⟩ (fun _ => ?_)
        clear hK
        try simp only [Act.put]
        refine wpAnyH_ready (rs := [9]) (by kernel_rfl) (by simp) ?_
        refine AllReadyH.cons rfl (fun K hK => ?_) AllReadyH.nil
        rw [if_pos (by kernel_rfl)]
        refine wp_store_grid (.tmp 8) (.tmp 25) rfl b8 _ (gridOf B) rfl rfl (G8.rowFar (Ne.symm n78) _) ?_
        refine hK.out _ _ ⟨cell_row ca2 (show w.heap.size ≠ b8 by omega) _, cell_row cb2 (show w.heap.size + 1 ≠ b8 by omega) _⟩ (fun _ => ?_)
        clear hK
        try simp only [Act.put]
        refine wpAnyH_done (by kernel_rfl) ?_ _
        go_wp2_with fail
        go_meet
        case rel => exact ⟨b7, b8, rfl, rfl, (G7.row).rowFar n78 _, (G8.rowFar (Ne.symm n78) _).row, n78, l7, l8, (hS.rs.rowFar (by omega) _).rowFar (by omega) _, below_setRow (below_setRow hS.bw (by omega) _) (by omega) _⟩
     ·rw [if_pos (by kernel_rfl)]
      refine wp_alloc_grid 8 rfl rfl ?_
      intro b8 W' hb G8 l8
      have n78 : b7 ≠ b8 := by have := G7.lt; omega
      replace G7 := G7.call hb
      replace l8 : w.heap.size + 3 ≤ b8 := by have := hS.rs.lt; omega
      replace hS := hS.call hb
      clear hb
      refine hK.out _ _ ⟨hS.ca, hS.cb⟩ (fun _ => ?_)
      clear hK
      try simp only [Act.put]
      refine wpAnyH_ready (rs := [2]) (by kernel_rfl) (by simp) ?_
      refine (AllReadyH.cons rfl (fun K hK => ?_) AllReadyH.nil)
      ·rw [if_pos (by kernel_rfl)]
       go_simp
       with_reducible refine (HA.out _ hS.ra).mono ?_
       rintro e W' ⟨rfl, hb⟩
       replace G7 := G7.call hb
       replace G8 := G8.call hb
       replace hS := hS.call hb
       clear hb
       dsimp only
       refine hK.out _ _ ⟨hS.ca, hS.cb⟩ (fun _ => ?_)
       clear hK
       try simp only [Act.put, List.setIfInBounds_toArray, List.set_cons_zero, List.set_cons_succ]
       refine wpAnyH_ready (rs := [5]) (by kernel_rfl) (by simp) ?_
       refine (AllReadyH.cons rfl (fun K hK => ?_) AllReadyH.nil)
       ·rw [if_pos (by kernel_rfl)]
        go_simp
        with_reducible refine (HB.out _ hS.rb).mono ?_
        rintro e W' ⟨rfl, hb⟩
        replace G7 := G7.call hb
        replace G8 := G8.call hb
        replace hS := hS.call hb
        clear hb
        dsimp only
        refine hK.out _ _ ⟨hS.ca, hS.cb⟩ (fun _ => ?_)
        clear hK
        try simp only [Act.put, List.setIfInBounds_toArray, List.set_cons_zero, List.set_cons_succ]
        refine wpAnyH_ready (rs := [8]) (by kernel_rfl) (by simp) ?_
        refine AllReadyH.cons rfl (fun K hK => ?_) AllReadyH.nil
        rw [if_pos (by kernel_rfl)]
        refine wp_store_grid (.tmp 7) (.tmp 22) rfl b7 _ (gridOf A) rfl rfl G7 ?_
        have ca2 := cell_row hS.ca (show w.heap.size ≠ b7 by omega) (gCells (gridOf A))
        have cb2 := cell_row hS.cb (show w.heap.size + 1 ≠ b7 by omega) (gCells (gridOf A))
        refine hK.out _ _ ⟨ca2, cb2⟩ (fun _ => ?_)
        clear hK
        try simp only [Act.put]
        refine wpAnyH_ready (rs := [9]) (by kernel_rfl) (by simp) ?_
        refine AllReadyH.cons rfl (fun K hK => ?_) AllReadyH.nil
        rw [if_pos (by kernel_rfl)]
        refine wp_store_grid (.tmp 8) (.tmp 25) rfl b8 _ (gridOf B) rfl rfl (G8.rowFar (Ne.symm n78) _) ?_
        refine hK.out _ _ ⟨cell_row ca2 (show w.heap.size ≠ b8 by omega) _, cell_row cb2 (show w.heap.size + 1 ≠ b8 by omega) _⟩ (fun _ => ?_)
        clear hK
        try simp only [Act.put]
        refine wpAnyH_done (by kernel_rfl) ?_ _
        go_wp2_with fail
        go_meet
        case rel => exact ⟨b7, b8, rfl, rfl, (G7.row).rowFar n78 _, (G8.rowFar (Ne.symm n78) _).row, n78, l7, l8, (hS.rs.rowFar (by omega) _).rowFar (by omega) _, below_setRow (below_setRow hS.bw (by omega) _) (by omega) _⟩
    ·rw [if_pos (by kernel_rfl)]
     refine wp_alloc_grid 8 rfl rfl ?_
     intro b8 W' hb G8 l8
     replace l8 : w.heap.size + 3 ≤ b8 := by have := hS.rs.lt; omega
     replace hS := hS.call hb
     clear hb
     refine hK.out _ _ ⟨hS.ca, hS.cb⟩ (fun _ => ?_)
     clear hK
     try simp only [Act.put, List.setIfInBounds_toArray]
     refine wpAnyH_ready (rs := [2, 6]) (by kernel_rfl) (by simp) ?_
     refine (AllReadyH.cons rfl (fun K hK => ?_) (AllReadyH.cons rfl (fun K hK => ?_) AllReadyH.nil))
     ·rw [if_pos (by kernel_rfl)]
      go_simp
      with_reducible refine (HA.out _ hS.ra).mono ?_
      rintro e W' ⟨rfl, hb⟩
      replace G8 := G8.call hb
      replace hS := hS.call hb
      clear hb
      dsimp only
      refine hK.out _ _ ⟨hS.ca, hS.cb⟩ (fun _ => ?_)
      clear hK
      try simp only [Act.put, List.setIfInBounds_toArray, List.set_cons_zero, List.set_cons_succ]
      refine wpAnyH_ready (rs := [5, 6]) (by kernel_rfl) (by simp) ?_
      refine (AllReadyH.cons rfl (fun K hK => ?_) (AllReadyH.cons rfl (fun K hK => ?_) AllReadyH.nil))
      ·rw [if_pos (by kernel_rfl)]
       go_simp
       with_reducible refine (HB.out _ hS.rb).mono ?_
       rintro e W' ⟨rfl, hb⟩
       replace G8 := G8.call hb
       replace hS := hS.call hb
       clear hb
       dsimp only
       refine hK.out _ _ ⟨hS.ca, hS.cb⟩ (fun _ => ?_)
       clear hK
       try simp only [Act.put, List.setIfInBounds_toArray, List.set_cons_zero, List.set_cons_succ]
       refine wpAnyH_ready (rs := [6]) (by kernel_rfl) (by simp) ?_
       refine (AllReadyH.cons rfl (fun K hK => ?_) AllReadyH.nil)
       ·rw [if_pos (by kernel_rfl)]
        refine wp_alloc_grid 7 rfl rfl ?_
        intro b7 W' hb G7 l7
        have n78 : b7 ≠ b8 := by have := G8.lt; omega
        replace G8 := G8.call hb
        replace l7 : w.heap.size + 3 ≤ b7 := by have := hS.rs.lt; omega
        replace hS := hS.call hb
        clear hb
        refine hK.out _ _ ⟨hS.ca, hS.cb⟩ (fun _ => ?_)
        clear hK
        try simp only [Act.put, List.setIfInBounds_toArray, List.set_cons_zero, List.set_cons_succ]
        refine wpAnyH_ready (rs := [8]) (by kernel_rfl) (by simp) ?_
        refine AllReadyH.cons rfl (fun K hK => ?_) AllReadyH.nil
        rw [if_pos (by kernel_rfl)]
        refine wp_store_grid (.tmp 7) (.tmp 22) rfl b7 _ (gridOf A) rfl rfl G7 ?_
        have ca2 := cell_row hS.ca (show w.heap.size ≠ b7 by omega) (gCells (gridOf A))
        have cb2 := cell_row hS.cb (show w.heap.size + 1 ≠ b7 by omega) (gCells (gridOf A))
        refine hK.out _ _ ⟨ca2, cb2⟩ (fun _ => ?_)
        clear hK
        try simp only [Act.put]
        refine wpAnyH_ready (rs := [9]) (by kernel_rfl) (by simp) ?_
        refine AllReadyH.cons rfl (fun K hK => ?_) AllReadyH.nil
        rw [if_pos (by kernel_rfl)]
        refine wp_store_grid (.tmp 8) (.tmp 25) rfl b8 _ (gridOf B) rfl rfl (G8.rowFar (Ne.symm n78) _) ?_
        refine hK.out _ _ ⟨cell_row ca2 (show w.heap.size ≠ b8 by omega) _, cell_row cb2 (show w.heap.size + 1 ≠ b8 by omega) _⟩ (fun _ => ?_)
        clear hK
        try simp only [Act.put]
        refine wpAnyH_done (by kernel_rfl) ?_ _
        go_wp2_with fail
        go_meet
        case rel => exact ⟨b7, b8, rfl, rfl, (G7.row).rowFar n78 _, (G8.rowFar (Ne.symm n78) _).row, n78, l7, l8, (hS.rs.rowFar (by omega) _).rowFar (by omega) _, below_setRow (below_setRow hS.bw (by omega) _) (by omega) _⟩
      ·rw [if_pos (by kernel_rfl)]
       refine wp_alloc_grid 7 rfl rfl ?_
       intro b7 W' hb G7 l7
       have n78 : b7 ≠ b8 := by have := G8.lt; omega
       replace G8 := G8.call hb
       replace l7 : w.heap.size + 3 ≤ b7 := by have := hS.rs.lt; omega
       replace hS := hS.call hb
       clear hb
       refine hK.out _ _ ⟨hS.ca, hS.cb⟩ (fun _ => ?_)
       clear hK
       try simp only [Act.put, List.setIfInBounds_toArray, List.set_cons_zero, List.set_cons_succ]
       refine wpAnyH_ready (rs := [5]) (by kernel_rfl) (by simp) ?_
       refine (AllReadyH.cons rfl (fun K hK => ?_) AllReadyH.nil)
       ·rw [if_pos (by kernel_rfl)]
        go_simp
        with_reducible refine (HB.out _ hS.rb).mono ?_
        rintro e W' ⟨rfl, hb⟩
        replace G7 := G7.call hb
        replace G8 := G8.call hb
        replace hS := hS.call hb
        clear hb
        dsimp only
        refine hK.out _ _ ⟨hS.ca, hS.cb⟩ (fun _ => ?_)
        clear hK
        try simp only [Act.put, List.setIfInBounds_toArray, List.set_cons_zero, List.set_cons_succ]
        refine wpAnyH_ready (rs := [8]) (by kernel_rfl) (by simp) ?_
        refine AllReadyH.cons rfl (fun K hK => ?_) AllReadyH.nil
        rw [if_pos (by kernel_rfl)]
        refine wp_store_grid (.tmp 7) (.tmp 22) rfl b7 _ (gridOf A) rfl rfl G7 ?_
        have ca2 := cell_row hS.ca (show w.heap.size ≠ b7 by omega) (gCells (gridOf A))
        have cb2 := cell_row hS.cb (show w.heap.size + 1 ≠ b7 by omega) (gCells (gridOf A))
        refine hK.out _ _ ⟨ca2, cb2⟩ (fun _ => ?_)
        clear hK
        try simp only [Act.put]
        refine wpAnyH_ready (rs := [9]) (by kernel_rfl) (by simp) ?_
        refine AllReadyH.cons rfl (fun K hK => ?_) AllReadyH.nil
        rw [if_pos (by kernel_rfl)]
        refine wp_store_grid (.tmp 8) (.tmp 25) rfl b8 _ (gridOf B) rfl rfl (G8.rowFar (Ne.symm n78) _) ?_
        refine hK.out _ _ ⟨cell_row ca2 (show w.heap.size ≠ b8 by omega) _, cell_row cb2 (show w.heap.size + 1 ≠ b8 by omega) _⟩ (fun _ => ?_)
        clear hK
        try simp only [Act.put]
        refine wpAnyH_done (by kernel_rfl) ?_ _
        go_wp2_with fail
        go_meet
        case rel => exact ⟨b7, b8, rfl, rfl, (G7.row).rowFar n78 _, (G8.rowFar (Ne.symm n78) _).row, n78, l7, l8, (hS.rs.rowFar (by omega) _).rowFar (by omega) _, below_setRow (below_setRow hS.bw (by omega) _) (by omega) _⟩
     ·rw [if_pos (by kernel_rfl)]
      refine wp_alloc_grid 7 rfl rfl ?_
      intro b7 W' hb G7 l7
      have n78 : b7 ≠ b8 := by have := G8.lt; omega
      replace G8 := G8.call hb
      replace l7 : w.heap.size + 3 ≤ b7 := by have := hS.rs.lt; omega
      replace hS := hS.call hb
      clear hb
      refine hK.out _ _ ⟨hS.ca, hS.cb⟩ (fun _ => ?_)
      clear hK
      try simp only [Act.put]
      refine wpAnyH_ready (rs := [2]) (by kernel_rfl) (by simp) ?_
      refine (AllReadyH.cons rfl (fun K hK => ?_) AllReadyH.nil)
      ·rw [if_pos (by kernel_rfl)]
       go_simp
       with_reducible refine (HA.out _ hS.ra).mono ?_
       rintro e W' ⟨rfl, hb⟩
       replace G7 := G7.call hb
       replace G8 := G8.call hb
       replace hS := hS.call hb
       clear hb
       dsimp only
       refine hK.out _ _ ⟨hS.ca, hS.cb⟩ (fun _ => ?_)
       clear hK
       try simp only [Act.put, List.setIfInBounds_toArray, List.set_cons_zero, List.set_cons_succ]
       refine wpAnyH_ready (rs := [5]) (by kernel_rfl) (by simp) ?_
       refine (AllReadyH.cons rfl (fun K hK => ?_) AllReadyH.nil)
       ·rw [if_pos (by kernel_rfl)]
        go_simp
        with_reducible refine (HB.out _ hS.rb).mono ?_
        rintro e W' ⟨rfl, hb⟩
        replace G7 := G7.call hb
        replace G8 := G8.call hb
        replace hS := hS.call hb
        clear hb
        dsimp only
        refine hK.out _ _ ⟨hS.ca, hS.cb⟩ (fun _ => ?_)
        clear hK
        try simp only [Act.put, List.setIfInBounds_toArray, List.set_cons_zero, List.set_cons_succ]
        refine wpAnyH_ready (rs := [8]) (by kernel_rfl) (by simp) ?_
        refine AllReadyH.cons rfl (fun K hK => ?_) AllReadyH.nil
        rw [if_pos (by kernel_rfl)]
        refine wp_store_grid (.tmp 7) (.tmp 22) rfl b7 _ (gridOf A) rfl rfl G7 ?_
        have ca2 := cell_row hS.ca (show w.heap.size ≠ b7 by omega) (gCells (gridOf A))
        have cb2 := cell_row hS.cb (show w.heap.size + 1 ≠ b7 by omega) (gCells (gridOf A))
        refine hK.out _ _ ⟨ca2, cb2⟩ (fun _ => ?_)
        clear hK
        try simp only [Act.put]
        refine wpAnyH_ready (rs := [9]) (by kernel_rfl) (by simp) ?_
        refine AllReadyH.cons rfl (fun K hK => ?_) AllReadyH.nil
        rw [if_pos (by kernel_rfl)]
        refine wp_store_grid (.tmp 8) (.tmp 25) rfl b8 _ (gridOf B) rfl rfl (G8.rowFar (Ne.symm n78) _) ?_
        refine hK.out _ _ ⟨cell_row ca2 (show w.heap.size ≠ b8 by omega) _, cell_row cb2 (show w.heap.size + 1 ≠ b8 by omega) _⟩ (fun _ => ?_)
        clear hK
        try simp only [Act.put]
        refine wpAnyH_done (by kernel_rfl) ?_ _
        go_wp2_with fail
        go_meet
        case rel => exact ⟨b7, b8, rfl, rfl, (G7.row).rowFar n78 _, (G8.rowFar (Ne.symm n78) _).row, n78, l7, l8, (hS.rs.rowFar (by omega) _).rowFar (by omega) _, below_setRow (below_setRow hS.bw (by omega) _) (by omega) _⟩
   case rest =>
    clear hS
    obtain ⟨b, c, rfl, rfl, hG⟩ := hcut
    have hl1 := hG.l1
    go_wp2_with fail
    go_loopg [26] 16 (fun gk i wr => ∃ y : Nat, y ≤ 16 ∧ gk = 16 - y ∧ i = .int .i64 y ∧ CgSt w (joinTo f (gridOf A) (gridOf B) (y * 16)) (gridOf B) b c wr)
    case atStart => exact ⟨0, Nat.zero_le _, rfl, rfl, hG.congr (fun i _ => by rw [Nat.zero_mul, joinTo_zero])⟩
    case round =>
     clear hG
     obtain ⟨y, hy, rfl, rfl, hG⟩ := hrel
     by_cases hy16 : y < 16
     ·have hyi : (y : Int) < 16 := by omega
      have hy0 : (0 : Int) ≤ (y : Int) := by omega
      go_wp2_with fail
      go_loopg [29] 16 (fun g2 i2 wx => ∃ x : Nat, x ≤ 16 ∧ g2 = 16 - x ∧ i2 = .int .i64 x ∧ CgSt w (joinTo f (gridOf A) (gridOf B) (y * 16 + x)) (gridOf B) b c wx)
      case atStart => exact ⟨0, Nat.zero_le _, rfl, rfl, hG⟩
      case round =>
       clear hG
       obtain ⟨x, hx, rfl, rfl, hG⟩ := hrel
       by_cases hx16 : x < 16
       ·have hxi : (x : Int) < 16 := by omega
        have hx0 : (0 : Int) ≤ (x : Int) := by omega
        have c1 := hG.g1.cell (y * 16 + x) (by omega)
        rw [joinTo_at] at c1
        have c2 := hG.g2.cell (y * 16 + x) (by omega)
        have cf := hG.g1.frozen (y * 16 + x)
        obtain ⟨p, hp⟩ : ∃ p, p = gridOf A (y * 16 + x) := ⟨_, rfl⟩
        obtain ⟨q, hq⟩ : ∃ q, q = gridOf B (y * 16 + x) := ⟨_, rfl⟩
        rw [← hp] at c1
        rw [← hq] at c2
        have hG2 := hG.set (y * 16 + x) (f p q)
        rw [hp, hq] at hG2
        have HG := Lib.hid (hG2.congr (fun i _ => joinTo_next f (gridOf A) (gridOf B) (y * 16 + x) i))
        have Hp := Lib.hid hp
        have Hq := Lib.hid hq
        clear hG hG2 hp hq
        go_wp2_with fail
        go_region_with (((with_reducible refine (HK p q _).mono ?_); rintro e wk ⟨rfl, rfl⟩))
        all_goals
         go_wp2_with fail
         go_roundg (16 - (x + 1))
         case measure => omega
         case rel => exact ⟨x + 1, by omega, rfl, by go_num, by rw [Hp.out, Hq.out]; exact HG.out.drewSet⟩
       ·have hxi : ¬ (x : Int) < 16 := by omega
        go_wp2_with fail
        go_roundg (16 - (y + 1))
        case measure => omega
        case rel => exact ⟨y + 1, by omega, rfl, by go_num, hG.congr (fun i _ => by rw [show y * 16 + x = (y + 1) * 16 by omega])⟩
     ·have hyi : ¬ (y : Int) < 16 := by omega
      have hG := hG.congr (g' := joinG f (gridOf A) (gridOf B)) (fun i hi => by rw [show y * 16 = 256 by omega, joinTo_end _ _ _ _ hi])
      go_wp2_with fail
      refine wp_load_grid (.tmp 7) rfl b (joinG f (gridOf A) (gridOf B)) rfl hG.g1 ?_
      go_wp2_with fail
      refine (canI (joinG f (gridOf A) (gridOf B)) _).mono ?_
      rintro e w2 ⟨v, rfl, hown, hb⟩
      have hz := hG.bw.size
      have hrl := hG.rs.lt
      have hG := hG.call hb
      obtain ⟨Av, cv, hv⟩ := own_shape hown
      subst hv
      have rc := hG.rs.cell
      have rf := hG.rs.frozen
      rw [← Hj.out] at hown
      have Hown := Lib.hid hown
      clear hown hb
      go_wp2_with fail
      exact bodyPost_ret (v := .agg #[.slice Av (canon (joinG f (gridOf A) (gridOf B))).length cv]) (by simp [results, Tryz.results123, go_sem, rc]) rfl ⟨_, rfl, own_set (by rw [Hj.out] at Hown ⊢; exact Hown.out) (by omega) (by omega) _, hG.bw.setCell (by simp; omega) _⟩
end Go.Proofs.YtnndifemkichmaaGreat
