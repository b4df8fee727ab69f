/- The contract of the program's CopyRegion where it leaves the image as it is. No statement is proved here. -/
import Derived.Test.YtokniebejilcbaaGreatMA
import Derived.Test.YtokniebejilcbaaGreatMB
import Derived.Test.YtokniebejilcbaaGreatMC
import Derived.Test.YtokniebejilcbaaGreatProg
import Derived.WalkKit
import Derived.ProofKit
import Derived.OpenShut
import Derived.WalkLawsBesides
import Derived.WalkSpells
import Derived.ShutString
import Derived.ChangeOld
import Derived.Below
import Derived.Lib.Hide
import Derived.BigQuiet
import Derived.Deep.QuietTactic
import Derived.Maps.AppendAt
import Derived.Deep.OwnRows
import Derived.Handy
import Derived.Deep.Draws
import Derived.OwnWalk
import Derived.Deep.AppendLies
import Derived.Deep.LoopGhost
import Derived.Deep.Onto
import Derived.Laws.BitsAllLaws
import Derived.Lib.QuoteBits
import Derived.Test.YtokniebejilcbaaGreatShelf
import Derived.Laws.CopyOwn
import Derived.Deep.RegionLaw
import Derived.Deep.RegionHeld3
import Derived.Deep.DeepCutAuto
import Derived.Great.BuildSlice
import Derived.Deep.MidRow
import Derived.Deep.WholeRow
import Derived.Laws.AppendOwn
namespace Go.Proofs.YtokniebejilcbaaGreat
open Go.RowKit
structure CpI (w0 : World) (X Y : Int) (L : List Int) (X2 Y2 : Int) (u : Value) (b7 b8 : Nat) (vo : Value) (W : World) : Prop where
 t7 : ImAt W b7 114 X Y vo
 t8 : ImAt W b8 114 X2 Y2 u
 own : W.ownsRow w0.heap.size 3 1 vo L.length (intCells L)
 n7 : ∀ k, vo.ownBlock = some k → k ≠ b7
 n8 : ∀ k, vo.ownBlock = some k → k ≠ b8
 n78 : b7 ≠ b8
 k7 : w0.heap.size ≤ b7
 k8 : w0.heap.size ≤ b8
 bw : Below w0.heap.size w0 W
theorem CpI.call {w0 : World} {X Y : Int} {L : List Int} {X2 Y2 : Int} {u : Value} {b7 b8 : Nat} {vo : Value} {W W' : World} (h : CpI w0 X Y L X2 Y2 u b7 b8 vo W) (hb : Below W.heap.size W W') : CpI w0 X Y L X2 Y2 u b7 b8 vo W' :=
 ⟨h.t7.call hb, h.t8.call hb, ownI_call h.own hb, h.n7, h.n8, h.n78, h.k7, h.k8, belI_call h.bw hb⟩
set_option maxHeartbeats 1000000 in
set_option maxRecDepth 10000 in
theorem copyI_bad1 (X Y : Int) (v : Value) (L : List Int) (X2 Y2 : Int) (u : Value) (F : List Int) (vr : Value) (R : List Rc) (w : World) (hm : L.length ≤ 2097152) (hv : RdI w v L) (hu : RdI w u F) (hr : RdR w vr R) (h1 : ¬ imOk X Y L) :
  Calls Tryz.prog 78 #[.agg #[.int .i64 X, .int .i64 Y, v], .agg #[.int .i64 X2, .int .i64 Y2, u], .agg #[vr]] w (AnsIm (copyIm X Y L X2 Y2 F R) w) := by
 have HA : Hid (copyIm X Y L X2 Y2 F R = ⟨X, Y, L⟩) := Lib.hid (copy_no fun h => h1 h.1)
 have Ho := Lib.hid h1
 clear h1
 have Hm := Lib.hid hm
 obtain ⟨A, c, rfl⟩ := hv.form
 obtain ⟨A2, c2, rfl⟩ := hu.form
 obtain ⟨A3, c3, rfl⟩ := hr.form
 obtain ⟨w0, hw0⟩ : ∃ w0, w0 = ((((w.alloc (.cells #[.int .i64 X, .int .i64 Y, .slice A L.length c] 55)).alloc (.cells #[.int .i64 X2, .int .i64 Y2, .slice A2 F.length c2] 55)).alloc (.cells #[.slice A3 R.length c3] 30)).alloc (.cells #[.int .i64 0, .int .i64 0, .slice none 0 0] 55)) := ⟨_, rfl⟩
 have hS := CsB.born w X Y (.slice A L.length c) X2 Y2 (.slice A2 F.length c2) F (.slice A3 R.length c3) R hu hr
 have hv0 := ((((hv.alloc (.cells #[.int .i64 X, .int .i64 Y, .slice A L.length c] 55)).alloc (.cells #[.int .i64 X2, .int .i64 Y2, .slice A2 F.length c2] 55)).alloc (.cells #[.slice A3 R.length c3] 30)).alloc (.cells #[.int .i64 0, .int .i64 0, .slice none 0 0] 55))
 have hz : w0.heap.size = w.heap.size + 4 := by rw [hw0]; simp
 rw [← hw0] at hS hv0
 clear hm hv hu hr
 go_enter Tryz.func78, Tryz.ntmps78
 go_upto_region 1 with fail
 rw [← hw0]
 clear hw0
 go_cut [7, 8] (fun s7 s8 wx => ∃ (b7 b8 : Nat) (Ao : Option Addr) (co : Nat), s7 = .pointer (some ⟨b7, 0, none⟩) ∧ s8 = .pointer (some ⟨b8, 0, none⟩) ∧ CpI w0 X Y L X2 Y2 (.slice A2 F.length c2) b7 b8 (.slice Ao L.length co) wx)
 case first =>
  refine wp_region_held_drew (S := fun W => Below w0.heap.size w0 W) (by kernel_rfl) (Below.refl _ _).drew (fun hW => ?_)
  refine tcH (i := 0) (v := .agg #[.int .i64 X, .int .i64 Y, .slice A L.length c]) rfl (by intro w' hSw; (try dsimp only at hSw); (obtain ⟨a0, a1, a2⟩ := (hS.call hSw).a.cells); (obtain ⟨b0, b1, b2⟩ := (hS.call hSw).b.cells); go_simp) ?_
  refine tcH (i := 2) (v := .agg #[.int .i64 X2, .int .i64 Y2, .slice A2 F.length c2]) rfl (by intro w' hSw; (try dsimp only at hSw); (obtain ⟨a0, a1, a2⟩ := (hS.call hSw).a.cells); (obtain ⟨b0, b1, b2⟩ := (hS.call hSw).b.cells); go_simp) ?_
  (try simp only [Act.put]); (try simp only [zPa]); (try simp only [zPb, zPc])
  refine wpAnyH_ready (rs := [1, 3, 4]) (by kernel_rfl) (by simp) ?_
  refine (AllReadyH.cons rfl (fun K hK => ?_) (AllReadyH.cons rfl (fun K hK => ?_) (AllReadyH.cons rfl (fun K hK => ?_) AllReadyH.nil)))
  ·rw [if_pos (by kernel_rfl)]
   (try simp only [zGa]); (try simp only [zGb]); (try simp only [zGc])
   go_simp
   with_reducible refine (copiedI X Y _ L _ Hm.out (hv0.call hW)).mono ?_
   rintro e W' ⟨vo, rfl, hown, hb⟩
   obtain ⟨Ao, co, hvo⟩ := ownI_shape hown
   subst hvo
   replace hown := hown.mono hW.size
   dsimp only
   refine hK.out _ _ (belI_call hW hb) (fun hW => ?_)
   clear hK
   (try simp only [Act.put]); (try simp only [zPa]); (try simp only [zPb, zPc])
   refine wpAnyH_ready (rs := [3, 4]) (by kernel_rfl) (by simp) ?_
   refine (AllReadyH.cons rfl (fun K hK => ?_) (AllReadyH.cons rfl (fun K hK => ?_) AllReadyH.nil))
   ·rw [if_pos (by kernel_rfl)]
    (try simp only [zGa]); (try simp only [zGb]); (try simp only [zGc])
    refine wp_alloc_im 114 zero71 7 rfl rfl ?_
    intro b7 W' hb G7 l7
    have k7 := Nat.le_trans hW.size l7
    have n7 : ∀ k, (Value.slice Ao L.length co).ownBlock = some k → k ≠ b7 := fun k hk => by have := (hown.lt k hk).2; omega
    have hown := ownI_call hown hb
    refine hK.out _ _ (belI_call hW hb) (fun hW => ?_)
    clear hK
    (try simp only [Act.put]); (try simp only [zPa]); (try simp only [zPb, zPc])
    refine wpAnyH_ready (rs := [4]) (by kernel_rfl) (by simp) ?_
    refine (AllReadyH.cons rfl (fun K hK => ?_) AllReadyH.nil)
    ·rw [if_pos (by kernel_rfl)]
     (try simp only [zGa]); (try simp only [zGb]); (try simp only [zGc])
     refine wp_alloc_im 114 zero71 8 rfl rfl ?_
     intro b8 W' hb G8 l8
     have k8 := Nat.le_trans hW.size l8
     have n78 : b7 ≠ b8 := by have := G7.lt; omega
     have n8 : ∀ k, (Value.slice Ao L.length co).ownBlock = some k → k ≠ b8 := fun k hk => by have := (hown.lt k hk).2; omega
     have hown := ownI_call hown hb
     have G7 := G7.call hb
     refine hK.out _ _ (belI_call hW hb) (fun hW => ?_)
     clear hK
     (try simp only [Act.put]); (try simp only [zPa]); (try simp only [zPb, zPc])
     refine wpAnyH_ready (rs := [5]) (by kernel_rfl) (by simp) ?_
     refine (AllReadyH.cons rfl (fun K hK => ?_) AllReadyH.nil)
     ·rw [if_pos (by kernel_rfl)]
      (try simp only [zGa]); (try simp only [zGb]); (try simp only [zGc])
      refine wp_store_im 114 size71 (.tmp 7) (.tmp 15) rfl b7 0 0 (.slice none 0 0) X Y Ao L.length co rfl rfl G7 ?_
      intro W3 I7 hg7
      replace hown := hown.kept hg7 (ownI_ne n7)
      replace G7 := I7
      replace G8 := G8.grown hg7 (fun e => n78 (by injection e with e; exact e.symm))
      refine hK.out _ _ (hW.grown hg7 hW.size (fun k hk => by injection hk with hk; omega)) (fun hW => ?_)
      clear hK
      (try simp only [Act.put]); (try simp only [zPa]); (try simp only [zPb, zPc])
      refine wpAnyH_ready (rs := [6]) (by kernel_rfl) (by simp) ?_
      refine (AllReadyH.cons rfl (fun K hK => ?_) AllReadyH.nil)
      ·rw [if_pos (by kernel_rfl)]
       (try simp only [zGa]); (try simp only [zGb]); (try simp only [zGc])
       refine wp_store_im 114 size71 (.tmp 8) (.tmp 16) rfl b8 0 0 (.slice none 0 0) X2 Y2 A2 F.length c2 rfl rfl G8 ?_
       intro W4 I8 hg8
       replace hown := hown.kept hg8 (ownI_ne n8)
       replace G7 := G7.grown hg8 (fun e => n78 (by injection e))
       replace G8 := I8
       refine hK.out _ _ (hW.grown hg8 hW.size (fun k hk => by injection hk with hk; omega)) (fun hW => ?_)
       clear hK
       (try simp only [Act.put]); (try simp only [zPa]); (try simp only [zPb, zPc])
       refine wpAnyH_done (by kernel_rfl) ?_ _
       go_wp2_with fail
       go_meet
       case rel => exact ⟨b7, b8, Ao, co, rfl, rfl, ⟨G7, G8, hown, n7, n8, n78, k7, k8, hW⟩⟩
   ·rw [if_pos (by kernel_rfl)]
    (try simp only [zGa]); (try simp only [zGb]); (try simp only [zGc])
    refine wp_alloc_im 114 zero71 8 rfl rfl ?_
    intro b8 W' hb G8 l8
    have k8 := Nat.le_trans hW.size l8
    have n8 : ∀ k, (Value.slice Ao L.length co).ownBlock = some k → k ≠ b8 := fun k hk => by have := (hown.lt k hk).2; omega
    have hown := ownI_call hown hb
    refine hK.out _ _ (belI_call hW hb) (fun hW => ?_)
    clear hK
    (try simp only [Act.put]); (try simp only [zPa]); (try simp only [zPb, zPc])
    refine wpAnyH_ready (rs := [3]) (by kernel_rfl) (by simp) ?_
    refine (AllReadyH.cons rfl (fun K hK => ?_) AllReadyH.nil)
    ·rw [if_pos (by kernel_rfl)]
     (try simp only [zGa]); (try simp only [zGb]); (try simp only [zGc])
     refine wp_alloc_im 114 zero71 7 rfl rfl ?_
     intro b7 W' hb G7 l7
     have k7 := Nat.le_trans hW.size l7
     have n78 : b7 ≠ b8 := by have := G8.lt; omega
     have n7 : ∀ k, (Value.slice Ao L.length co).ownBlock = some k → k ≠ b7 := fun k hk => by have := (hown.lt k hk).2; omega
     have hown := ownI_call hown hb
     have G8 := G8.call hb
     refine hK.out _ _ (belI_call hW hb) (fun hW => ?_)
     clear hK
     (try simp only [Act.put]); (try simp only [zPa]); (try simp only [zPb, zPc])
     refine wpAnyH_ready (rs := [5]) (by kernel_rfl) (by simp) ?_
     refine (AllReadyH.cons rfl (fun K hK => ?_) AllReadyH.nil)
     ·rw [if_pos (by kernel_rfl)]
      (try simp only [zGa]); (try simp only [zGb]); (try simp only [zGc])
      refine wp_store_im 114 size71 (.tmp 7) (.tmp 15) rfl b7 0 0 (.slice none 0 0) X Y Ao L.length co rfl rfl G7 ?_
      intro W3 I7 hg7
      replace hown := hown.kept hg7 (ownI_ne n7)
      replace G8 := G8.grown hg7 (fun e => n78 (by injection e with e; exact e.symm))
      replace G7 := I7
      refine hK.out _ _ (hW.grown hg7 hW.size (fun k hk => by injection hk with hk; omega)) (fun hW => ?_)
      clear hK
      (try simp only [Act.put]); (try simp only [zPa]); (try simp only [zPb, zPc])
      refine wpAnyH_ready (rs := [6]) (by kernel_rfl) (by simp) ?_
      refine (AllReadyH.cons rfl (fun K hK => ?_) AllReadyH.nil)
      ·rw [if_pos (by kernel_rfl)]
       (try simp only [zGa]); (try simp only [zGb]); (try simp only [zGc])
       refine wp_store_im 114 size71 (.tmp 8) (.tmp 16) rfl b8 0 0 (.slice none 0 0) X2 Y2 A2 F.length c2 rfl rfl G8 ?_
       intro W4 I8 hg8
       replace hown := hown.kept hg8 (ownI_ne n8)
       replace G8 := I8
       replace G7 := G7.grown hg8 (fun e => n78 (by injection e))
       refine hK.out _ _ (hW.grown hg8 hW.size (fun k hk => by injection hk with hk; omega)) (fun hW => ?_)
       clear hK
       (try simp only [Act.put]); (try simp only [zPa]); (try simp only [zPb, zPc])
       refine wpAnyH_done (by kernel_rfl) ?_ _
       go_wp2_with fail
       go_meet
       case rel => exact ⟨b7, b8, Ao, co, rfl, rfl, ⟨G7, G8, hown, n7, n8, n78, k7, k8, hW⟩⟩
  ·rw [if_pos (by kernel_rfl)]
   (try simp only [zGa]); (try simp only [zGb]); (try simp only [zGc])
   refine wp_alloc_im 114 zero71 7 rfl rfl ?_
   intro b7 W' hb G7 l7
   have k7 := Nat.le_trans hW.size l7
   refine hK.out _ _ (belI_call hW hb) (fun hW => ?_)
   clear hK
   (try simp only [Act.put]); (try simp only [zPa]); (try simp only [zPb, zPc])
   refine wpAnyH_ready (rs := [1, 4]) (by kernel_rfl) (by simp) ?_
   refine (AllReadyH.cons rfl (fun K hK => ?_) (AllReadyH.cons rfl (fun K hK => ?_) AllReadyH.nil))
   ·rw [if_pos (by kernel_rfl)]
    (try simp only [zGa]); (try simp only [zGb]); (try simp only [zGc])
    go_simp
    with_reducible refine (copiedI X Y _ L _ Hm.out (hv0.call hW)).mono ?_
    rintro e W' ⟨vo, rfl, hown, hb⟩
    obtain ⟨Ao, co, hvo⟩ := ownI_shape hown
    subst hvo
    have n7 : ∀ k, (Value.slice Ao L.length co).ownBlock = some k → k ≠ b7 := fun k hk => by have := (hown.lt k hk).1; have := G7.lt; omega
    replace hown := hown.mono hW.size
    dsimp only
    have G7 := G7.call hb
    refine hK.out _ _ (belI_call hW hb) (fun hW => ?_)
    clear hK
    (try simp only [Act.put]); (try simp only [zPa]); (try simp only [zPb, zPc])
    refine wpAnyH_ready (rs := [4]) (by kernel_rfl) (by simp) ?_
    refine (AllReadyH.cons rfl (fun K hK => ?_) AllReadyH.nil)
    ·rw [if_pos (by kernel_rfl)]
     (try simp only [zGa]); (try simp only [zGb]); (try simp only [zGc])
     refine wp_alloc_im 114 zero71 8 rfl rfl ?_
     intro b8 W' hb G8 l8
     have k8 := Nat.le_trans hW.size l8
     have n78 : b7 ≠ b8 := by have := G7.lt; omega
     have n8 : ∀ k, (Value.slice Ao L.length co).ownBlock = some k → k ≠ b8 := fun k hk => by have := (hown.lt k hk).2; omega
     have G7 := G7.call hb
     have hown := ownI_call hown hb
     refine hK.out _ _ (belI_call hW hb) (fun hW => ?_)
     clear hK
     (try simp only [Act.put]); (try simp only [zPa]); (try simp only [zPb, zPc])
     refine wpAnyH_ready (rs := [5]) (by kernel_rfl) (by simp) ?_
     refine (AllReadyH.cons rfl (fun K hK => ?_) AllReadyH.nil)
     ·rw [if_pos (by kernel_rfl)]
      (try simp only [zGa]); (try simp only [zGb]); (try simp only [zGc])
      refine wp_store_im 114 size71 (.tmp 7) (.tmp 15) rfl b7 0 0 (.slice none 0 0) X Y Ao L.length co rfl rfl G7 ?_
      intro W3 I7 hg7
      replace G7 := I7
      replace hown := hown.kept hg7 (ownI_ne n7)
      replace G8 := G8.grown hg7 (fun e => n78 (by injection e with e; exact e.symm))
      refine hK.out _ _ (hW.grown hg7 hW.size (fun k hk => by injection hk with hk; omega)) (fun hW => ?_)
      clear hK
      (try simp only [Act.put]); (try simp only [zPa]); (try simp only [zPb, zPc])
      refine wpAnyH_ready (rs := [6]) (by kernel_rfl) (by simp) ?_
      refine (AllReadyH.cons rfl (fun K hK => ?_) AllReadyH.nil)
      ·rw [if_pos (by kernel_rfl)]
       (try simp only [zGa]); (try simp only [zGb]); (try simp only [zGc])
       refine wp_store_im 114 size71 (.tmp 8) (.tmp 16) rfl b8 0 0 (.slice none 0 0) X2 Y2 A2 F.length c2 rfl rfl G8 ?_
       intro W4 I8 hg8
       replace G7 := G7.grown hg8 (fun e => n78 (by injection e))
       replace hown := hown.kept hg8 (ownI_ne n8)
       replace G8 := I8
       refine hK.out _ _ (hW.grown hg8 hW.size (fun k hk => by injection hk with hk; omega)) (fun hW => ?_)
       clear hK
       (try simp only [Act.put]); (try simp only [zPa]); (try simp only [zPb, zPc])
       refine wpAnyH_done (by kernel_rfl) ?_ _
       go_wp2_with fail
       go_meet
       case rel => exact ⟨b7, b8, Ao, co, rfl, rfl, ⟨G7, G8, hown, n7, n8, n78, k7, k8, hW⟩⟩
   ·rw [if_pos (by kernel_rfl)]
    (try simp only [zGa]); (try simp only [zGb]); (try simp only [zGc])
    refine wp_alloc_im 114 zero71 8 rfl rfl ?_
    intro b8 W' hb G8 l8
    have k8 := Nat.le_trans hW.size l8
    have n78 : b7 ≠ b8 := by have := G7.lt; omega
    have G7 := G7.call hb
    refine hK.out _ _ (belI_call hW hb) (fun hW => ?_)
    clear hK
    (try simp only [Act.put]); (try simp only [zPa]); (try simp only [zPb, zPc])
    refine wpAnyH_ready (rs := [1]) (by kernel_rfl) (by simp) ?_
    refine (AllReadyH.cons rfl (fun K hK => ?_) AllReadyH.nil)
    ·rw [if_pos (by kernel_rfl)]
     (try simp only [zGa]); (try simp only [zGb]); (try simp only [zGc])
     go_simp
     with_reducible refine (copiedI X Y _ L _ Hm.out (hv0.call hW)).mono ?_
     rintro e W' ⟨vo, rfl, hown, hb⟩
     obtain ⟨Ao, co, hvo⟩ := ownI_shape hown
     subst hvo
     have n7 : ∀ k, (Value.slice Ao L.length co).ownBlock = some k → k ≠ b7 := fun k hk => by have := (hown.lt k hk).1; have := G7.lt; omega
     have n8 : ∀ k, (Value.slice Ao L.length co).ownBlock = some k → k ≠ b8 := fun k hk => by have := (hown.lt k hk).1; have := G8.lt; omega
     replace hown := hown.mono hW.size
     dsimp only
     have G7 := G7.call hb
     have G8 := G8.call hb
     refine hK.out _ _ (belI_call hW hb) (fun hW => ?_)
     clear hK
     (try simp only [Act.put]); (try simp only [zPa]); (try simp only [zPb, zPc])
     refine wpAnyH_ready (rs := [5]) (by kernel_rfl) (by simp) ?_
     refine (AllReadyH.cons rfl (fun K hK => ?_) AllReadyH.nil)
     ·rw [if_pos (by kernel_rfl)]
      (try simp only [zGa]); (try simp only [zGb]); (try simp only [zGc])
      refine wp_store_im 114 size71 (.tmp 7) (.tmp 15) rfl b7 0 0 (.slice none 0 0) X Y Ao L.length co rfl rfl G7 ?_
      intro W3 I7 hg7
      replace G7 := I7
      replace G8 := G8.grown hg7 (fun e => n78 (by injection e with e; exact e.symm))
      replace hown := hown.kept hg7 (ownI_ne n7)
      refine hK.out _ _ (hW.grown hg7 hW.size (fun k hk => by injection hk with hk; omega)) (fun hW => ?_)
      clear hK
      (try simp only [Act.put]); (try simp only [zPa]); (try simp only [zPb, zPc])
      refine wpAnyH_ready (rs := [6]) (by kernel_rfl) (by simp) ?_
      refine (AllReadyH.cons rfl (fun K hK => ?_) AllReadyH.nil)
      ·rw [if_pos (by kernel_rfl)]
       (try simp only [zGa]); (try simp only [zGb]); (try simp only [zGc])
       refine wp_store_im 114 size71 (.tmp 8) (.tmp 16) rfl b8 0 0 (.slice none 0 0) X2 Y2 A2 F.length c2 rfl rfl G8 ?_
       intro W4 I8 hg8
       replace G7 := G7.grown hg8 (fun e => n78 (by injection e))
       replace G8 := I8
       replace hown := hown.kept hg8 (ownI_ne n8)
       refine hK.out _ _ (hW.grown hg8 hW.size (fun k hk => by injection hk with hk; omega)) (fun hW => ?_)
       clear hK
       (try simp only [Act.put]); (try simp only [zPa]); (try simp only [zPb, zPc])
       refine wpAnyH_done (by kernel_rfl) ?_ _
       go_wp2_with fail
       go_meet
       case rel => exact ⟨b7, b8, Ao, co, rfl, rfl, ⟨G7, G8, hown, n7, n8, n78, k7, k8, hW⟩⟩
  ·rw [if_pos (by kernel_rfl)]
   (try simp only [zGa]); (try simp only [zGb]); (try simp only [zGc])
   refine wp_alloc_im 114 zero71 8 rfl rfl ?_
   intro b8 W' hb G8 l8
   have k8 := Nat.le_trans hW.size l8
   refine hK.out _ _ (belI_call hW hb) (fun hW => ?_)
   clear hK
   (try simp only [Act.put]); (try simp only [zPa]); (try simp only [zPb, zPc])
   refine wpAnyH_ready (rs := [1, 3]) (by kernel_rfl) (by simp) ?_
   refine (AllReadyH.cons rfl (fun K hK => ?_) (AllReadyH.cons rfl (fun K hK => ?_) AllReadyH.nil))
   ·rw [if_pos (by kernel_rfl)]
    (try simp only [zGa]); (try simp only [zGb]); (try simp only [zGc])
    go_simp
    with_reducible refine (copiedI X Y _ L _ Hm.out (hv0.call hW)).mono ?_
    rintro e W' ⟨vo, rfl, hown, hb⟩
    obtain ⟨Ao, co, hvo⟩ := ownI_shape hown
    subst hvo
    have n8 : ∀ k, (Value.slice Ao L.length co).ownBlock = some k → k ≠ b8 := fun k hk => by have := (hown.lt k hk).1; have := G8.lt; omega
    replace hown := hown.mono hW.size
    dsimp only
    have G8 := G8.call hb
    refine hK.out _ _ (belI_call hW hb) (fun hW => ?_)
    clear hK
    (try simp only [Act.put]); (try simp only [zPa]); (try simp only [zPb, zPc])
    refine wpAnyH_ready (rs := [3]) (by kernel_rfl) (by simp) ?_
    refine (AllReadyH.cons rfl (fun K hK => ?_) AllReadyH.nil)
    ·rw [if_pos (by kernel_rfl)]
     (try simp only [zGa]); (try simp only [zGb]); (try simp only [zGc])
     refine wp_alloc_im 114 zero71 7 rfl rfl ?_
     intro b7 W' hb G7 l7
     have k7 := Nat.le_trans hW.size l7
     have n78 : b7 ≠ b8 := by have := G8.lt; omega
     have n7 : ∀ k, (Value.slice Ao L.length co).ownBlock = some k → k ≠ b7 := fun k hk => by have := (hown.lt k hk).2; omega
     have G8 := G8.call hb
     have hown := ownI_call hown hb
     refine hK.out _ _ (belI_call hW hb) (fun hW => ?_)
     clear hK
     (try simp only [Act.put]); (try simp only [zPa]); (try simp only [zPb, zPc])
     refine wpAnyH_ready (rs := [5]) (by kernel_rfl) (by simp) ?_
     refine (AllReadyH.cons rfl (fun K hK => ?_) AllReadyH.nil)
     ·rw [if_pos (by kernel_rfl)]
      (try simp only [zGa]); (try simp only [zGb]); (try simp only [zGc])
      refine wp_store_im 114 size71 (.tmp 7) (.tmp 15) rfl b7 0 0 (.slice none 0 0) X Y Ao L.length co rfl rfl G7 ?_
      intro W3 I7 hg7
      replace G8 := G8.grown hg7 (fun e => n78 (by injection e with e; exact e.symm))
      replace hown := hown.kept hg7 (ownI_ne n7)
      replace G7 := I7
      refine hK.out _ _ (hW.grown hg7 hW.size (fun k hk => by injection hk with hk; omega)) (fun hW => ?_)
      clear hK
      (try simp only [Act.put]); (try simp only [zPa]); (try simp only [zPb, zPc])
      refine wpAnyH_ready (rs := [6]) (by kernel_rfl) (by simp) ?_
      refine (AllReadyH.cons rfl (fun K hK => ?_) AllReadyH.nil)
      ·rw [if_pos (by kernel_rfl)]
       (try simp only [zGa]); (try simp only [zGb]); (try simp only [zGc])
       refine wp_store_im 114 size71 (.tmp 8) (.tmp 16) rfl b8 0 0 (.slice none 0 0) X2 Y2 A2 F.length c2 rfl rfl G8 ?_
       intro W4 I8 hg8
       replace G8 := I8
       replace hown := hown.kept hg8 (ownI_ne n8)
       replace G7 := G7.grown hg8 (fun e => n78 (by injection e))
       refine hK.out _ _ (hW.grown hg8 hW.size (fun k hk => by injection hk with hk; omega)) (fun hW => ?_)
       clear hK
       (try simp only [Act.put]); (try simp only [zPa]); (try simp only [zPb, zPc])
       refine wpAnyH_done (by kernel_rfl) ?_ _
       go_wp2_with fail
       go_meet
       case rel => exact ⟨b7, b8, Ao, co, rfl, rfl, ⟨G7, G8, hown, n7, n8, n78, k7, k8, hW⟩⟩
   ·rw [if_pos (by kernel_rfl)]
    (try simp only [zGa]); (try simp only [zGb]); (try simp only [zGc])
    refine wp_alloc_im 114 zero71 7 rfl rfl ?_
    intro b7 W' hb G7 l7
    have k7 := Nat.le_trans hW.size l7
    have n78 : b7 ≠ b8 := by have := G8.lt; omega
    have G8 := G8.call hb
    refine hK.out _ _ (belI_call hW hb) (fun hW => ?_)
    clear hK
    (try simp only [Act.put]); (try simp only [zPa]); (try simp only [zPb, zPc])
    refine wpAnyH_ready (rs := [1]) (by kernel_rfl) (by simp) ?_
    refine (AllReadyH.cons rfl (fun K hK => ?_) AllReadyH.nil)
    ·rw [if_pos (by kernel_rfl)]
     (try simp only [zGa]); (try simp only [zGb]); (try simp only [zGc])
     go_simp
     with_reducible refine (copiedI X Y _ L _ Hm.out (hv0.call hW)).mono ?_
     rintro e W' ⟨vo, rfl, hown, hb⟩
     obtain ⟨Ao, co, hvo⟩ := ownI_shape hown
     subst hvo
     have n7 : ∀ k, (Value.slice Ao L.length co).ownBlock = some k → k ≠ b7 := fun k hk => by have := (hown.lt k hk).1; have := G7.lt; omega
     have n8 : ∀ k, (Value.slice Ao L.length co).ownBlock = some k → k ≠ b8 := fun k hk => by have := (hown.lt k hk).1; have := G8.lt; omega
     replace hown := hown.mono hW.size
     dsimp only
     have G8 := G8.call hb
     have G7 := G7.call hb
     refine hK.out _ _ (belI_call hW hb) (fun hW => ?_)
     clear hK
     (try simp only [Act.put]); (try simp only [zPa]); (try simp only [zPb, zPc])
     refine wpAnyH_ready (rs := [5]) (by kernel_rfl) (by simp) ?_
     refine (AllReadyH.cons rfl (fun K hK => ?_) AllReadyH.nil)
     ·rw [if_pos (by kernel_rfl)]
      (try simp only [zGa]); (try simp only [zGb]); (try simp only [zGc])
      refine wp_store_im 114 size71 (.tmp 7) (.tmp 15) rfl b7 0 0 (.slice none 0 0) X Y Ao L.length co rfl rfl G7 ?_
      intro W3 I7 hg7
      replace G8 := G8.grown hg7 (fun e => n78 (by injection e with e; exact e.symm))
      replace G7 := I7
      replace hown := hown.kept hg7 (ownI_ne n7)
      refine hK.out _ _ (hW.grown hg7 hW.size (fun k hk => by injection hk with hk; omega)) (fun hW => ?_)
      clear hK
      (try simp only [Act.put]); (try simp only [zPa]); (try simp only [zPb, zPc])
      refine wpAnyH_ready (rs := [6]) (by kernel_rfl) (by simp) ?_
      refine (AllReadyH.cons rfl (fun K hK => ?_) AllReadyH.nil)
      ·rw [if_pos (by kernel_rfl)]
       (try simp only [zGa]); (try simp only [zGb]); (try simp only [zGc])
       refine wp_store_im 114 size71 (.tmp 8) (.tmp 16) rfl b8 0 0 (.slice none 0 0) X2 Y2 A2 F.length c2 rfl rfl G8 ?_
       intro W4 I8 hg8
       replace G8 := I8
       replace G7 := G7.grown hg8 (fun e => n78 (by injection e))
       replace hown := hown.kept hg8 (ownI_ne n8)
       refine hK.out _ _ (hW.grown hg8 hW.size (fun k hk => by injection hk with hk; omega)) (fun hW => ?_)
       clear hK
       (try simp only [Act.put]); (try simp only [zPa]); (try simp only [zPb, zPc])
       refine wpAnyH_done (by kernel_rfl) ?_ _
       go_wp2_with fail
       go_meet
       case rel => exact ⟨b7, b8, Ao, co, rfl, rfl, ⟨G7, G8, hown, n7, n8, n78, k7, k8, hW⟩⟩
 case rest =>
  obtain ⟨b7, b8, Ao, co, rfl, rfl, hT⟩ := hcut
  have hv := hv0.call hT.bw
  replace hS := hS.call hT.bw
  clear hv0
  obtain ⟨a0, a1, a2⟩ := hS.a.cells
  go_wp2_with fail
  refine (imI X Y _ L _ hv).mono ?_
  rintro e w2 ⟨rfl, hb⟩
  replace hS := hS.call hb
  replace hT := hT.call hb
  clear hb hv a0 a1 a2
  rw [imB_no Ho.out]
  obtain ⟨d0, d1, d2⟩ := hS.d.cells
  obtain ⟨o0, o1, o2⟩ := hT.t7.cells
  have f0 := hS.d.frozen 0
  have f1 := hS.d.frozen 1
  have f2 := hS.d.frozen 2
  go_wp2_with fail
  have j := hS.d.set3 X Y (.slice Ao L.length co)
  obtain ⟨x0, x1, x2⟩ := j.cells
  refine bodyPost_ret (v := .agg #[.int .i64 X, .int .i64 Y, .slice Ao L.length co]) (by simp [results, Tryz.results78, go_sem, x0, x1, x2]) rfl ?_
  unfold AnsIm
  rw [HA.out]
  exact ans_set hT.own rfl (by omega) (by omega) hS.bw
set_option maxHeartbeats 1000000 in
set_option maxRecDepth 10000 in
theorem copyI_bad2 (X Y : Int) (v : Value) (L : List Int) (X2 Y2 : Int) (u : Value) (F : List Int) (vr : Value) (R : List Rc) (w : World) (hm : L.length ≤ 2097152) (hv : RdI w v L) (hu : RdI w u F) (hr : RdR w vr R) (h1 : imOk X Y L) (h2 : ¬ imOk X2 Y2 F) :
  Calls Tryz.prog 78 #[.agg #[.int .i64 X, .int .i64 Y, v], .agg #[.int .i64 X2, .int .i64 Y2, u], .agg #[vr]] w (AnsIm (copyIm X Y L X2 Y2 F R) w) := by
 have HA : Hid (copyIm X Y L X2 Y2 F R = ⟨X, Y, L⟩) := Lib.hid (copy_no fun h => h2 h.2.1)
 have Ho := Lib.hid h1
 have Ho2 := Lib.hid h2
 clear h1 h2
 have Hm := Lib.hid hm
 obtain ⟨A, c, rfl⟩ := hv.form
 obtain ⟨A2, c2, rfl⟩ := hu.form
 obtain ⟨A3, c3, rfl⟩ := hr.form
 obtain ⟨w0, hw0⟩ : ∃ w0, w0 = ((((w.alloc (.cells #[.int .i64 X, .int .i64 Y, .slice A L.length c] 55)).alloc (.cells #[.int .i64 X2, .int .i64 Y2, .slice A2 F.length c2] 55)).alloc (.cells #[.slice A3 R.length c3] 30)).alloc (.cells #[.int .i64 0, .int .i64 0, .slice none 0 0] 55)) := ⟨_, rfl⟩
 have hS := CsB.born w X Y (.slice A L.length c) X2 Y2 (.slice A2 F.length c2) F (.slice A3 R.length c3) R hu hr
 have hv0 := ((((hv.alloc (.cells #[.int .i64 X, .int .i64 Y, .slice A L.length c] 55)).alloc (.cells #[.int .i64 X2, .int .i64 Y2, .slice A2 F.length c2] 55)).alloc (.cells #[.slice A3 R.length c3] 30)).alloc (.cells #[.int .i64 0, .int .i64 0, .slice none 0 0] 55))
 have hz : w0.heap.size = w.heap.size + 4 := by rw [hw0]; simp
 rw [← hw0] at hS hv0
 clear hm hv hu hr
 go_enter Tryz.func78, Tryz.ntmps78
 go_upto_region 1 with fail
 rw [← hw0]
 clear hw0
 go_cut [7, 8] (fun s7 s8 wx => ∃ (b7 b8 : Nat) (Ao : Option Addr) (co : Nat), s7 = .pointer (some ⟨b7, 0, none⟩) ∧ s8 = .pointer (some ⟨b8, 0, none⟩) ∧ CpI w0 X Y L X2 Y2 (.slice A2 F.length c2) b7 b8 (.slice Ao L.length co) wx)
 case first =>
  refine wp_region_held_drew (S := fun W => Below w0.heap.size w0 W) (by kernel_rfl) (Below.refl _ _).drew (fun hW => ?_)
  refine tcH (i := 0) (v := .agg #[.int .i64 X, .int .i64 Y, .slice A L.length c]) rfl (by intro w' hSw; (try dsimp only at hSw); (obtain ⟨a0, a1, a2⟩ := (hS.call hSw).a.cells); (obtain ⟨b0, b1, b2⟩ := (hS.call hSw).b.cells); go_simp) ?_
  refine tcH (i := 2) (v := .agg #[.int .i64 X2, .int .i64 Y2, .slice A2 F.length c2]) rfl (by intro w' hSw; (try dsimp only at hSw); (obtain ⟨a0, a1, a2⟩ := (hS.call hSw).a.cells); (obtain ⟨b0, b1, b2⟩ := (hS.call hSw).b.cells); go_simp) ?_
  (try simp only [Act.put]); (try simp only [zPa]); (try simp only [zPb, zPc])
  refine wpAnyH_ready (rs := [1, 3, 4]) (by kernel_rfl) (by simp) ?_
  refine (AllReadyH.cons rfl (fun K hK => ?_) (AllReadyH.cons rfl (fun K hK => ?_) (AllReadyH.cons rfl (fun K hK => ?_) AllReadyH.nil)))
  ·rw [if_pos (by kernel_rfl)]
   (try simp only [zGa]); (try simp only [zGb]); (try simp only [zGc])
   go_simp
   with_reducible refine (copiedI X Y _ L _ Hm.out (hv0.call hW)).mono ?_
   rintro e W' ⟨vo, rfl, hown, hb⟩
   obtain ⟨Ao, co, hvo⟩ := ownI_shape hown
   subst hvo
   replace hown := hown.mono hW.size
   dsimp only
   refine hK.out _ _ (belI_call hW hb) (fun hW => ?_)
   clear hK
   (try simp only [Act.put]); (try simp only [zPa]); (try simp only [zPb, zPc])
   refine wpAnyH_ready (rs := [3, 4]) (by kernel_rfl) (by simp) ?_
   refine (AllReadyH.cons rfl (fun K hK => ?_) (AllReadyH.cons rfl (fun K hK => ?_) AllReadyH.nil))
   ·rw [if_pos (by kernel_rfl)]
    (try simp only [zGa]); (try simp only [zGb]); (try simp only [zGc])
    refine wp_alloc_im 114 zero71 7 rfl rfl ?_
    intro b7 W' hb G7 l7
    have k7 := Nat.le_trans hW.size l7
    have n7 : ∀ k, (Value.slice Ao L.length co).ownBlock = some k → k ≠ b7 := fun k hk => by have := (hown.lt k hk).2; omega
    have hown := ownI_call hown hb
    refine hK.out _ _ (belI_call hW hb) (fun hW => ?_)
    clear hK
    (try simp only [Act.put]); (try simp only [zPa]); (try simp only [zPb, zPc])
    refine wpAnyH_ready (rs := [4]) (by kernel_rfl) (by simp) ?_
    refine (AllReadyH.cons rfl (fun K hK => ?_) AllReadyH.nil)
    ·rw [if_pos (by kernel_rfl)]
     (try simp only [zGa]); (try simp only [zGb]); (try simp only [zGc])
     refine wp_alloc_im 114 zero71 8 rfl rfl ?_
     intro b8 W' hb G8 l8
     have k8 := Nat.le_trans hW.size l8
     have n78 : b7 ≠ b8 := by have := G7.lt; omega
     have n8 : ∀ k, (Value.slice Ao L.length co).ownBlock = some k → k ≠ b8 := fun k hk => by have := (hown.lt k hk).2; omega
     have hown := ownI_call hown hb
     have G7 := G7.call hb
     refine hK.out _ _ (belI_call hW hb) (fun hW => ?_)
     clear hK
     (try simp only [Act.put]); (try simp only [zPa]); (try simp only [zPb, zPc])
     refine wpAnyH_ready (rs := [5]) (by kernel_rfl) (by simp) ?_
     refine (AllReadyH.cons rfl (fun K hK => ?_) AllReadyH.nil)
     ·rw [if_pos (by kernel_rfl)]
      (try simp only [zGa]); (try simp only [zGb]); (try simp only [zGc])
      refine wp_store_im 114 size71 (.tmp 7) (.tmp 15) rfl b7 0 0 (.slice none 0 0) X Y Ao L.length co rfl rfl G7 ?_
      intro W3 I7 hg7
      replace hown := hown.kept hg7 (ownI_ne n7)
      replace G7 := I7
      replace G8 := G8.grown hg7 (fun e => n78 (by injection e with e; exact e.symm))
      refine hK.out _ _ (hW.grown hg7 hW.size (fun k hk => by injection hk with hk; omega)) (fun hW => ?_)
      clear hK
      (try simp only [Act.put]); (try simp only [zPa]); (try simp only [zPb, zPc])
      refine wpAnyH_ready (rs := [6]) (by kernel_rfl) (by simp) ?_
      refine (AllReadyH.cons rfl (fun K hK => ?_) AllReadyH.nil)
      ·rw [if_pos (by kernel_rfl)]
       (try simp only [zGa]); (try simp only [zGb]); (try simp only [zGc])
       refine wp_store_im 114 size71 (.tmp 8) (.tmp 16) rfl b8 0 0 (.slice none 0 0) X2 Y2 A2 F.length c2 rfl rfl G8 ?_
       intro W4 I8 hg8
       replace hown := hown.kept hg8 (ownI_ne n8)
       replace G7 := G7.grown hg8 (fun e => n78 (by injection e))
       replace G8 := I8
       refine hK.out _ _ (hW.grown hg8 hW.size (fun k hk => by injection hk with hk; omega)) (fun hW => ?_)
       clear hK
       (try simp only [Act.put]); (try simp only [zPa]); (try simp only [zPb, zPc])
       refine wpAnyH_done (by kernel_rfl) ?_ _
       go_wp2_with fail
       go_meet
       case rel => exact ⟨b7, b8, Ao, co, rfl, rfl, ⟨G7, G8, hown, n7, n8, n78, k7, k8, hW⟩⟩
   ·rw [if_pos (by kernel_rfl)]
    (try simp only [zGa]); (try simp only [zGb]); (try simp only [zGc])
    refine wp_alloc_im 114 zero71 8 rfl rfl ?_
    intro b8 W' hb G8 l8
    have k8 := Nat.le_trans hW.size l8
    have n8 : ∀ k, (Value.slice Ao L.length co).ownBlock = some k → k ≠ b8 := fun k hk => by have := (hown.lt k hk).2; omega
    have hown := ownI_call hown hb
    refine hK.out _ _ (belI_call hW hb) (fun hW => ?_)
    clear hK
    (try simp only [Act.put]); (try simp only [zPa]); (try simp only [zPb, zPc])
    refine wpAnyH_ready (rs := [3]) (by kernel_rfl) (by simp) ?_
    refine (AllReadyH.cons rfl (fun K hK => ?_) AllReadyH.nil)
    ·rw [if_pos (by kernel_rfl)]
     (try simp only [zGa]); (try simp only [zGb]); (try simp only [zGc])
     refine wp_alloc_im 114 zero71 7 rfl rfl ?_
     intro b7 W' hb G7 l7
     have k7 := Nat.le_trans hW.size l7
     have n78 : b7 ≠ b8 := by have := G8.lt; omega
     have n7 : ∀ k, (Value.slice Ao L.length co).ownBlock = some k → k ≠ b7 := fun k hk => by have := (hown.lt k hk).2; omega
     have hown := ownI_call hown hb
     have G8 := G8.call hb
     refine hK.out _ _ (belI_call hW hb) (fun hW => ?_)
     clear hK
     (try simp only [Act.put]); (try simp only [zPa]); (try simp only [zPb, zPc])
     refine wpAnyH_ready (rs := [5]) (by kernel_rfl) (by simp) ?_
     refine (AllReadyH.cons rfl (fun K hK => ?_) AllReadyH.nil)
     ·rw [if_pos (by kernel_rfl)]
      (try simp only [zGa]); (try simp only [zGb]); (try simp only [zGc])
      refine wp_store_im 114 size71 (.tmp 7) (.tmp 15) rfl b7 0 0 (.slice none 0 0) X Y Ao L.length co rfl rfl G7 ?_
      intro W3 I7 hg7
      replace hown := hown.kept hg7 (ownI_ne n7)
      replace G8 := G8.grown hg7 (fun e => n78 (by injection e with e; exact e.symm))
      replace G7 := I7
      refine hK.out _ _ (hW.grown hg7 hW.size (fun k hk => by injection hk with hk; omega)) (fun hW => ?_)
      clear hK
      (try simp only [Act.put]); (try simp only [zPa]); (try simp only [zPb, zPc])
      refine wpAnyH_ready (rs := [6]) (by kernel_rfl) (by simp) ?_
      refine (AllReadyH.cons rfl (fun K hK => ?_) AllReadyH.nil)
      ·rw [if_pos (by kernel_rfl)]
       (try simp only [zGa]); (try simp only [zGb]); (try simp only [zGc])
       refine wp_store_im 114 size71 (.tmp 8) (.tmp 16) rfl b8 0 0 (.slice none 0 0) X2 Y2 A2 F.length c2 rfl rfl G8 ?_
       intro W4 I8 hg8
       replace hown := hown.kept hg8 (ownI_ne n8)
       replace G8 := I8
       replace G7 := G7.grown hg8 (fun e => n78 (by injection e))
       refine hK.out _ _ (hW.grown hg8 hW.size (fun k hk => by injection hk with hk; omega)) (fun hW => ?_)
       clear hK
       (try simp only [Act.put]); (try simp only [zPa]); (try simp only [zPb, zPc])
       refine wpAnyH_done (by kernel_rfl) ?_ _
       go_wp2_with fail
       go_meet
       case rel => exact ⟨b7, b8, Ao, co, rfl, rfl, ⟨G7, G8, hown, n7, n8, n78, k7, k8, hW⟩⟩
  ·rw [if_pos (by kernel_rfl)]
   (try simp only [zGa]); (try simp only [zGb]); (try simp only [zGc])
   refine wp_alloc_im 114 zero71 7 rfl rfl ?_
   intro b7 W' hb G7 l7
   have k7 := Nat.le_trans hW.size l7
   refine hK.out _ _ (belI_call hW hb) (fun hW => ?_)
   clear hK
   (try simp only [Act.put]); (try simp only [zPa]); (try simp only [zPb, zPc])
   refine wpAnyH_ready (rs := [1, 4]) (by kernel_rfl) (by simp) ?_
   refine (AllReadyH.cons rfl (fun K hK => ?_) (AllReadyH.cons rfl (fun K hK => ?_) AllReadyH.nil))
   ·rw [if_pos (by kernel_rfl)]
    (try simp only [zGa]); (try simp only [zGb]); (try simp only [zGc])
    go_simp
    with_reducible refine (copiedI X Y _ L _ Hm.out (hv0.call hW)).mono ?_
    rintro e W' ⟨vo, rfl, hown, hb⟩
    obtain ⟨Ao, co, hvo⟩ := ownI_shape hown
    subst hvo
    have n7 : ∀ k, (Value.slice Ao L.length co).ownBlock = some k → k ≠ b7 := fun k hk => by have := (hown.lt k hk).1; have := G7.lt; omega
    replace hown := hown.mono hW.size
    dsimp only
    have G7 := G7.call hb
    refine hK.out _ _ (belI_call hW hb) (fun hW => ?_)
    clear hK
    (try simp only [Act.put]); (try simp only [zPa]); (try simp only [zPb, zPc])
    refine wpAnyH_ready (rs := [4]) (by kernel_rfl) (by simp) ?_
    refine (AllReadyH.cons rfl (fun K hK => ?_) AllReadyH.nil)
    ·rw [if_pos (by kernel_rfl)]
     (try simp only [zGa]); (try simp only [zGb]); (try simp only [zGc])
     refine wp_alloc_im 114 zero71 8 rfl rfl ?_
     intro b8 W' hb G8 l8
     have k8 := Nat.le_trans hW.size l8
     have n78 : b7 ≠ b8 := by have := G7.lt; omega
     have n8 : ∀ k, (Value.slice Ao L.length co).ownBlock = some k → k ≠ b8 := fun k hk => by have := (hown.lt k hk).2; omega
     have G7 := G7.call hb
     have hown := ownI_call hown hb
     refine hK.out _ _ (belI_call hW hb) (fun hW => ?_)
     clear hK
     (try simp only [Act.put]); (try simp only [zPa]); (try simp only [zPb, zPc])
     refine wpAnyH_ready (rs := [5]) (by kernel_rfl) (by simp) ?_
     refine (AllReadyH.cons rfl (fun K hK => ?_) AllReadyH.nil)
     ·rw [if_pos (by kernel_rfl)]
      (try simp only [zGa]); (try simp only [zGb]); (try simp only [zGc])
      refine wp_store_im 114 size71 (.tmp 7) (.tmp 15) rfl b7 0 0 (.slice none 0 0) X Y Ao L.length co rfl rfl G7 ?_
      intro W3 I7 hg7
      replace G7 := I7
      replace hown := hown.kept hg7 (ownI_ne n7)
      replace G8 := G8.grown hg7 (fun e => n78 (by injection e with e; exact e.symm))
      refine hK.out _ _ (hW.grown hg7 hW.size (fun k hk => by injection hk with hk; omega)) (fun hW => ?_)
      clear hK
      (try simp only [Act.put]); (try simp only [zPa]); (try simp only [zPb, zPc])
      refine wpAnyH_ready (rs := [6]) (by kernel_rfl) (by simp) ?_
      refine (AllReadyH.cons rfl (fun K hK => ?_) AllReadyH.nil)
      ·rw [if_pos (by kernel_rfl)]
       (try simp only [zGa]); (try simp only [zGb]); (try simp only [zGc])
       refine wp_store_im 114 size71 (.tmp 8) (.tmp 16) rfl b8 0 0 (.slice none 0 0) X2 Y2 A2 F.length c2 rfl rfl G8 ?_
       intro W4 I8 hg8
       replace G7 := G7.grown hg8 (fun e => n78 (by injection e))
       replace hown := hown.kept hg8 (ownI_ne n8)
       replace G8 := I8
       refine hK.out _ _ (hW.grown hg8 hW.size (fun k hk => by injection hk with hk; omega)) (fun hW => ?_)
       clear hK
       (try simp only [Act.put]); (try simp only [zPa]); (try simp only [zPb, zPc])
       refine wpAnyH_done (by kernel_rfl) ?_ _
       go_wp2_with fail
       go_meet
       case rel => exact ⟨b7, b8, Ao, co, rfl, rfl, ⟨G7, G8, hown, n7, n8, n78, k7, k8, hW⟩⟩
   ·rw [if_pos (by kernel_rfl)]
    (try simp only [zGa]); (try simp only [zGb]); (try simp only [zGc])
    refine wp_alloc_im 114 zero71 8 rfl rfl ?_
    intro b8 W' hb G8 l8
    have k8 := Nat.le_trans hW.size l8
    have n78 : b7 ≠ b8 := by have := G7.lt; omega
    have G7 := G7.call hb
    refine hK.out _ _ (belI_call hW hb) (fun hW => ?_)
    clear hK
    (try simp only [Act.put]); (try simp only [zPa]); (try simp only [zPb, zPc])
    refine wpAnyH_ready (rs := [1]) (by kernel_rfl) (by simp) ?_
    refine (AllReadyH.cons rfl (fun K hK => ?_) AllReadyH.nil)
    ·rw [if_pos (by kernel_rfl)]
     (try simp only [zGa]); (try simp only [zGb]); (try simp only [zGc])
     go_simp
     with_reducible refine (copiedI X Y _ L _ Hm.out (hv0.call hW)).mono ?_
     rintro e W' ⟨vo, rfl, hown, hb⟩
     obtain ⟨Ao, co, hvo⟩ := ownI_shape hown
     subst hvo
     have n7 : ∀ k, (Value.slice Ao L.length co).ownBlock = some k → k ≠ b7 := fun k hk => by have := (hown.lt k hk).1; have := G7.lt; omega
     have n8 : ∀ k, (Value.slice Ao L.length co).ownBlock = some k → k ≠ b8 := fun k hk => by have := (hown.lt k hk).1; have := G8.lt; omega
     replace hown := hown.mono hW.size
     dsimp only
     have G7 := G7.call hb
     have G8 := G8.call hb
     refine hK.out _ _ (belI_call hW hb) (fun hW => ?_)
     clear hK
     (try simp only [Act.put]); (try simp only [zPa]); (try simp only [zPb, zPc])
     refine wpAnyH_ready (rs := [5]) (by kernel_rfl) (by simp) ?_
     refine (AllReadyH.cons rfl (fun K hK => ?_) AllReadyH.nil)
     ·rw [if_pos (by kernel_rfl)]
      (try simp only [zGa]); (try simp only [zGb]); (try simp only [zGc])
      refine wp_store_im 114 size71 (.tmp 7) (.tmp 15) rfl b7 0 0 (.slice none 0 0) X Y Ao L.length co rfl rfl G7 ?_
      intro W3 I7 hg7
      replace G7 := I7
      replace G8 := G8.grown hg7 (fun e => n78 (by injection e with e; exact e.symm))
      replace hown := hown.kept hg7 (ownI_ne n7)
      refine hK.out _ _ (hW.grown hg7 hW.size (fun k hk => by injection hk with hk; omega)) (fun hW => ?_)
      clear hK
      (try simp only [Act.put]); (try simp only [zPa]); (try simp only [zPb, zPc])
      refine wpAnyH_ready (rs := [6]) (by kernel_rfl) (by simp) ?_
      refine (AllReadyH.cons rfl (fun K hK => ?_) AllReadyH.nil)
      ·rw [if_pos (by kernel_rfl)]
       (try simp only [zGa]); (try simp only [zGb]); (try simp only [zGc])
       refine wp_store_im 114 size71 (.tmp 8) (.tmp 16) rfl b8 0 0 (.slice none 0 0) X2 Y2 A2 F.length c2 rfl rfl G8 ?_
       intro W4 I8 hg8
       replace G7 := G7.grown hg8 (fun e => n78 (by injection e))
       replace G8 := I8
       replace hown := hown.kept hg8 (ownI_ne n8)
       refine hK.out _ _ (hW.grown hg8 hW.size (fun k hk => by injection hk with hk; omega)) (fun hW => ?_)
       clear hK
       (try simp only [Act.put]); (try simp only [zPa]); (try simp only [zPb, zPc])
       refine wpAnyH_done (by kernel_rfl) ?_ _
       go_wp2_with fail
       go_meet
       case rel => exact ⟨b7, b8, Ao, co, rfl, rfl, ⟨G7, G8, hown, n7, n8, n78, k7, k8, hW⟩⟩
  ·rw [if_pos (by kernel_rfl)]
   (try simp only [zGa]); (try simp only [zGb]); (try simp only [zGc])
   refine wp_alloc_im 114 zero71 8 rfl rfl ?_
   intro b8 W' hb G8 l8
   have k8 := Nat.le_trans hW.size l8
   refine hK.out _ _ (belI_call hW hb) (fun hW => ?_)
   clear hK
   (try simp only [Act.put]); (try simp only [zPa]); (try simp only [zPb, zPc])
   refine wpAnyH_ready (rs := [1, 3]) (by kernel_rfl) (by simp) ?_
   refine (AllReadyH.cons rfl (fun K hK => ?_) (AllReadyH.cons rfl (fun K hK => ?_) AllReadyH.nil))
   ·rw [if_pos (by kernel_rfl)]
    (try simp only [zGa]); (try simp only [zGb]); (try simp only [zGc])
    go_simp
    with_reducible refine (copiedI X Y _ L _ Hm.out (hv0.call hW)).mono ?_
    rintro e W' ⟨vo, rfl, hown, hb⟩
    obtain ⟨Ao, co, hvo⟩ := ownI_shape hown
    subst hvo
    have n8 : ∀ k, (Value.slice Ao L.length co).ownBlock = some k → k ≠ b8 := fun k hk => by have := (hown.lt k hk).1; have := G8.lt; omega
    replace hown := hown.mono hW.size
    dsimp only
    have G8 := G8.call hb
    refine hK.out _ _ (belI_call hW hb) (fun hW => ?_)
    clear hK
    (try simp only [Act.put]); (try simp only [zPa]); (try simp only [zPb, zPc])
    refine wpAnyH_ready (rs := [3]) (by kernel_rfl) (by simp) ?_
    refine (AllReadyH.cons rfl (fun K hK => ?_) AllReadyH.nil)
    ·rw [if_pos (by kernel_rfl)]
     (try simp only [zGa]); (try simp only [zGb]); (try simp only [zGc])
     refine wp_alloc_im 114 zero71 7 rfl rfl ?_
     intro b7 W' hb G7 l7
     have k7 := Nat.le_trans hW.size l7
     have n78 : b7 ≠ b8 := by have := G8.lt; omega
     have n7 : ∀ k, (Value.slice Ao L.length co).ownBlock = some k → k ≠ b7 := fun k hk => by have := (hown.lt k hk).2; omega
     have G8 := G8.call hb
     have hown := ownI_call hown hb
     refine hK.out _ _ (belI_call hW hb) (fun hW => ?_)
     clear hK
     (try simp only [Act.put]); (try simp only [zPa]); (try simp only [zPb, zPc])
     refine wpAnyH_ready (rs := [5]) (by kernel_rfl) (by simp) ?_
     refine (AllReadyH.cons rfl (fun K hK => ?_) AllReadyH.nil)
     ·rw [if_pos (by kernel_rfl)]
      (try simp only [zGa]); (try simp only [zGb]); (try simp only [zGc])
      refine wp_store_im 114 size71 (.tmp 7) (.tmp 15) rfl b7 0 0 (.slice none 0 0) X Y Ao L.length co rfl rfl G7 ?_
      intro W3 I7 hg7
      replace G8 := G8.grown hg7 (fun e => n78 (by injection e with e; exact e.symm))
      replace hown := hown.kept hg7 (ownI_ne n7)
      replace G7 := I7
      refine hK.out _ _ (hW.grown hg7 hW.size (fun k hk => by injection hk with hk; omega)) (fun hW => ?_)
      clear hK
      (try simp only [Act.put]); (try simp only [zPa]); (try simp only [zPb, zPc])
      refine wpAnyH_ready (rs := [6]) (by kernel_rfl) (by simp) ?_
      refine (AllReadyH.cons rfl (fun K hK => ?_) AllReadyH.nil)
      ·rw [if_pos (by kernel_rfl)]
       (try simp only [zGa]); (try simp only [zGb]); (try simp only [zGc])
       refine wp_store_im 114 size71 (.tmp 8) (.tmp 16) rfl b8 0 0 (.slice none 0 0) X2 Y2 A2 F.length c2 rfl rfl G8 ?_
       intro W4 I8 hg8
       replace G8 := I8
       replace hown := hown.kept hg8 (ownI_ne n8)
       replace G7 := G7.grown hg8 (fun e => n78 (by injection e))
       refine hK.out _ _ (hW.grown hg8 hW.size (fun k hk => by injection hk with hk; omega)) (fun hW => ?_)
       clear hK
       (try simp only [Act.put]); (try simp only [zPa]); (try simp only [zPb, zPc])
       refine wpAnyH_done (by kernel_rfl) ?_ _
       go_wp2_with fail
       go_meet
       case rel => exact ⟨b7, b8, Ao, co, rfl, rfl, ⟨G7, G8, hown, n7, n8, n78, k7, k8, hW⟩⟩
   ·rw [if_pos (by kernel_rfl)]
    (try simp only [zGa]); (try simp only [zGb]); (try simp only [zGc])
    refine wp_alloc_im 114 zero71 7 rfl rfl ?_
    intro b7 W' hb G7 l7
    have k7 := Nat.le_trans hW.size l7
    have n78 : b7 ≠ b8 := by have := G8.lt; omega
    have G8 := G8.call hb
    refine hK.out _ _ (belI_call hW hb) (fun hW => ?_)
    clear hK
    (try simp only [Act.put]); (try simp only [zPa]); (try simp only [zPb, zPc])
    refine wpAnyH_ready (rs := [1]) (by kernel_rfl) (by simp) ?_
    refine (AllReadyH.cons rfl (fun K hK => ?_) AllReadyH.nil)
    ·rw [if_pos (by kernel_rfl)]
     (try simp only [zGa]); (try simp only [zGb]); (try simp only [zGc])
     go_simp
     with_reducible refine (copiedI X Y _ L _ Hm.out (hv0.call hW)).mono ?_
     rintro e W' ⟨vo, rfl, hown, hb⟩
     obtain ⟨Ao, co, hvo⟩ := ownI_shape hown
     subst hvo
     have n7 : ∀ k, (Value.slice Ao L.length co).ownBlock = some k → k ≠ b7 := fun k hk => by have := (hown.lt k hk).1; have := G7.lt; omega
     have n8 : ∀ k, (Value.slice Ao L.length co).ownBlock = some k → k ≠ b8 := fun k hk => by have := (hown.lt k hk).1; have := G8.lt; omega
     replace hown := hown.mono hW.size
     dsimp only
     have G8 := G8.call hb
     have G7 := G7.call hb
     refine hK.out _ _ (belI_call hW hb) (fun hW => ?_)
     clear hK
     (try simp only [Act.put]); (try simp only [zPa]); (try simp only [zPb, zPc])
     refine wpAnyH_ready (rs := [5]) (by kernel_rfl) (by simp) ?_
     refine (AllReadyH.cons rfl (fun K hK => ?_) AllReadyH.nil)
     ·rw [if_pos (by kernel_rfl)]
      (try simp only [zGa]); (try simp only [zGb]); (try simp only [zGc])
      refine wp_store_im 114 size71 (.tmp 7) (.tmp 15) rfl b7 0 0 (.slice none 0 0) X Y Ao L.length co rfl rfl G7 ?_
      intro W3 I7 hg7
      replace G8 := G8.grown hg7 (fun e => n78 (by injection e with e; exact e.symm))
      replace G7 := I7
      replace hown := hown.kept hg7 (ownI_ne n7)
      refine hK.out _ _ (hW.grown hg7 hW.size (fun k hk => by injection hk with hk; omega)) (fun hW => ?_)
      clear hK
      (try simp only [Act.put]); (try simp only [zPa]); (try simp only [zPb, zPc])
      refine wpAnyH_ready (rs := [6]) (by kernel_rfl) (by simp) ?_
      refine (AllReadyH.cons rfl (fun K hK => ?_) AllReadyH.nil)
      ·rw [if_pos (by kernel_rfl)]
       (try simp only [zGa]); (try simp only [zGb]); (try simp only [zGc])
       refine wp_store_im 114 size71 (.tmp 8) (.tmp 16) rfl b8 0 0 (.slice none 0 0) X2 Y2 A2 F.length c2 rfl rfl G8 ?_
       intro W4 I8 hg8
       replace G8 := I8
       replace G7 := G7.grown hg8 (fun e => n78 (by injection e))
       replace hown := hown.kept hg8 (ownI_ne n8)
       refine hK.out _ _ (hW.grown hg8 hW.size (fun k hk => by injection hk with hk; omega)) (fun hW => ?_)
       clear hK
       (try simp only [Act.put]); (try simp only [zPa]); (try simp only [zPb, zPc])
       refine wpAnyH_done (by kernel_rfl) ?_ _
       go_wp2_with fail
       go_meet
       case rel => exact ⟨b7, b8, Ao, co, rfl, rfl, ⟨G7, G8, hown, n7, n8, n78, k7, k8, hW⟩⟩
 case rest =>
  obtain ⟨b7, b8, Ao, co, rfl, rfl, hT⟩ := hcut
  have hv := hv0.call hT.bw
  replace hS := hS.call hT.bw
  clear hv0
  obtain ⟨a0, a1, a2⟩ := hS.a.cells
  go_wp2_with fail
  refine (imI X Y _ L _ hv).mono ?_
  rintro e w2 ⟨rfl, hb⟩
  replace hS := hS.call hb
  replace hT := hT.call hb
  clear hb hv a0 a1 a2
  rw [imB_yes Ho.out]
  obtain ⟨b0, b1, b2⟩ := hS.b.cells
  go_wp2_with fail
  refine (imI X2 Y2 _ F _ hS.ru).mono ?_
  rintro e w3 ⟨rfl, hb⟩
  replace hS := hS.call hb
  replace hT := hT.call hb
  clear hb b0 b1 b2
  rw [imB_no Ho2.out]
  obtain ⟨d0, d1, d2⟩ := hS.d.cells
  obtain ⟨o0, o1, o2⟩ := hT.t7.cells
  have f0 := hS.d.frozen 0
  have f1 := hS.d.frozen 1
  have f2 := hS.d.frozen 2
  go_wp2_with fail
  have j := hS.d.set3 X Y (.slice Ao L.length co)
  obtain ⟨x0, x1, x2⟩ := j.cells
  refine bodyPost_ret (v := .agg #[.int .i64 X, .int .i64 Y, .slice Ao L.length co]) (by simp [results, Tryz.results78, go_sem, x0, x1, x2]) rfl ?_
  unfold AnsIm
  rw [HA.out]
  exact ans_set hT.own rfl (by omega) (by omega) hS.bw
set_option maxHeartbeats 1000000 in
set_option maxRecDepth 10000 in
theorem copyI_bad3 (X Y : Int) (v : Value) (L : List Int) (X2 Y2 : Int) (u : Value) (F : List Int) (vr : Value) (R : List Rc) (w : World) (hm : L.length ≤ 2097152) (hv : RdI w v L) (hu : RdI w u F) (hr : RdR w vr R) (h1 : imOk X Y L) (h2 : imOk X2 Y2 F) (h3 : okL R = false) :
  Calls Tryz.prog 78 #[.agg #[.int .i64 X, .int .i64 Y, v], .agg #[.int .i64 X2, .int .i64 Y2, u], .agg #[vr]] w (AnsIm (copyIm X Y L X2 Y2 F R) w) := by
 have HA : Hid (copyIm X Y L X2 Y2 F R = ⟨X, Y, L⟩) := Lib.hid (copy_no fun h => by rw [h3] at h; cases h.2.2)
 have Ho := Lib.hid h1
 have Ho2 := Lib.hid h2
 have Ho3 := Lib.hid h3
 clear h1 h2 h3
 have Hm := Lib.hid hm
 obtain ⟨A, c, rfl⟩ := hv.form
 obtain ⟨A2, c2, rfl⟩ := hu.form
 obtain ⟨A3, c3, rfl⟩ := hr.form
 obtain ⟨w0, hw0⟩ : ∃ w0, w0 = ((((w.alloc (.cells #[.int .i64 X, .int .i64 Y, .slice A L.length c] 55)).alloc (.cells #[.int .i64 X2, .int .i64 Y2, .slice A2 F.length c2] 55)).alloc (.cells #[.slice A3 R.length c3] 30)).alloc (.cells #[.int .i64 0, .int .i64 0, .slice none 0 0] 55)) := ⟨_, rfl⟩
 have hS := CsB.born w X Y (.slice A L.length c) X2 Y2 (.slice A2 F.length c2) F (.slice A3 R.length c3) R hu hr
 have hv0 := ((((hv.alloc (.cells #[.int .i64 X, .int .i64 Y, .slice A L.length c] 55)).alloc (.cells #[.int .i64 X2, .int .i64 Y2, .slice A2 F.length c2] 55)).alloc (.cells #[.slice A3 R.length c3] 30)).alloc (.cells #[.int .i64 0, .int .i64 0, .slice none 0 0] 55))
 have hz : w0.heap.size = w.heap.size + 4 := by rw [hw0]; simp
 rw [← hw0] at hS hv0
 clear hm hv hu hr
 go_enter Tryz.func78, Tryz.ntmps78
 go_upto_region 1 with fail
 rw [← hw0]
 clear hw0
 go_cut [7, 8] (fun s7 s8 wx => ∃ (b7 b8 : Nat) (Ao : Option Addr) (co : Nat), s7 = .pointer (some ⟨b7, 0, none⟩) ∧ s8 = .pointer (some ⟨b8, 0, none⟩) ∧ CpI w0 X Y L X2 Y2 (.slice A2 F.length c2) b7 b8 (.slice Ao L.length co) wx)
 case first =>
  refine wp_region_held_drew (S := fun W => Below w0.heap.size w0 W) (by kernel_rfl) (Below.refl _ _).drew (fun hW => ?_)
  refine tcH (i := 0) (v := .agg #[.int .i64 X, .int .i64 Y, .slice A L.length c]) rfl (by intro w' hSw; (try dsimp only at hSw); (obtain ⟨a0, a1, a2⟩ := (hS.call hSw).a.cells); (obtain ⟨b0, b1, b2⟩ := (hS.call hSw).b.cells); go_simp) ?_
  refine tcH (i := 2) (v := .agg #[.int .i64 X2, .int .i64 Y2, .slice A2 F.length c2]) rfl (by intro w' hSw; (try dsimp only at hSw); (obtain ⟨a0, a1, a2⟩ := (hS.call hSw).a.cells); (obtain ⟨b0, b1, b2⟩ := (hS.call hSw).b.cells); go_simp) ?_
  (try simp only [Act.put]); (try simp only [zPa]); (try simp only [zPb, zPc])
  refine wpAnyH_ready (rs := [1, 3, 4]) (by kernel_rfl) (by simp) ?_
  refine (AllReadyH.cons rfl (fun K hK => ?_) (AllReadyH.cons rfl (fun K hK => ?_) (AllReadyH.cons rfl (fun K hK => ?_) AllReadyH.nil)))
  ·rw [if_pos (by kernel_rfl)]
   (try simp only [zGa]); (try simp only [zGb]); (try simp only [zGc])
   go_simp
   with_reducible refine (copiedI X Y _ L _ Hm.out (hv0.call hW)).mono ?_
   rintro e W' ⟨vo, rfl, hown, hb⟩
   obtain ⟨Ao, co, hvo⟩ := ownI_shape hown
   subst hvo
   replace hown := hown.mono hW.size
   dsimp only
   refine hK.out _ _ (belI_call hW hb) (fun hW => ?_)
   clear hK
   (try simp only [Act.put]); (try simp only [zPa]); (try simp only [zPb, zPc])
   refine wpAnyH_ready (rs := [3, 4]) (by kernel_rfl) (by simp) ?_
   refine (AllReadyH.cons rfl (fun K hK => ?_) (AllReadyH.cons rfl (fun K hK => ?_) AllReadyH.nil))
   ·rw [if_pos (by kernel_rfl)]
    (try simp only [zGa]); (try simp only [zGb]); (try simp only [zGc])
    refine wp_alloc_im 114 zero71 7 rfl rfl ?_
    intro b7 W' hb G7 l7
    have k7 := Nat.le_trans hW.size l7
    have n7 : ∀ k, (Value.slice Ao L.length co).ownBlock = some k → k ≠ b7 := fun k hk => by have := (hown.lt k hk).2; omega
    have hown := ownI_call hown hb
    refine hK.out _ _ (belI_call hW hb) (fun hW => ?_)
    clear hK
    (try simp only [Act.put]); (try simp only [zPa]); (try simp only [zPb, zPc])
    refine wpAnyH_ready (rs := [4]) (by kernel_rfl) (by simp) ?_
    refine (AllReadyH.cons rfl (fun K hK => ?_) AllReadyH.nil)
    ·rw [if_pos (by kernel_rfl)]
     (try simp only [zGa]); (try simp only [zGb]); (try simp only [zGc])
     refine wp_alloc_im 114 zero71 8 rfl rfl ?_
     intro b8 W' hb G8 l8
     have k8 := Nat.le_trans hW.size l8
     have n78 : b7 ≠ b8 := by have := G7.lt; omega
     have n8 : ∀ k, (Value.slice Ao L.length co).ownBlock = some k → k ≠ b8 := fun k hk => by have := (hown.lt k hk).2; omega
     have hown := ownI_call hown hb
     have G7 := G7.call hb
     refine hK.out _ _ (belI_call hW hb) (fun hW => ?_)
     clear hK
     (try simp only [Act.put]); (try simp only [zPa]); (try simp only [zPb, zPc])
     refine wpAnyH_ready (rs := [5]) (by kernel_rfl) (by simp) ?_
     refine (AllReadyH.cons rfl (fun K hK => ?_) AllReadyH.nil)
     ·rw [if_pos (by kernel_rfl)]
      (try simp only [zGa]); (try simp only [zGb]); (try simp only [zGc])
      refine wp_store_im 114 size71 (.tmp 7) (.tmp 15) rfl b7 0 0 (.slice none 0 0) X Y Ao L.length co rfl rfl G7 ?_
      intro W3 I7 hg7
      replace hown := hown.kept hg7 (ownI_ne n7)
      replace G7 := I7
      replace G8 := G8.grown hg7 (fun e => n78 (by injection e with e; exact e.symm))
      refine hK.out _ _ (hW.grown hg7 hW.size (fun k hk => by injection hk with hk; omega)) (fun hW => ?_)
      clear hK
      (try simp only [Act.put]); (try simp only [zPa]); (try simp only [zPb, zPc])
      refine wpAnyH_ready (rs := [6]) (by kernel_rfl) (by simp) ?_
      refine (AllReadyH.cons rfl (fun K hK => ?_) AllReadyH.nil)
      ·rw [if_pos (by kernel_rfl)]
       (try simp only [zGa]); (try simp only [zGb]); (try simp only [zGc])
       refine wp_store_im 114 size71 (.tmp 8) (.tmp 16) rfl b8 0 0 (.slice none 0 0) X2 Y2 A2 F.length c2 rfl rfl G8 ?_
       intro W4 I8 hg8
       replace hown := hown.kept hg8 (ownI_ne n8)
       replace G7 := G7.grown hg8 (fun e => n78 (by injection e))
       replace G8 := I8
       refine hK.out _ _ (hW.grown hg8 hW.size (fun k hk => by injection hk with hk; omega)) (fun hW => ?_)
       clear hK
       (try simp only [Act.put]); (try simp only [zPa]); (try simp only [zPb, zPc])
       refine wpAnyH_done (by kernel_rfl) ?_ _
       go_wp2_with fail
       go_meet
       case rel => exact ⟨b7, b8, Ao, co, rfl, rfl, ⟨G7, G8, hown, n7, n8, n78, k7, k8, hW⟩⟩
   ·rw [if_pos (by kernel_rfl)]
    (try simp only [zGa]); (try simp only [zGb]); (try simp only [zGc])
    refine wp_alloc_im 114 zero71 8 rfl rfl ?_
    intro b8 W' hb G8 l8
    have k8 := Nat.le_trans hW.size l8
    have n8 : ∀ k, (Value.slice Ao L.length co).ownBlock = some k → k ≠ b8 := fun k hk => by have := (hown.lt k hk).2; omega
    have hown := ownI_call hown hb
    refine hK.out _ _ (belI_call hW hb) (fun hW => ?_)
    clear hK
    (try simp only [Act.put]); (try simp only [zPa]); (try simp only [zPb, zPc])
    refine wpAnyH_ready (rs := [3]) (by kernel_rfl) (by simp) ?_
    refine (AllReadyH.cons rfl (fun K hK => ?_) AllReadyH.nil)
    ·rw [if_pos (by kernel_rfl)]
     (try simp only [zGa]); (try simp only [zGb]); (try simp only [zGc])
     refine wp_alloc_im 114 zero71 7 rfl rfl ?_
     intro b7 W' hb G7 l7
     have k7 := Nat.le_trans hW.size l7
     have n78 : b7 ≠ b8 := by have := G8.lt; omega
     have n7 : ∀ k, (Value.slice Ao L.length co).ownBlock = some k → k ≠ b7 := fun k hk => by have := (hown.lt k hk).2; omega
     have hown := ownI_call hown hb
     have G8 := G8.call hb
     refine hK.out _ _ (belI_call hW hb) (fun hW => ?_)
     clear hK
     (try simp only [Act.put]); (try simp only [zPa]); (try simp only [zPb, zPc])
     refine wpAnyH_ready (rs := [5]) (by kernel_rfl) (by simp) ?_
     refine (AllReadyH.cons rfl (fun K hK => ?_) AllReadyH.nil)
     ·rw [if_pos (by kernel_rfl)]
      (try simp only [zGa]); (try simp only [zGb]); (try simp only [zGc])
      refine wp_store_im 114 size71 (.tmp 7) (.tmp 15) rfl b7 0 0 (.slice none 0 0) X Y Ao L.length co rfl rfl G7 ?_
      intro W3 I7 hg7
      replace hown := hown.kept hg7 (ownI_ne n7)
      replace G8 := G8.grown hg7 (fun e => n78 (by injection e with e; exact e.symm))
      replace G7 := I7
      refine hK.out _ _ (hW.grown hg7 hW.size (fun k hk => by injection hk with hk; omega)) (fun hW => ?_)
      clear hK
      (try simp only [Act.put]); (try simp only [zPa]); (try simp only [zPb, zPc])
      refine wpAnyH_ready (rs := [6]) (by kernel_rfl) (by simp) ?_
      refine (AllReadyH.cons rfl (fun K hK => ?_) AllReadyH.nil)
      ·rw [if_pos (by kernel_rfl)]
       (try simp only [zGa]); (try simp only [zGb]); (try simp only [zGc])
       refine wp_store_im 114 size71 (.tmp 8) (.tmp 16) rfl b8 0 0 (.slice none 0 0) X2 Y2 A2 F.length c2 rfl rfl G8 ?_
       intro W4 I8 hg8
       replace hown := hown.kept hg8 (ownI_ne n8)
       replace G8 := I8
       replace G7 := G7.grown hg8 (fun e => n78 (by injection e))
       refine hK.out _ _ (hW.grown hg8 hW.size (fun k hk => by injection hk with hk; omega)) (fun hW => ?_)
       clear hK
       (try simp only [Act.put]); (try simp only [zPa]); (try simp only [zPb, zPc])
       refine wpAnyH_done (by kernel_rfl) ?_ _
       go_wp2_with fail
       go_meet
       case rel => exact ⟨b7, b8, Ao, co, rfl, rfl, ⟨G7, G8, hown, n7, n8, n78, k7, k8, hW⟩⟩
  ·rw [if_pos (by kernel_rfl)]
   (try simp only [zGa]); (try simp only [zGb]); (try simp only [zGc])
   refine wp_alloc_im 114 zero71 7 rfl rfl ?_
   intro b7 W' hb G7 l7
   have k7 := Nat.le_trans hW.size l7
   refine hK.out _ _ (belI_call hW hb) (fun hW => ?_)
   clear hK
   (try simp only [Act.put]); (try simp only [zPa]); (try simp only [zPb, zPc])
   refine wpAnyH_ready (rs := [1, 4]) (by kernel_rfl) (by simp) ?_
   refine (AllReadyH.cons rfl (fun K hK => ?_) (AllReadyH.cons rfl (fun K hK => ?_) AllReadyH.nil))
   ·rw [if_pos (by kernel_rfl)]
    (try simp only [zGa]); (try simp only [zGb]); (try simp only [zGc])
    go_simp
    with_reducible refine (copiedI X Y _ L _ Hm.out (hv0.call hW)).mono ?_
    rintro e W' ⟨vo, rfl, hown, hb⟩
    obtain ⟨Ao, co, hvo⟩ := ownI_shape hown
    subst hvo
    have n7 : ∀ k, (Value.slice Ao L.length co).ownBlock = some k → k ≠ b7 := fun k hk => by have := (hown.lt k hk).1; have := G7.lt; omega
    replace hown := hown.mono hW.size
    dsimp only
    have G7 := G7.call hb
    refine hK.out _ _ (belI_call hW hb) (fun hW => ?_)
    clear hK
    (try simp only [Act.put]); (try simp only [zPa]); (try simp only [zPb, zPc])
    refine wpAnyH_ready (rs := [4]) (by kernel_rfl) (by simp) ?_
    refine (AllReadyH.cons rfl (fun K hK => ?_) AllReadyH.nil)
    ·rw [if_pos (by kernel_rfl)]
     (try simp only [zGa]); (try simp only [zGb]); (try simp only [zGc])
     refine wp_alloc_im 114 zero71 8 rfl rfl ?_
     intro b8 W' hb G8 l8
     have k8 := Nat.le_trans hW.size l8
     have n78 : b7 ≠ b8 := by have := G7.lt; omega
     have n8 : ∀ k, (Value.slice Ao L.length co).ownBlock = some k → k ≠ b8 := fun k hk => by have := (hown.lt k hk).2; omega
     have G7 := G7.call hb
     have hown := ownI_call hown hb
     refine hK.out _ _ (belI_call hW hb) (fun hW => ?_)
     clear hK
     (try simp only [Act.put]); (try simp only [zPa]); (try simp only [zPb, zPc])
     refine wpAnyH_ready (rs := [5]) (by kernel_rfl) (by simp) ?_
     refine (AllReadyH.cons rfl (fun K hK => ?_) AllReadyH.nil)
     ·rw [if_pos (by kernel_rfl)]
      (try simp only [zGa]); (try simp only [zGb]); (try simp only [zGc])
      refine wp_store_im 114 size71 (.tmp 7) (.tmp 15) rfl b7 0 0 (.slice none 0 0) X Y Ao L.length co rfl rfl G7 ?_
      intro W3 I7 hg7
      replace G7 := I7
      replace hown := hown.kept hg7 (ownI_ne n7)
      replace G8 := G8.grown hg7 (fun e => n78 (by injection e with e; exact e.symm))
      refine hK.out _ _ (hW.grown hg7 hW.size (fun k hk => by injection hk with hk; omega)) (fun hW => ?_)
      clear hK
      (try simp only [Act.put]); (try simp only [zPa]); (try simp only [zPb, zPc])
      refine wpAnyH_ready (rs := [6]) (by kernel_rfl) (by simp) ?_
      refine (AllReadyH.cons rfl (fun K hK => ?_) AllReadyH.nil)
      ·rw [if_pos (by kernel_rfl)]
       (try simp only [zGa]); (try simp only [zGb]); (try simp only [zGc])
       refine wp_store_im 114 size71 (.tmp 8) (.tmp 16) rfl b8 0 0 (.slice none 0 0) X2 Y2 A2 F.length c2 rfl rfl G8 ?_
       intro W4 I8 hg8
       replace G7 := G7.grown hg8 (fun e => n78 (by injection e))
       replace hown := hown.kept hg8 (ownI_ne n8)
       replace G8 := I8
       refine hK.out _ _ (hW.grown hg8 hW.size (fun k hk => by injection hk with hk; omega)) (fun hW => ?_)
       clear hK
       (try simp only [Act.put]); (try simp only [zPa]); (try simp only [zPb, zPc])
       refine wpAnyH_done (by kernel_rfl) ?_ _
       go_wp2_with fail
       go_meet
       case rel => exact ⟨b7, b8, Ao, co, rfl, rfl, ⟨G7, G8, hown, n7, n8, n78, k7, k8, hW⟩⟩
   ·rw [if_pos (by kernel_rfl)]
    (try simp only [zGa]); (try simp only [zGb]); (try simp only [zGc])
    refine wp_alloc_im 114 zero71 8 rfl rfl ?_
    intro b8 W' hb G8 l8
    have k8 := Nat.le_trans hW.size l8
    have n78 : b7 ≠ b8 := by have := G7.lt; omega
    have G7 := G7.call hb
    refine hK.out _ _ (belI_call hW hb) (fun hW => ?_)
    clear hK
    (try simp only [Act.put]); (try simp only [zPa]); (try simp only [zPb, zPc])
    refine wpAnyH_ready (rs := [1]) (by kernel_rfl) (by simp) ?_
    refine (AllReadyH.cons rfl (fun K hK => ?_) AllReadyH.nil)
    ·rw [if_pos (by kernel_rfl)]
     (try simp only [zGa]); (try simp only [zGb]); (try simp only [zGc])
     go_simp
     with_reducible refine (copiedI X Y _ L _ Hm.out (hv0.call hW)).mono ?_
     rintro e W' ⟨vo, rfl, hown, hb⟩
     obtain ⟨Ao, co, hvo⟩ := ownI_shape hown
     subst hvo
     have n7 : ∀ k, (Value.slice Ao L.length co).ownBlock = some k → k ≠ b7 := fun k hk => by have := (hown.lt k hk).1; have := G7.lt; omega
     have n8 : ∀ k, (Value.slice Ao L.length co).ownBlock = some k → k ≠ b8 := fun k hk => by have := (hown.lt k hk).1; have := G8.lt; omega
     replace hown := hown.mono hW.size
     dsimp only
     have G7 := G7.call hb
     have G8 := G8.call hb
     refine hK.out _ _ (belI_call hW hb) (fun hW => ?_)
     clear hK
     (try simp only [Act.put]); (try simp only [zPa]); (try simp only [zPb, zPc])
     refine wpAnyH_ready (rs := [5]) (by kernel_rfl) (by simp) ?_
     refine (AllReadyH.cons rfl (fun K hK => ?_) AllReadyH.nil)
     ·rw [if_pos (by kernel_rfl)]
      (try simp only [zGa]); (try simp only [zGb]); (try simp only [zGc])
      refine wp_store_im 114 size71 (.tmp 7) (.tmp 15) rfl b7 0 0 (.slice none 0 0) X Y Ao L.length co rfl rfl G7 ?_
      intro W3 I7 hg7
      replace G7 := I7
      replace G8 := G8.grown hg7 (fun e => n78 (by injection e with e; exact e.symm))
      replace hown := hown.kept hg7 (ownI_ne n7)
      refine hK.out _ _ (hW.grown hg7 hW.size (fun k hk => by injection hk with hk; omega)) (fun hW => ?_)
      clear hK
      (try simp only [Act.put]); (try simp only [zPa]); (try simp only [zPb, zPc])
      refine wpAnyH_ready (rs := [6]) (by kernel_rfl) (by simp) ?_
      refine (AllReadyH.cons rfl (fun K hK => ?_) AllReadyH.nil)
      ·rw [if_pos (by kernel_rfl)]
       (try simp only [zGa]); (try simp only [zGb]); (try simp only [zGc])
       refine wp_store_im 114 size71 (.tmp 8) (.tmp 16) rfl b8 0 0 (.slice none 0 0) X2 Y2 A2 F.length c2 rfl rfl G8 ?_
       intro W4 I8 hg8
       replace G7 := G7.grown hg8 (fun e => n78 (by injection e))
       replace G8 := I8
       replace hown := hown.kept hg8 (ownI_ne n8)
       refine hK.out _ _ (hW.grown hg8 hW.size (fun k hk => by injection hk with hk; omega)) (fun hW => ?_)
       clear hK
       (try simp only [Act.put]); (try simp only [zPa]); (try simp only [zPb, zPc])
       refine wpAnyH_done (by kernel_rfl) ?_ _
       go_wp2_with fail
       go_meet
       case rel => exact ⟨b7, b8, Ao, co, rfl, rfl, ⟨G7, G8, hown, n7, n8, n78, k7, k8, hW⟩⟩
  ·rw [if_pos (by kernel_rfl)]
   (try simp only [zGa]); (try simp only [zGb]); (try simp only [zGc])
   refine wp_alloc_im 114 zero71 8 rfl rfl ?_
   intro b8 W' hb G8 l8
   have k8 := Nat.le_trans hW.size l8
   refine hK.out _ _ (belI_call hW hb) (fun hW => ?_)
   clear hK
   (try simp only [Act.put]); (try simp only [zPa]); (try simp only [zPb, zPc])
   refine wpAnyH_ready (rs := [1, 3]) (by kernel_rfl) (by simp) ?_
   refine (AllReadyH.cons rfl (fun K hK => ?_) (AllReadyH.cons rfl (fun K hK => ?_) AllReadyH.nil))
   ·rw [if_pos (by kernel_rfl)]
    (try simp only [zGa]); (try simp only [zGb]); (try simp only [zGc])
    go_simp
    with_reducible refine (copiedI X Y _ L _ Hm.out (hv0.call hW)).mono ?_
    rintro e W' ⟨vo, rfl, hown, hb⟩
    obtain ⟨Ao, co, hvo⟩ := ownI_shape hown
    subst hvo
    have n8 : ∀ k, (Value.slice Ao L.length co).ownBlock = some k → k ≠ b8 := fun k hk => by have := (hown.lt k hk).1; have := G8.lt; omega
    replace hown := hown.mono hW.size
    dsimp only
    have G8 := G8.call hb
    refine hK.out _ _ (belI_call hW hb) (fun hW => ?_)
    clear hK
    (try simp only [Act.put]); (try simp only [zPa]); (try simp only [zPb, zPc])
    refine wpAnyH_ready (rs := [3]) (by kernel_rfl) (by simp) ?_
    refine (AllReadyH.cons rfl (fun K hK => ?_) AllReadyH.nil)
    ·rw [if_pos (by kernel_rfl)]
     (try simp only [zGa]); (try simp only [zGb]); (try simp only [zGc])
     refine wp_alloc_im 114 zero71 7 rfl rfl ?_
     intro b7 W' hb G7 l7
     have k7 := Nat.le_trans hW.size l7
     have n78 : b7 ≠ b8 := by have := G8.lt; omega
     have n7 : ∀ k, (Value.slice Ao L.length co).ownBlock = some k → k ≠ b7 := fun k hk => by have := (hown.lt k hk).2; omega
     have G8 := G8.call hb
     have hown := ownI_call hown hb
     refine hK.out _ _ (belI_call hW hb) (fun hW => ?_)
     clear hK
     (try simp only [Act.put]); (try simp only [zPa]); (try simp only [zPb, zPc])
     refine wpAnyH_ready (rs := [5]) (by kernel_rfl) (by simp) ?_
     refine (AllReadyH.cons rfl (fun K hK => ?_) AllReadyH.nil)
     ·rw [if_pos (by kernel_rfl)]
      (try simp only [zGa]); (try simp only [zGb]); (try simp only [zGc])
      refine wp_store_im 114 size71 (.tmp 7) (.tmp 15) rfl b7 0 0 (.slice none 0 0) X Y Ao L.length co rfl rfl G7 ?_
      intro W3 I7 hg7
      replace G8 := G8.grown hg7 (fun e => n78 (by injection e with e; exact e.symm))
      replace hown := hown.kept hg7 (ownI_ne n7)
      replace G7 := I7
      refine hK.out _ _ (hW.grown hg7 hW.size (fun k hk => by injection hk with hk; omega)) (fun hW => ?_)
      clear hK
      (try simp only [Act.put]); (try simp only [zPa]); (try simp only [zPb, zPc])
      refine wpAnyH_ready (rs := [6]) (by kernel_rfl) (by simp) ?_
      refine (AllReadyH.cons rfl (fun K hK => ?_) AllReadyH.nil)
      ·rw [if_pos (by kernel_rfl)]
       (try simp only [zGa]); (try simp only [zGb]); (try simp only [zGc])
       refine wp_store_im 114 size71 (.tmp 8) (.tmp 16) rfl b8 0 0 (.slice none 0 0) X2 Y2 A2 F.length c2 rfl rfl G8 ?_
       intro W4 I8 hg8
       replace G8 := I8
       replace hown := hown.kept hg8 (ownI_ne n8)
       replace G7 := G7.grown hg8 (fun e => n78 (by injection e))
       refine hK.out _ _ (hW.grown hg8 hW.size (fun k hk => by injection hk with hk; omega)) (fun hW => ?_)
       clear hK
       (try simp only [Act.put]); (try simp only [zPa]); (try simp only [zPb, zPc])
       refine wpAnyH_done (by kernel_rfl) ?_ _
       go_wp2_with fail
       go_meet
       case rel => exact ⟨b7, b8, Ao, co, rfl, rfl, ⟨G7, G8, hown, n7, n8, n78, k7, k8, hW⟩⟩
   ·rw [if_pos (by kernel_rfl)]
    (try simp only [zGa]); (try simp only [zGb]); (try simp only [zGc])
    refine wp_alloc_im 114 zero71 7 rfl rfl ?_
    intro b7 W' hb G7 l7
    have k7 := Nat.le_trans hW.size l7
    have n78 : b7 ≠ b8 := by have := G8.lt; omega
    have G8 := G8.call hb
    refine hK.out _ _ (belI_call hW hb) (fun hW => ?_)
    clear hK
    (try simp only [Act.put]); (try simp only [zPa]); (try simp only [zPb, zPc])
    refine wpAnyH_ready (rs := [1]) (by kernel_rfl) (by simp) ?_
    refine (AllReadyH.cons rfl (fun K hK => ?_) AllReadyH.nil)
    ·rw [if_pos (by kernel_rfl)]
     (try simp only [zGa]); (try simp only [zGb]); (try simp only [zGc])
     go_simp
     with_reducible refine (copiedI X Y _ L _ Hm.out (hv0.call hW)).mono ?_
     rintro e W' ⟨vo, rfl, hown, hb⟩
     obtain ⟨Ao, co, hvo⟩ := ownI_shape hown
     subst hvo
     have n7 : ∀ k, (Value.slice Ao L.length co).ownBlock = some k → k ≠ b7 := fun k hk => by have := (hown.lt k hk).1; have := G7.lt; omega
     have n8 : ∀ k, (Value.slice Ao L.length co).ownBlock = some k → k ≠ b8 := fun k hk => by have := (hown.lt k hk).1; have := G8.lt; omega
     replace hown := hown.mono hW.size
     dsimp only
     have G8 := G8.call hb
     have G7 := G7.call hb
     refine hK.out _ _ (belI_call hW hb) (fun hW => ?_)
     clear hK
     (try simp only [Act.put]); (try simp only [zPa]); (try simp only [zPb, zPc])
     refine wpAnyH_ready (rs := [5]) (by kernel_rfl) (by simp) ?_
     refine (AllReadyH.cons rfl (fun K hK => ?_) AllReadyH.nil)
     ·rw [if_pos (by kernel_rfl)]
      (try simp only [zGa]); (try simp only [zGb]); (try simp only [zGc])
      refine wp_store_im 114 size71 (.tmp 7) (.tmp 15) rfl b7 0 0 (.slice none 0 0) X Y Ao L.length co rfl rfl G7 ?_
      intro W3 I7 hg7
      replace G8 := G8.grown hg7 (fun e => n78 (by injection e with e; exact e.symm))
      replace G7 := I7
      replace hown := hown.kept hg7 (ownI_ne n7)
      refine hK.out _ _ (hW.grown hg7 hW.size (fun k hk => by injection hk with hk; omega)) (fun hW => ?_)
      clear hK
      (try simp only [Act.put]); (try simp only [zPa]); (try simp only [zPb, zPc])
      refine wpAnyH_ready (rs := [6]) (by kernel_rfl) (by simp) ?_
      refine (AllReadyH.cons rfl (fun K hK => ?_) AllReadyH.nil)
      ·rw [if_pos (by kernel_rfl)]
       (try simp only [zGa]); (try simp only [zGb]); (try simp only [zGc])
       refine wp_store_im 114 size71 (.tmp 8) (.tmp 16) rfl b8 0 0 (.slice none 0 0) X2 Y2 A2 F.length c2 rfl rfl G8 ?_
       intro W4 I8 hg8
       replace G8 := I8
       replace G7 := G7.grown hg8 (fun e => n78 (by injection e))
       replace hown := hown.kept hg8 (ownI_ne n8)
       refine hK.out _ _ (hW.grown hg8 hW.size (fun k hk => by injection hk with hk; omega)) (fun hW => ?_)
       clear hK
       (try simp only [Act.put]); (try simp only [zPa]); (try simp only [zPb, zPc])
       refine wpAnyH_done (by kernel_rfl) ?_ _
       go_wp2_with fail
       go_meet
       case rel => exact ⟨b7, b8, Ao, co, rfl, rfl, ⟨G7, G8, hown, n7, n8, n78, k7, k8, hW⟩⟩
 case rest =>
  obtain ⟨b7, b8, Ao, co, rfl, rfl, hT⟩ := hcut
  have hv := hv0.call hT.bw
  replace hS := hS.call hT.bw
  clear hv0
  obtain ⟨a0, a1, a2⟩ := hS.a.cells
  go_wp2_with fail
  refine (imI X Y _ L _ hv).mono ?_
  rintro e w2 ⟨rfl, hb⟩
  replace hS := hS.call hb
  replace hT := hT.call hb
  clear hb hv a0 a1 a2
  rw [imB_yes Ho.out]
  obtain ⟨b0, b1, b2⟩ := hS.b.cells
  go_wp2_with fail
  refine (imI X2 Y2 _ F _ hS.ru).mono ?_
  rintro e w3 ⟨rfl, hb⟩
  replace hS := hS.call hb
  replace hT := hT.call hb
  clear hb b0 b1 b2
  rw [imB_yes Ho2.out]
  have c0 := hS.c.cell
  go_wp2_with fail
  refine (rokI _ R _ hS.rr).mono ?_
  rintro e w4 ⟨rfl, hb⟩
  replace hS := hS.call hb
  replace hT := hT.call hb
  clear hb c0
  rw [Ho3.out]
  obtain ⟨d0, d1, d2⟩ := hS.d.cells
  obtain ⟨o0, o1, o2⟩ := hT.t7.cells
  have f0 := hS.d.frozen 0
  have f1 := hS.d.frozen 1
  have f2 := hS.d.frozen 2
  go_wp2_with fail
  have j := hS.d.set3 X Y (.slice Ao L.length co)
  obtain ⟨x0, x1, x2⟩ := j.cells
  refine bodyPost_ret (v := .agg #[.int .i64 X, .int .i64 Y, .slice Ao L.length co]) (by simp [results, Tryz.results78, go_sem, x0, x1, x2]) rfl ?_
  unfold AnsIm
  rw [HA.out]
  exact ans_set hT.own rfl (by omega) (by omega) hS.bw
end Go.Proofs.YtokniebejilcbaaGreat
