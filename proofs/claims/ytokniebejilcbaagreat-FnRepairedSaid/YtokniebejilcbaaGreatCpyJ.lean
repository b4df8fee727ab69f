/- The contract of the program's CopyRegion. No statement is proved here. -/
import Derived.Test.YtokniebejilcbaaGreatMA
import Derived.Test.YtokniebejilcbaaGreatMB
import Derived.Test.YtokniebejilcbaaGreatMC
import Derived.Test.YtokniebejilcbaaGreatCpyI
import Derived.Test.YtokniebejilcbaaGreatProg
import Derived.WalkKit
import Derived.ProofKit
import Derived.OpenShut
import Derived.WalkLawsBesides
import Derived.WalkSpells
import Derived.ShutString
import Derived.ChangeOld
import Derived.Below
import Derived.Lib.Hide
import Derived.BigQuiet
import Derived.Deep.QuietTactic
import Derived.Maps.AppendAt
import Derived.Deep.OwnRows
import Derived.Handy
import Derived.Deep.Draws
import Derived.OwnWalk
import Derived.Deep.AppendLies
import Derived.Deep.LoopGhost
import Derived.Deep.Onto
import Derived.Laws.BitsAllLaws
import Derived.Lib.QuoteBits
import Derived.Test.YtokniebejilcbaaGreatShelf
import Derived.Laws.CopyOwn
import Derived.Deep.RegionLaw
import Derived.Deep.RegionHeld3
import Derived.Deep.DeepCutAuto
import Derived.Great.BuildSlice
import Derived.Deep.MidRow
import Derived.Deep.WholeRow
import Derived.Laws.AppendOwn
namespace Go.Proofs.YtokniebejilcbaaGreat
open Go.RowKit
theorem span_cells {w W : World} {gu cu off n : Nat} {row : Option Nat} {F : List Int} (h : RdI w (.slice (some ⟨gu, 0, none⟩) F.length cu) F) (hg : w.grownBy W row) (hr : some gu ≠ row) (hf : off + n ≤ F.length) :
  ∀ j v, (intCells (tabI n (fun i => F.getD (off + i) 0)))[j]? = some v → W.cell? ((⟨gu, off, none⟩ : Addr).add j) = some v := by
 intro j v hv
 rw [intCells_get] at hv
 obtain ⟨x, hx, rfl⟩ := Option.map_eq_some_iff.1 hv
 have hj : j < n := by have := (List.getElem?_eq_some_iff.1 hx).1; rwa [tabI_length] at this
 rw [tabI_get n _ j hj] at hx
 injection hx with hx
 obtain ⟨g', x', e, hx', hc⟩ := h.at_ (k := off + j) (by omega)
 injection e with e
 injection e with e
 subst e
 have he : (⟨gu, off, none⟩ : Addr).add j = ⟨gu, off + j, none⟩ := by unfold Addr.add; split <;> simp_all
 rw [he, ← hx, List.getD_eq_getElem?_getD, hx']
 exact (World.cell?_of_block (hg.block gu (World.block_lt_of_cell? w _ hc) hr)).trans hc
theorem frame_isect (W H W2 H2 : Nat) (a1 : 1 ≤ W) (a2 : W ≤ 16) (b1 : 1 ≤ H) (b2 : H ≤ 16) (c1 : 1 ≤ W2) (c2 : W2 ≤ 16) (d1 : 1 ≤ H2) (d2 : H2 ≤ 16) :
  isect ⟨0, 0, W, H⟩ ⟨0, 0, W2, H2⟩ = ⟨0, 0, (min W W2 : Nat), (min H H2 : Nat)⟩ := by
 rw [isect_yes (by unfold Rc.ok; dsimp only; omega) (by unfold Rc.ok; dsimp only; omega) (by unfold isectIn; dsimp only; omega)]
 unfold isectRaw
 exact rc_ext (by dsimp only; omega)
theorem part_nat (r : Rc) (M2 M : Nat) (a1 : 1 ≤ M2) (a2 : M2 ≤ 16) (b1 : 1 ≤ M) (b2 : M ≤ 16) :
  ∃ X Y n h : Nat, isect r ⟨0, 0, M2, M⟩ = ⟨X, Y, n, h⟩ ∧ X + n ≤ M2 ∧ Y + h ≤ M ∧ (h = 0 ∨ 1 ≤ n) ∧ ∀ p q : Nat, ((X ≤ p ∧ p < X + n ∧ Y ≤ q ∧ q < Y + h) ↔ (hasB r p q = true ∧ p < M2 ∧ q < M)) := by
 have hf : (⟨0, 0, M2, M⟩ : Rc).ok := by unfold Rc.ok; dsimp only; omega
 by_cases ho : r.ok
 ·rcases isect_cases r _ ho hf with ⟨hi, e⟩ | ⟨hi, e⟩
  ·rw [e]
   unfold isectRaw
   unfold isectIn at hi
   dsimp only at hi ⊢
   obtain ⟨X, hX⟩ := Int.eq_ofNat_of_zero_le (show 0 ≤ max r.x 0 by omega)
   obtain ⟨Y, hY⟩ := Int.eq_ofNat_of_zero_le (show 0 ≤ max r.y 0 by omega)
   obtain ⟨n, hn⟩ := Int.eq_ofNat_of_zero_le (show 0 ≤ min (r.x + r.w) (0 + (M2 : Int)) - max r.x 0 by omega)
   obtain ⟨h, hh⟩ := Int.eq_ofNat_of_zero_le (show 0 ≤ min (r.y + r.h) (0 + (M : Int)) - max r.y 0 by omega)
   refine ⟨X, Y, n, h, by rw [hn, hh, hX, hY], by omega, by omega, by omega, fun p q => ?_⟩
   unfold hasB
   rw [decide_eq_true_iff]
   constructor
   ·intro k; exact ⟨⟨ho, by omega⟩, by omega, by omega⟩
   ·rintro ⟨⟨_, k⟩, k1, k2⟩; omega
  ·refine ⟨0, 0, 0, 0, e, by omega, by omega, .inl rfl, fun p q => ?_⟩
   unfold hasB
   rw [decide_eq_true_iff]
   unfold isectIn at hi
   dsimp only at hi
   constructor
   ·intro k; omega
   ·rintro ⟨⟨_, k⟩, k1, k2⟩; omega
 ·refine ⟨0, 0, 0, 0, isect_no fun h => ho h.1, by omega, by omega, .inl rfl, fun p q => ?_⟩
  unfold hasB
  rw [decide_eq_true_iff]
  constructor
  ·intro k; omega
  ·rintro ⟨⟨k, _⟩, _⟩; exact absurd k ho
theorem partI (r : Rc) (M2 M : Nat) (a1 : 1 ≤ M2) (a2 : M2 ≤ 16) (b1 : 1 ≤ M) (b2 : M ≤ 16) (w : World) :
  Calls Tryz.prog 147 #[.agg #[.int .i64 r.x, .int .i64 r.y, .int .i64 r.w, .int .i64 r.h], .agg #[.int .i64 0, .int .i64 0, .int .i64 M2, .int .i64 M]] w
   fun e w' => (∃ X Y n h : Nat, e = .returned (.agg #[.int .i64 X, .int .i64 Y, .int .i64 n, .int .i64 h]) ∧ X + n ≤ M2 ∧ Y + h ≤ M ∧ (h = 0 ∨ 1 ≤ n) ∧ Hid (∀ p q : Nat, ((X ≤ p ∧ p < X + n ∧ Y ≤ q ∧ q < Y + h) ↔ (hasB r p q = true ∧ p < M2 ∧ q < M)))) ∧ Below w.heap.size w w' := by
 refine (isectI_any r ⟨0, 0, M2, M⟩ w).mono ?_
 rintro e w' ⟨rfl, hb⟩
 obtain ⟨X, Y, n, h, he, h1, h2, h3, h4⟩ := part_nat r M2 M a1 a2 b1 b2
 exact ⟨⟨X, Y, n, h, by rw [he], h1, h2, h3, h4⟩, hb⟩
theorem copyF_none (W W2 H2 : Nat) (L F : List Int) (R : List Rc) (k : Nat) : copyF W W2 H2 L F (gridOf (R.take 0)) k = L.getD k 0 :=
 if_neg fun h => by rw [List.take_zero, gridOf_nil] at h; cases h.2.2
set_option maxHeartbeats 1000000 in
set_option maxRecDepth 10000 in
theorem copyI_ok (X Y : Int) (v : Value) (L : List Int) (X2 Y2 : Int) (u : Value) (F : List Int) (vr : Value) (R : List Rc) (w : World) (hm : L.length ≤ 2097152) (hv : RdI w v L) (hu : RdI w u F) (hr : RdR w vr R) (h1 : imOk X Y L) (h2 : imOk X2 Y2 F) (h3 : okL R = true) :
  Calls Tryz.prog 78 #[.agg #[.int .i64 X, .int .i64 Y, v], .agg #[.int .i64 X2, .int .i64 Y2, u], .agg #[vr]] w (AnsIm (copyIm X Y L X2 Y2 F R) w) := by
 obtain ⟨W, H, rfl, rfl, wl, wh, hl1, hl2, hL⟩ := im_nat h1
 obtain ⟨W2, H2, rfl, rfl, wl2, wh2, hl3, hl4, hF⟩ := im_nat h2
 have HA : Hid (copyIm W H L W2 H2 F R = ⟨W, H, tabI L.length (copyF W W2 H2 L F (gridOf R))⟩) := Lib.hid (copy_yes h1 h2 h3)
 have hL0 : 0 < L.length := by rw [hL]; exact Nat.mul_pos wl hl1
 have hL256 : L.length ≤ 256 := by rw [hL]; exact mul_256 wh hl2
 have hF256 : F.length ≤ 256 := by rw [hF]; exact mul_256 wh2 hl4
 obtain ⟨gu, cu, rfl, hgu, hcu⟩ := rd_block hu (by rw [hF]; exact Nat.mul_pos wl2 hl3)
 have HR0 := Lib.hid hr
 have HL := Lib.hid hL
 have HF := Lib.hid hF
 have Ho := Lib.hid h1
 have Ho2 := Lib.hid h2
 have Ho3 := Lib.hid h3
 clear h1 h2 h3 hL hF
 have Hm := Lib.hid hm
 obtain ⟨A, c, rfl⟩ := hv.form
 obtain ⟨A3, c3, rfl⟩ := hr.form
 obtain ⟨w0, hw0⟩ : ∃ w0, w0 = ((((w.alloc (.cells #[.int .i64 W, .int .i64 H, .slice A L.length c] 55)).alloc (.cells #[.int .i64 W2, .int .i64 H2, .slice (some ⟨gu, 0, none⟩) F.length cu] 55)).alloc (.cells #[.slice A3 R.length c3] 30)).alloc (.cells #[.int .i64 0, .int .i64 0, .slice none 0 0] 55)) := ⟨_, rfl⟩
 have hS := CsB.born w W H (.slice A L.length c) W2 H2 (.slice (some ⟨gu, 0, none⟩) F.length cu) F (.slice A3 R.length c3) R hu hr
 have hv0 := ((((hv.alloc (.cells #[.int .i64 W, .int .i64 H, .slice A L.length c] 55)).alloc (.cells #[.int .i64 W2, .int .i64 H2, .slice (some ⟨gu, 0, none⟩) F.length cu] 55)).alloc (.cells #[.slice A3 R.length c3] 30)).alloc (.cells #[.int .i64 0, .int .i64 0, .slice none 0 0] 55))
 have hz : w0.heap.size = w.heap.size + 4 := by rw [hw0]; simp
 rw [← hw0] at hS hv0
 clear hm hv hu hr
 go_enter Tryz.func78, Tryz.ntmps78
 go_upto_region 1 with fail
 rw [← hw0]
 clear hw0
 go_cut [7, 8] (fun s7 s8 wx => ∃ (b7 b8 : Nat) (Ao : Option Addr) (co : Nat), s7 = .pointer (some ⟨b7, 0, none⟩) ∧ s8 = .pointer (some ⟨b8, 0, none⟩) ∧ CpI w0 W H L W2 H2 (.slice (some ⟨gu, 0, none⟩) F.length cu) b7 b8 (.slice Ao L.length co) wx)
 case first =>
  refine wp_region_held_drew (S := fun W => Below w0.heap.size w0 W) (by kernel_rfl) (Below.refl _ _).drew (fun hW => ?_)
  refine tcH (i := 0) (v := .agg #[.int .i64 W, .int .i64 H, .slice A L.length c]) rfl (by intro w' hSw; (try dsimp only at hSw); (obtain ⟨a0, a1, a2⟩ := (hS.call hSw).a.cells); (obtain ⟨b0, b1, b2⟩ := (hS.call hSw).b.cells); go_simp) ?_
  refine tcH (i := 2) (v := .agg #[.int .i64 W2, .int .i64 H2, .slice (some ⟨gu, 0, none⟩) F.length cu]) rfl (by intro w' hSw; (try dsimp only at hSw); (obtain ⟨a0, a1, a2⟩ := (hS.call hSw).a.cells); (obtain ⟨b0, b1, b2⟩ := (hS.call hSw).b.cells); go_simp) ?_
  (try simp only [Act.put]); (try simp only [zPa]); (try simp only [zPb, zPc])
  refine wpAnyH_ready (rs := [1, 3, 4]) (by kernel_rfl) (by simp) ?_
  refine (AllReadyH.cons rfl (fun K hK => ?_) (AllReadyH.cons rfl (fun K hK => ?_) (AllReadyH.cons rfl (fun K hK => ?_) AllReadyH.nil)))
  ·rw [if_pos (by kernel_rfl)]
   (try simp only [zGa]); (try simp only [zGb]); (try simp only [zGc])
   go_simp
   with_reducible refine (copiedI W H _ L _ Hm.out (hv0.call hW)).mono ?_
   rintro e W' ⟨vo, rfl, hown, hb⟩
   obtain ⟨Ao, co, hvo⟩ := ownI_shape hown
   subst hvo
   replace hown := hown.mono hW.size
   dsimp only
   refine hK.out _ _ (belI_call hW hb) (fun hW => ?_)
   clear hK
   (try simp only [Act.put]); (try simp only [zPa]); (try simp only [zPb, zPc])
   refine wpAnyH_ready (rs := [3, 4]) (by kernel_rfl) (by simp) ?_
   refine (AllReadyH.cons rfl (fun K hK => ?_) (AllReadyH.cons rfl (fun K hK => ?_) AllReadyH.nil))
   ·rw [if_pos (by kernel_rfl)]
    (try simp only [zGa]); (try simp only [zGb]); (try simp only [zGc])
    refine wp_alloc_im 114 zero71 7 rfl rfl ?_
    intro b7 W' hb G7 l7
    have k7 := Nat.le_trans hW.size l7
    have n7 : ∀ k, (Value.slice Ao L.length co).ownBlock = some k → k ≠ b7 := fun k hk => by have := (hown.lt k hk).2; omega
    have hown := ownI_call hown hb
    refine hK.out _ _ (belI_call hW hb) (fun hW => ?_)
    clear hK
    (try simp only [Act.put]); (try simp only [zPa]); (try simp only [zPb, zPc])
    refine wpAnyH_ready (rs := [4]) (by kernel_rfl) (by simp) ?_
    refine (AllReadyH.cons rfl (fun K hK => ?_) AllReadyH.nil)
    ·rw [if_pos (by kernel_rfl)]
     (try simp only [zGa]); (try simp only [zGb]); (try simp only [zGc])
     refine wp_alloc_im 114 zero71 8 rfl rfl ?_
     intro b8 W' hb G8 l8
     have k8 := Nat.le_trans hW.size l8
     have n78 : b7 ≠ b8 := by have := G7.lt; omega
     have n8 : ∀ k, (Value.slice Ao L.length co).ownBlock = some k → k ≠ b8 := fun k hk => by have := (hown.lt k hk).2; omega
     have hown := ownI_call hown hb
     have G7 := G7.call hb
     refine hK.out _ _ (belI_call hW hb) (fun hW => ?_)
     clear hK
     (try simp only [Act.put]); (try simp only [zPa]); (try simp only [zPb, zPc])
     refine wpAnyH_ready (rs := [5]) (by kernel_rfl) (by simp) ?_
     refine (AllReadyH.cons rfl (fun K hK => ?_) AllReadyH.nil)
     ·rw [if_pos (by kernel_rfl)]
      (try simp only [zGa]); (try simp only [zGb]); (try simp only [zGc])
      refine wp_store_im 114 size71 (.tmp 7) (.tmp 15) rfl b7 0 0 (.slice none 0 0) W H Ao L.length co rfl rfl G7 ?_
      intro W3 I7 hg7
      replace hown := hown.kept hg7 (ownI_ne n7)
      replace G7 := I7
      replace G8 := G8.grown hg7 (fun e => n78 (by injection e with e; exact e.symm))
      refine hK.out _ _ (hW.grown hg7 hW.size (fun k hk => by injection hk with hk; omega)) (fun hW => ?_)
      clear hK
      (try simp only [Act.put]); (try simp only [zPa]); (try simp only [zPb, zPc])
      refine wpAnyH_ready (rs := [6]) (by kernel_rfl) (by simp) ?_
      refine (AllReadyH.cons rfl (fun K hK => ?_) AllReadyH.nil)
      ·rw [if_pos (by kernel_rfl)]
       (try simp only [zGa]); (try simp only [zGb]); (try simp only [zGc])
       refine wp_store_im 114 size71 (.tmp 8) (.tmp 16) rfl b8 0 0 (.slice none 0 0) W2 H2 (some ⟨gu, 0, none⟩) F.length cu rfl rfl G8 ?_
       intro W4 I8 hg8
       replace hown := hown.kept hg8 (ownI_ne n8)
       replace G7 := G7.grown hg8 (fun e => n78 (by injection e))
       replace G8 := I8
       refine hK.out _ _ (hW.grown hg8 hW.size (fun k hk => by injection hk with hk; omega)) (fun hW => ?_)
       clear hK
       (try simp only [Act.put]); (try simp only [zPa]); (try simp only [zPb, zPc])
       refine wpAnyH_done (by kernel_rfl) ?_ _
       go_wp2_with fail
       go_meet
       case rel => exact ⟨b7, b8, Ao, co, rfl, rfl, ⟨G7, G8, hown, n7, n8, n78, k7, k8, hW⟩⟩
   ·rw [if_pos (by kernel_rfl)]
    (try simp only [zGa]); (try simp only [zGb]); (try simp only [zGc])
    refine wp_alloc_im 114 zero71 8 rfl rfl ?_
    intro b8 W' hb G8 l8
    have k8 := Nat.le_trans hW.size l8
    have n8 : ∀ k, (Value.slice Ao L.length co).ownBlock = some k → k ≠ b8 := fun k hk => by have := (hown.lt k hk).2; omega
    have hown := ownI_call hown hb
    refine hK.out _ _ (belI_call hW hb) (fun hW => ?_)
    clear hK
    (try simp only [Act.put]); (try simp only [zPa]); (try simp only [zPb, zPc])
    refine wpAnyH_ready (rs := [3]) (by kernel_rfl) (by simp) ?_
    refine (AllReadyH.cons rfl (fun K hK => ?_) AllReadyH.nil)
    ·rw [if_pos (by kernel_rfl)]
     (try simp only [zGa]); (try simp only [zGb]); (try simp only [zGc])
     refine wp_alloc_im 114 zero71 7 rfl rfl ?_
     intro b7 W' hb G7 l7
     have k7 := Nat.le_trans hW.size l7
     have n78 : b7 ≠ b8 := by have := G8.lt; omega
     have n7 : ∀ k, (Value.slice Ao L.length co).ownBlock = some k → k ≠ b7 := fun k hk => by have := (hown.lt k hk).2; omega
     have hown := ownI_call hown hb
     have G8 := G8.call hb
     refine hK.out _ _ (belI_call hW hb) (fun hW => ?_)
     clear hK
     (try simp only [Act.put]); (try simp only [zPa]); (try simp only [zPb, zPc])
     refine wpAnyH_ready (rs := [5]) (by kernel_rfl) (by simp) ?_
     refine (AllReadyH.cons rfl (fun K hK => ?_) AllReadyH.nil)
     ·rw [if_pos (by kernel_rfl)]
      (try simp only [zGa]); (try simp only [zGb]); (try simp only [zGc])
      refine wp_store_im 114 size71 (.tmp 7) (.tmp 15) rfl b7 0 0 (.slice none 0 0) W H Ao L.length co rfl rfl G7 ?_
      intro W3 I7 hg7
      replace hown := hown.kept hg7 (ownI_ne n7)
      replace G8 := G8.grown hg7 (fun e => n78 (by injection e with e; exact e.symm))
      replace G7 := I7
      refine hK.out _ _ (hW.grown hg7 hW.size (fun k hk => by injection hk with hk; omega)) (fun hW => ?_)
      clear hK
      (try simp only [Act.put]); (try simp only [zPa]); (try simp only [zPb, zPc])
      refine wpAnyH_ready (rs := [6]) (by kernel_rfl) (by simp) ?_
      refine (AllReadyH.cons rfl (fun K hK => ?_) AllReadyH.nil)
      ·rw [if_pos (by kernel_rfl)]
       (try simp only [zGa]); (try simp only [zGb]); (try simp only [zGc])
       refine wp_store_im 114 size71 (.tmp 8) (.tmp 16) rfl b8 0 0 (.slice none 0 0) W2 H2 (some ⟨gu, 0, none⟩) F.length cu rfl rfl G8 ?_
       intro W4 I8 hg8
       replace hown := hown.kept hg8 (ownI_ne n8)
       replace G8 := I8
       replace G7 := G7.grown hg8 (fun e => n78 (by injection e))
       refine hK.out _ _ (hW.grown hg8 hW.size (fun k hk => by injection hk with hk; omega)) (fun hW => ?_)
       clear hK
       (try simp only [Act.put]); (try simp only [zPa]); (try simp only [zPb, zPc])
       refine wpAnyH_done (by kernel_rfl) ?_ _
       go_wp2_with fail
       go_meet
       case rel => exact ⟨b7, b8, Ao, co, rfl, rfl, ⟨G7, G8, hown, n7, n8, n78, k7, k8, hW⟩⟩
  ·rw [if_pos (by kernel_rfl)]
   (try simp only [zGa]); (try simp only [zGb]); (try simp only [zGc])
   refine wp_alloc_im 114 zero71 7 rfl rfl ?_
   intro b7 W' hb G7 l7
   have k7 := Nat.le_trans hW.size l7
   refine hK.out _ _ (belI_call hW hb) (fun hW => ?_)
   clear hK
   (try simp only [Act.put]); (try simp only [zPa]); (try simp only [zPb, zPc])
   refine wpAnyH_ready (rs := [1, 4]) (by kernel_rfl) (by simp) ?_
   refine (AllReadyH.cons rfl (fun K hK => ?_) (AllReadyH.cons rfl (fun K hK => ?_) AllReadyH.nil))
   ·rw [if_pos (by kernel_rfl)]
    (try simp only [zGa]); (try simp only [zGb]); (try simp only [zGc])
    go_simp
    with_reducible refine (copiedI W H _ L _ Hm.out (hv0.call hW)).mono ?_
    rintro e W' ⟨vo, rfl, hown, hb⟩
    obtain ⟨Ao, co, hvo⟩ := ownI_shape hown
    subst hvo
    have n7 : ∀ k, (Value.slice Ao L.length co).ownBlock = some k → k ≠ b7 := fun k hk => by have := (hown.lt k hk).1; have := G7.lt; omega
    replace hown := hown.mono hW.size
    dsimp only
    have G7 := G7.call hb
    refine hK.out _ _ (belI_call hW hb) (fun hW => ?_)
    clear hK
    (try simp only [Act.put]); (try simp only [zPa]); (try simp only [zPb, zPc])
    refine wpAnyH_ready (rs := [4]) (by kernel_rfl) (by simp) ?_
    refine (AllReadyH.cons rfl (fun K hK => ?_) AllReadyH.nil)
    ·rw [if_pos (by kernel_rfl)]
     (try simp only [zGa]); (try simp only [zGb]); (try simp only [zGc])
     refine wp_alloc_im 114 zero71 8 rfl rfl ?_
     intro b8 W' hb G8 l8
     have k8 := Nat.le_trans hW.size l8
     have n78 : b7 ≠ b8 := by have := G7.lt; omega
     have n8 : ∀ k, (Value.slice Ao L.length co).ownBlock = some k → k ≠ b8 := fun k hk => by have := (hown.lt k hk).2; omega
     have G7 := G7.call hb
     have hown := ownI_call hown hb
     refine hK.out _ _ (belI_call hW hb) (fun hW => ?_)
     clear hK
     (try simp only [Act.put]); (try simp only [zPa]); (try simp only [zPb, zPc])
     refine wpAnyH_ready (rs := [5]) (by kernel_rfl) (by simp) ?_
     refine (AllReadyH.cons rfl (fun K hK => ?_) AllReadyH.nil)
     ·rw [if_pos (by kernel_rfl)]
      (try simp only [zGa]); (try simp only [zGb]); (try simp only [zGc])
      refine wp_store_im 114 size71 (.tmp 7) (.tmp 15) rfl b7 0 0 (.slice none 0 0) W H Ao L.length co rfl rfl G7 ?_
      intro W3 I7 hg7
      replace G7 := I7
      replace hown := hown.kept hg7 (ownI_ne n7)
      replace G8 := G8.grown hg7 (fun e => n78 (by injection e with e; exact e.symm))
      refine hK.out _ _ (hW.grown hg7 hW.size (fun k hk => by injection hk with hk; omega)) (fun hW => ?_)
      clear hK
      (try simp only [Act.put]); (try simp only [zPa]); (try simp only [zPb, zPc])
      refine wpAnyH_ready (rs := [6]) (by kernel_rfl) (by simp) ?_
      refine (AllReadyH.cons rfl (fun K hK => ?_) AllReadyH.nil)
      ·rw [if_pos (by kernel_rfl)]
       (try simp only [zGa]); (try simp only [zGb]); (try simp only [zGc])
       refine wp_store_im 114 size71 (.tmp 8) (.tmp 16) rfl b8 0 0 (.slice none 0 0) W2 H2 (some ⟨gu, 0, none⟩) F.length cu rfl rfl G8 ?_
       intro W4 I8 hg8
       replace G7 := G7.grown hg8 (fun e => n78 (by injection e))
       replace hown := hown.kept hg8 (ownI_ne n8)
       replace G8 := I8
       refine hK.out _ _ (hW.grown hg8 hW.size (fun k hk => by injection hk with hk; omega)) (fun hW => ?_)
       clear hK
       (try simp only [Act.put]); (try simp only [zPa]); (try simp only [zPb, zPc])
       refine wpAnyH_done (by kernel_rfl) ?_ _
       go_wp2_with fail
       go_meet
       case rel => exact ⟨b7, b8, Ao, co, rfl, rfl, ⟨G7, G8, hown, n7, n8, n78, k7, k8, hW⟩⟩
   ·rw [if_pos (by kernel_rfl)]
    (try simp only [zGa]); (try simp only [zGb]); (try simp only [zGc])
    refine wp_alloc_im 114 zero71 8 rfl rfl ?_
    intro b8 W' hb G8 l8
    have k8 := Nat.le_trans hW.size l8
    have n78 : b7 ≠ b8 := by have := G7.lt; omega
    have G7 := G7.call hb
    refine hK.out _ _ (belI_call hW hb) (fun hW => ?_)
    clear hK
    (try simp only [Act.put]); (try simp only [zPa]); (try simp only [zPb, zPc])
    refine wpAnyH_ready (rs := [1]) (by kernel_rfl) (by simp) ?_
    refine (AllReadyH.cons rfl (fun K hK => ?_) AllReadyH.nil)
    ·rw [if_pos (by kernel_rfl)]
     (try simp only [zGa]); (try simp only [zGb]); (try simp only [zGc])
     go_simp
     with_reducible refine (copiedI W H _ L _ Hm.out (hv0.call hW)).mono ?_
     rintro e W' ⟨vo, rfl, hown, hb⟩
     obtain ⟨Ao, co, hvo⟩ := ownI_shape hown
     subst hvo
     have n7 : ∀ k, (Value.slice Ao L.length co).ownBlock = some k → k ≠ b7 := fun k hk => by have := (hown.lt k hk).1; have := G7.lt; omega
     have n8 : ∀ k, (Value.slice Ao L.length co).ownBlock = some k → k ≠ b8 := fun k hk => by have := (hown.lt k hk).1; have := G8.lt; omega
     replace hown := hown.mono hW.size
     dsimp only
     have G7 := G7.call hb
     have G8 := G8.call hb
     refine hK.out _ _ (belI_call hW hb) (fun hW => ?_)
     clear hK
     (try simp only [Act.put]); (try simp only [zPa]); (try simp only [zPb, zPc])
     refine wpAnyH_ready (rs := [5]) (by kernel_rfl) (by simp) ?_
     refine (AllReadyH.cons rfl (fun K hK => ?_) AllReadyH.nil)
     ·rw [if_pos (by kernel_rfl)]
      (try simp only [zGa]); (try simp only [zGb]); (try simp only [zGc])
      refine wp_store_im 114 size71 (.tmp 7) (.tmp 15) rfl b7 0 0 (.slice none 0 0) W H Ao L.length co rfl rfl G7 ?_
      intro W3 I7 hg7
      replace G7 := I7
      replace G8 := G8.grown hg7 (fun e => n78 (by injection e with e; exact e.symm))
      replace hown := hown.kept hg7 (ownI_ne n7)
      refine hK.out _ _ (hW.grown hg7 hW.size (fun k hk => by injection hk with hk; omega)) (fun hW => ?_)
      clear hK
      (try simp only [Act.put]); (try simp only [zPa]); (try simp only [zPb, zPc])
      refine wpAnyH_ready (rs := [6]) (by kernel_rfl) (by simp) ?_
      refine (AllReadyH.cons rfl (fun K hK => ?_) AllReadyH.nil)
      ·rw [if_pos (by kernel_rfl)]
       (try simp only [zGa]); (try simp only [zGb]); (try simp only [zGc])
       refine wp_store_im 114 size71 (.tmp 8) (.tmp 16) rfl b8 0 0 (.slice none 0 0) W2 H2 (some ⟨gu, 0, none⟩) F.length cu rfl rfl G8 ?_
       intro W4 I8 hg8
       replace G7 := G7.grown hg8 (fun e => n78 (by injection e))
       replace G8 := I8
       replace hown := hown.kept hg8 (ownI_ne n8)
       refine hK.out _ _ (hW.grown hg8 hW.size (fun k hk => by injection hk with hk; omega)) (fun hW => ?_)
       clear hK
       (try simp only [Act.put]); (try simp only [zPa]); (try simp only [zPb, zPc])
       refine wpAnyH_done (by kernel_rfl) ?_ _
       go_wp2_with fail
       go_meet
       case rel => exact ⟨b7, b8, Ao, co, rfl, rfl, ⟨G7, G8, hown, n7, n8, n78, k7, k8, hW⟩⟩
  ·rw [if_pos (by kernel_rfl)]
   (try simp only [zGa]); (try simp only [zGb]); (try simp only [zGc])
   refine wp_alloc_im 114 zero71 8 rfl rfl ?_
   intro b8 W' hb G8 l8
   have k8 := Nat.le_trans hW.size l8
   refine hK.out _ _ (belI_call hW hb) (fun hW => ?_)
   clear hK
   (try simp only [Act.put]); (try simp only [zPa]); (try simp only [zPb, zPc])
   refine wpAnyH_ready (rs := [1, 3]) (by kernel_rfl) (by simp) ?_
   refine (AllReadyH.cons rfl (fun K hK => ?_) (AllReadyH.cons rfl (fun K hK => ?_) AllReadyH.nil))
   ·rw [if_pos (by kernel_rfl)]
    (try simp only [zGa]); (try simp only [zGb]); (try simp only [zGc])
    go_simp
    with_reducible refine (copiedI W H _ L _ Hm.out (hv0.call hW)).mono ?_
    rintro e W' ⟨vo, rfl, hown, hb⟩
    obtain ⟨Ao, co, hvo⟩ := ownI_shape hown
    subst hvo
    have n8 : ∀ k, (Value.slice Ao L.length co).ownBlock = some k → k ≠ b8 := fun k hk => by have := (hown.lt k hk).1; have := G8.lt; omega
    replace hown := hown.mono hW.size
    dsimp only
    have G8 := G8.call hb
    refine hK.out _ _ (belI_call hW hb) (fun hW => ?_)
    clear hK
    (try simp only [Act.put]); (try simp only [zPa]); (try simp only [zPb, zPc])
    refine wpAnyH_ready (rs := [3]) (by kernel_rfl) (by simp) ?_
    refine (AllReadyH.cons rfl (fun K hK => ?_) AllReadyH.nil)
    ·rw [if_pos (by kernel_rfl)]
     (try simp only [zGa]); (try simp only [zGb]); (try simp only [zGc])
     refine wp_alloc_im 114 zero71 7 rfl rfl ?_
     intro b7 W' hb G7 l7
     have k7 := Nat.le_trans hW.size l7
     have n78 : b7 ≠ b8 := by have := G8.lt; omega
     have n7 : ∀ k, (Value.slice Ao L.length co).ownBlock = some k → k ≠ b7 := fun k hk => by have := (hown.lt k hk).2; omega
     have G8 := G8.call hb
     have hown := ownI_call hown hb
     refine hK.out _ _ (belI_call hW hb) (fun hW => ?_)
     clear hK
     (try simp only [Act.put]); (try simp only [zPa]); (try simp only [zPb, zPc])
     refine wpAnyH_ready (rs := [5]) (by kernel_rfl) (by simp) ?_
     refine (AllReadyH.cons rfl (fun K hK => ?_) AllReadyH.nil)
     ·rw [if_pos (by kernel_rfl)]
      (try simp only [zGa]); (try simp only [zGb]); (try simp only [zGc])
      refine wp_store_im 114 size71 (.tmp 7) (.tmp 15) rfl b7 0 0 (.slice none 0 0) W H Ao L.length co rfl rfl G7 ?_
      intro W3 I7 hg7
      replace G8 := G8.grown hg7 (fun e => n78 (by injection e with e; exact e.symm))
      replace hown := hown.kept hg7 (ownI_ne n7)
      replace G7 := I7
      refine hK.out _ _ (hW.grown hg7 hW.size (fun k hk => by injection hk with hk; omega)) (fun hW => ?_)
      clear hK
      (try simp only [Act.put]); (try simp only [zPa]); (try simp only [zPb, zPc])
      refine wpAnyH_ready (rs := [6]) (by kernel_rfl) (by simp) ?_
      refine (AllReadyH.cons rfl (fun K hK => ?_) AllReadyH.nil)
      ·rw [if_pos (by kernel_rfl)]
       (try simp only [zGa]); (try simp only [zGb]); (try simp only [zGc])
       refine wp_store_im 114 size71 (.tmp 8) (.tmp 16) rfl b8 0 0 (.slice none 0 0) W2 H2 (some ⟨gu, 0, none⟩) F.length cu rfl rfl G8 ?_
       intro W4 I8 hg8
       replace G8 := I8
       replace hown := hown.kept hg8 (ownI_ne n8)
       replace G7 := G7.grown hg8 (fun e => n78 (by injection e))
       refine hK.out _ _ (hW.grown hg8 hW.size (fun k hk => by injection hk with hk; omega)) (fun hW => ?_)
       clear hK
       (try simp only [Act.put]); (try simp only [zPa]); (try simp only [zPb, zPc])
       refine wpAnyH_done (by kernel_rfl) ?_ _
       go_wp2_with fail
       go_meet
       case rel => exact ⟨b7, b8, Ao, co, rfl, rfl, ⟨G7, G8, hown, n7, n8, n78, k7, k8, hW⟩⟩
   ·rw [if_pos (by kernel_rfl)]
    (try simp only [zGa]); (try simp only [zGb]); (try simp only [zGc])
    refine wp_alloc_im 114 zero71 7 rfl rfl ?_
    intro b7 W' hb G7 l7
    have k7 := Nat.le_trans hW.size l7
    have n78 : b7 ≠ b8 := by have := G8.lt; omega
    have G8 := G8.call hb
    refine hK.out _ _ (belI_call hW hb) (fun hW => ?_)
    clear hK
    (try simp only [Act.put]); (try simp only [zPa]); (try simp only [zPb, zPc])
    refine wpAnyH_ready (rs := [1]) (by kernel_rfl) (by simp) ?_
    refine (AllReadyH.cons rfl (fun K hK => ?_) AllReadyH.nil)
    ·rw [if_pos (by kernel_rfl)]
     (try simp only [zGa]); (try simp only [zGb]); (try simp only [zGc])
     go_simp
     with_reducible refine (copiedI W H _ L _ Hm.out (hv0.call hW)).mono ?_
     rintro e W' ⟨vo, rfl, hown, hb⟩
     obtain ⟨Ao, co, hvo⟩ := ownI_shape hown
     subst hvo
     have n7 : ∀ k, (Value.slice Ao L.length co).ownBlock = some k → k ≠ b7 := fun k hk => by have := (hown.lt k hk).1; have := G7.lt; omega
     have n8 : ∀ k, (Value.slice Ao L.length co).ownBlock = some k → k ≠ b8 := fun k hk => by have := (hown.lt k hk).1; have := G8.lt; omega
     replace hown := hown.mono hW.size
     dsimp only
     have G8 := G8.call hb
     have G7 := G7.call hb
     refine hK.out _ _ (belI_call hW hb) (fun hW => ?_)
     clear hK
     (try simp only [Act.put]); (try simp only [zPa]); (try simp only [zPb, zPc])
     refine wpAnyH_ready (rs := [5]) (by kernel_rfl) (by simp) ?_
     refine (AllReadyH.cons rfl (fun K hK => ?_) AllReadyH.nil)
     ·rw [if_pos (by kernel_rfl)]
      (try simp only [zGa]); (try simp only [zGb]); (try simp only [zGc])
      refine wp_store_im 114 size71 (.tmp 7) (.tmp 15) rfl b7 0 0 (.slice none 0 0) W H Ao L.length co rfl rfl G7 ?_
      intro W3 I7 hg7
      replace G8 := G8.grown hg7 (fun e => n78 (by injection e with e; exact e.symm))
      replace G7 := I7
      replace hown := hown.kept hg7 (ownI_ne n7)
      refine hK.out _ _ (hW.grown hg7 hW.size (fun k hk => by injection hk with hk; omega)) (fun hW => ?_)
      clear hK
      (try simp only [Act.put]); (try simp only [zPa]); (try simp only [zPb, zPc])
      refine wpAnyH_ready (rs := [6]) (by kernel_rfl) (by simp) ?_
      refine (AllReadyH.cons rfl (fun K hK => ?_) AllReadyH.nil)
      ·rw [if_pos (by kernel_rfl)]
       (try simp only [zGa]); (try simp only [zGb]); (try simp only [zGc])
       refine wp_store_im 114 size71 (.tmp 8) (.tmp 16) rfl b8 0 0 (.slice none 0 0) W2 H2 (some ⟨gu, 0, none⟩) F.length cu rfl rfl G8 ?_
       intro W4 I8 hg8
       replace G8 := I8
       replace G7 := G7.grown hg8 (fun e => n78 (by injection e))
       replace hown := hown.kept hg8 (ownI_ne n8)
       refine hK.out _ _ (hW.grown hg8 hW.size (fun k hk => by injection hk with hk; omega)) (fun hW => ?_)
       clear hK
       (try simp only [Act.put]); (try simp only [zPa]); (try simp only [zPb, zPc])
       refine wpAnyH_done (by kernel_rfl) ?_ _
       go_wp2_with fail
       go_meet
       case rel => exact ⟨b7, b8, Ao, co, rfl, rfl, ⟨G7, G8, hown, n7, n8, n78, k7, k8, hW⟩⟩
 case rest =>
  obtain ⟨b7, b8, Ao, co, rfl, rfl, hT⟩ := hcut
  obtain ⟨gq, cq, hvq, hgq, hgq2⟩ := hT.own.form hL0
  injection hvq with e1 _ e3
  subst e1 e3
  have hv := hv0.call hT.bw
  replace hS := hS.call hT.bw
  clear hv0
  obtain ⟨a0, a1, a2⟩ := hS.a.cells
  go_wp2_with fail
  refine (imI W H _ L _ hv).mono ?_
  rintro e w2 ⟨rfl, hb⟩
  replace hS := hS.call hb
  replace hT := hT.call hb
  clear hb hv a0 a1 a2
  rw [imB_yes Ho.out]
  obtain ⟨b0, b1, b2⟩ := hS.b.cells
  go_wp2_with fail
  refine (imI W2 H2 _ F _ hS.ru).mono ?_
  rintro e w3 ⟨rfl, hb⟩
  replace hS := hS.call hb
  replace hT := hT.call hb
  clear hb b0 b1 b2
  rw [imB_yes Ho2.out]
  have c0 := hS.c.cell
  go_wp2_with fail
  refine (rokI _ R _ hS.rr).mono ?_
  rintro e W0 ⟨rfl, hb⟩
  replace hS := hS.call hb
  replace hT := hT.call hb
  clear hb c0
  rw [Ho3.out]
  obtain ⟨M, hM⟩ : ∃ M, M = min H H2 := ⟨_, rfl⟩
  obtain ⟨M2, hM2⟩ : ∃ M2, M2 = min W W2 := ⟨_, rfl⟩
  have q1 : 1 ≤ M ∧ M ≤ H ∧ M ≤ H2 ∧ M ≤ 16 := by omega
  have q2 : 1 ≤ M2 ∧ M2 ≤ W ∧ M2 ≤ W2 ∧ M2 ≤ 16 := by omega
  obtain ⟨q3, q4, q5, q6⟩ := q1
  obtain ⟨q7, q8, q9, q10⟩ := q2
  have HF4 : Hid (∀ V : World, Calls Tryz.prog 147 #[.agg #[.int .i64 0, .int .i64 0, .int .i64 W, .int .i64 H], .agg #[.int .i64 0, .int .i64 0, .int .i64 W2, .int .i64 H2]] V fun e w' => e = .returned (.agg #[.int .i64 0, .int .i64 0, .int .i64 M2, .int .i64 M]) ∧ Below V.heap.size V w') := Lib.hid (fun V => by
   refine (isectI_any ⟨0, 0, W, H⟩ ⟨0, 0, W2, H2⟩ V).mono ?_
   rintro e w' ⟨rfl, hb⟩
   rw [frame_isect W H W2 H2 wl wh hl1 hl2 wl2 wh2 hl3 hl4, ← hM, ← hM2]
   exact ⟨rfl, hb⟩)
  have HM := Lib.hid hM
  have HM2 := Lib.hid hM2
  clear hM hM2
  obtain ⟨o0, o1, o2⟩ := hT.t7.cells
  obtain ⟨p0, p1, p2⟩ := hT.t8.cells
  go_upto_region 4 with fail
  clear o0 o1 o2 p0 p1 p2
  go_cut [9] (fun s9 wx => ∃ b9 : Nat, s9 = .pointer (some ⟨b9, 0, none⟩) ∧ RcAt wx b9 ⟨0, 0, M2, M⟩ ∧ W0.heap.size ≤ b9 ∧ Below W0.heap.size W0 wx)
  case first =>
   refine wp_region_held_drew (S := fun W => Below W0.heap.size W0 W) (by kernel_rfl) (Below.refl _ _).drew (fun hW => ?_)
   refine tcH (i := 0) (v := .agg #[.int .i64 W, .int .i64 H, .slice (some ⟨gq, 0, none⟩) L.length co]) rfl (by intro w' hSw; (try dsimp only at hSw); (obtain ⟨o0, o1, o2⟩ := (hT.call hSw).t7.cells); (obtain ⟨p0, p1, p2⟩ := (hT.call hSw).t8.cells); go_simp) ?_
   refine tcH (i := 2) (v := .agg #[.int .i64 W2, .int .i64 H2, .slice (some ⟨gu, 0, none⟩) F.length cu]) rfl (by intro w' hSw; (try dsimp only at hSw); (obtain ⟨o0, o1, o2⟩ := (hT.call hSw).t7.cells); (obtain ⟨p0, p1, p2⟩ := (hT.call hSw).t8.cells); go_simp) ?_
   (try simp only [Act.put]); (try simp only [zPa]); (try simp only [zPb, zPc])
   refine wpAnyH_ready (rs := [1, 5]) (by kernel_rfl) (by simp) ?_
   refine (AllReadyH.cons rfl (fun K hK => ?_) (AllReadyH.cons rfl (fun K hK => ?_) AllReadyH.nil))
   ·rw [if_pos (by kernel_rfl)]
    (try simp only [zGa]); (try simp only [zGb]); (try simp only [zGc])
    go_simp
    with_reducible refine (frameI W H _ _ _ _).mono ?_
    rintro e W' ⟨rfl, hb⟩
    dsimp only
    refine hK.out _ _ (belI_call hW hb) (fun hW => ?_)
    clear hK
    (try simp only [Act.put]); (try simp only [zPa]); (try simp only [zPb, zPc])
    refine wpAnyH_ready (rs := [3, 5]) (by kernel_rfl) (by simp) ?_
    refine (AllReadyH.cons rfl (fun K hK => ?_) (AllReadyH.cons rfl (fun K hK => ?_) AllReadyH.nil))
    ·rw [if_pos (by kernel_rfl)]
     (try simp only [zGa]); (try simp only [zGb]); (try simp only [zGc])
     go_simp
     with_reducible refine (frameI W2 H2 _ _ _ _).mono ?_
     rintro e W' ⟨rfl, hb⟩
     dsimp only
     refine hK.out _ _ (belI_call hW hb) (fun hW => ?_)
     clear hK
     (try simp only [Act.put]); (try simp only [zPa]); (try simp only [zPb, zPc])
     refine wpAnyH_ready (rs := [4, 5]) (by kernel_rfl) (by simp) ?_
     refine (AllReadyH.cons rfl (fun K hK => ?_) (AllReadyH.cons rfl (fun K hK => ?_) AllReadyH.nil))
     ·rw [if_pos (by kernel_rfl)]
      (try simp only [zGa]); (try simp only [zGb]); (try simp only [zGc])
      go_simp
      with_reducible refine (HF4.out _).mono ?_
      rintro e W' ⟨rfl, hb⟩
      dsimp only
      refine hK.out _ _ (belI_call hW hb) (fun hW => ?_)
      clear hK
      (try simp only [Act.put]); (try simp only [zPa]); (try simp only [zPb, zPc])
      refine wpAnyH_ready (rs := [5]) (by kernel_rfl) (by simp) ?_
      refine (AllReadyH.cons rfl (fun K hK => ?_) AllReadyH.nil)
      ·rw [if_pos (by kernel_rfl)]
       (try simp only [zGa]); (try simp only [zGb]); (try simp only [zGc])
       refine wp_alloc_rc 9 rfl rfl ?_
       intro b9 W' hb G9 l9
       have k9 := Nat.le_trans hW.size l9
       refine hK.out _ _ (belI_call hW hb) (fun hW => ?_)
       clear hK
       (try simp only [Act.put]); (try simp only [zPa]); (try simp only [zPb, zPc])
       refine wpAnyH_ready (rs := [6]) (by kernel_rfl) (by simp) ?_
       refine (AllReadyH.cons rfl (fun K hK => ?_) AllReadyH.nil)
       ·rw [if_pos (by kernel_rfl)]
        (try simp only [zGa]); (try simp only [zGb]); (try simp only [zGc])
        refine wp_store_rc (.tmp 9) (.tmp 35) rfl b9 ⟨0, 0, 0, 0⟩ ⟨0, 0, M2, M⟩ rfl rfl G9 ?_
        intro W3 I9 hg9
        skip
        refine hK.out _ _ (hW.grown hg9 hW.size (fun k hk => by injection hk with hk; omega)) (fun hW => ?_)
        clear hK
        (try simp only [Act.put]); (try simp only [zPa]); (try simp only [zPb, zPc])
        refine wpAnyH_done (by kernel_rfl) ?_ _
        go_wp2_with fail
        go_meet
        case rel => exact ⟨b9, rfl, I9, k9, hW⟩
     ·rw [if_pos (by kernel_rfl)]
      (try simp only [zGa]); (try simp only [zGb]); (try simp only [zGc])
      refine wp_alloc_rc 9 rfl rfl ?_
      intro b9 W' hb G9 l9
      have k9 := Nat.le_trans hW.size l9
      refine hK.out _ _ (belI_call hW hb) (fun hW => ?_)
      clear hK
      (try simp only [Act.put]); (try simp only [zPa]); (try simp only [zPb, zPc])
      refine wpAnyH_ready (rs := [4]) (by kernel_rfl) (by simp) ?_
      refine (AllReadyH.cons rfl (fun K hK => ?_) AllReadyH.nil)
      ·rw [if_pos (by kernel_rfl)]
       (try simp only [zGa]); (try simp only [zGb]); (try simp only [zGc])
       go_simp
       with_reducible refine (HF4.out _).mono ?_
       rintro e W' ⟨rfl, hb⟩
       dsimp only
       have G9 := G9.below hb G9.lt
       refine hK.out _ _ (belI_call hW hb) (fun hW => ?_)
       clear hK
       (try simp only [Act.put]); (try simp only [zPa]); (try simp only [zPb, zPc])
       refine wpAnyH_ready (rs := [6]) (by kernel_rfl) (by simp) ?_
       refine (AllReadyH.cons rfl (fun K hK => ?_) AllReadyH.nil)
       ·rw [if_pos (by kernel_rfl)]
        (try simp only [zGa]); (try simp only [zGb]); (try simp only [zGc])
        refine wp_store_rc (.tmp 9) (.tmp 35) rfl b9 ⟨0, 0, 0, 0⟩ ⟨0, 0, M2, M⟩ rfl rfl G9 ?_
        intro W3 I9 hg9
        skip
        refine hK.out _ _ (hW.grown hg9 hW.size (fun k hk => by injection hk with hk; omega)) (fun hW => ?_)
        clear hK
        (try simp only [Act.put]); (try simp only [zPa]); (try simp only [zPb, zPc])
        refine wpAnyH_done (by kernel_rfl) ?_ _
        go_wp2_with fail
        go_meet
        case rel => exact ⟨b9, rfl, I9, k9, hW⟩
    ·rw [if_pos (by kernel_rfl)]
     (try simp only [zGa]); (try simp only [zGb]); (try simp only [zGc])
     refine wp_alloc_rc 9 rfl rfl ?_
     intro b9 W' hb G9 l9
     have k9 := Nat.le_trans hW.size l9
     refine hK.out _ _ (belI_call hW hb) (fun hW => ?_)
     clear hK
     (try simp only [Act.put]); (try simp only [zPa]); (try simp only [zPb, zPc])
     refine wpAnyH_ready (rs := [3]) (by kernel_rfl) (by simp) ?_
     refine (AllReadyH.cons rfl (fun K hK => ?_) AllReadyH.nil)
     ·rw [if_pos (by kernel_rfl)]
      (try simp only [zGa]); (try simp only [zGb]); (try simp only [zGc])
      go_simp
      with_reducible refine (frameI W2 H2 _ _ _ _).mono ?_
      rintro e W' ⟨rfl, hb⟩
      dsimp only
      have G9 := G9.below hb G9.lt
      refine hK.out _ _ (belI_call hW hb) (fun hW => ?_)
      clear hK
      (try simp only [Act.put]); (try simp only [zPa]); (try simp only [zPb, zPc])
      refine wpAnyH_ready (rs := [4]) (by kernel_rfl) (by simp) ?_
      refine (AllReadyH.cons rfl (fun K hK => ?_) AllReadyH.nil)
      ·rw [if_pos (by kernel_rfl)]
       (try simp only [zGa]); (try simp only [zGb]); (try simp only [zGc])
       go_simp
       with_reducible refine (HF4.out _).mono ?_
       rintro e W' ⟨rfl, hb⟩
       dsimp only
       have G9 := G9.below hb G9.lt
       refine hK.out _ _ (belI_call hW hb) (fun hW => ?_)
       clear hK
       (try simp only [Act.put]); (try simp only [zPa]); (try simp only [zPb, zPc])
       refine wpAnyH_ready (rs := [6]) (by kernel_rfl) (by simp) ?_
       refine (AllReadyH.cons rfl (fun K hK => ?_) AllReadyH.nil)
       ·rw [if_pos (by kernel_rfl)]
        (try simp only [zGa]); (try simp only [zGb]); (try simp only [zGc])
        refine wp_store_rc (.tmp 9) (.tmp 35) rfl b9 ⟨0, 0, 0, 0⟩ ⟨0, 0, M2, M⟩ rfl rfl G9 ?_
        intro W3 I9 hg9
        skip
        refine hK.out _ _ (hW.grown hg9 hW.size (fun k hk => by injection hk with hk; omega)) (fun hW => ?_)
        clear hK
        (try simp only [Act.put]); (try simp only [zPa]); (try simp only [zPb, zPc])
        refine wpAnyH_done (by kernel_rfl) ?_ _
        go_wp2_with fail
        go_meet
        case rel => exact ⟨b9, rfl, I9, k9, hW⟩
   ·rw [if_pos (by kernel_rfl)]
    (try simp only [zGa]); (try simp only [zGb]); (try simp only [zGc])
    refine wp_alloc_rc 9 rfl rfl ?_
    intro b9 W' hb G9 l9
    have k9 := Nat.le_trans hW.size l9
    refine hK.out _ _ (belI_call hW hb) (fun hW => ?_)
    clear hK
    (try simp only [Act.put]); (try simp only [zPa]); (try simp only [zPb, zPc])
    refine wpAnyH_ready (rs := [1]) (by kernel_rfl) (by simp) ?_
    refine (AllReadyH.cons rfl (fun K hK => ?_) AllReadyH.nil)
    ·rw [if_pos (by kernel_rfl)]
     (try simp only [zGa]); (try simp only [zGb]); (try simp only [zGc])
     go_simp
     with_reducible refine (frameI W H _ _ _ _).mono ?_
     rintro e W' ⟨rfl, hb⟩
     dsimp only
     have G9 := G9.below hb G9.lt
     refine hK.out _ _ (belI_call hW hb) (fun hW => ?_)
     clear hK
     (try simp only [Act.put]); (try simp only [zPa]); (try simp only [zPb, zPc])
     refine wpAnyH_ready (rs := [3]) (by kernel_rfl) (by simp) ?_
     refine (AllReadyH.cons rfl (fun K hK => ?_) AllReadyH.nil)
     ·rw [if_pos (by kernel_rfl)]
      (try simp only [zGa]); (try simp only [zGb]); (try simp only [zGc])
      go_simp
      with_reducible refine (frameI W2 H2 _ _ _ _).mono ?_
      rintro e W' ⟨rfl, hb⟩
      dsimp only
      have G9 := G9.below hb G9.lt
      refine hK.out _ _ (belI_call hW hb) (fun hW => ?_)
      clear hK
      (try simp only [Act.put]); (try simp only [zPa]); (try simp only [zPb, zPc])
      refine wpAnyH_ready (rs := [4]) (by kernel_rfl) (by simp) ?_
      refine (AllReadyH.cons rfl (fun K hK => ?_) AllReadyH.nil)
      ·rw [if_pos (by kernel_rfl)]
       (try simp only [zGa]); (try simp only [zGb]); (try simp only [zGc])
       go_simp
       with_reducible refine (HF4.out _).mono ?_
       rintro e W' ⟨rfl, hb⟩
       dsimp only
       have G9 := G9.below hb G9.lt
       refine hK.out _ _ (belI_call hW hb) (fun hW => ?_)
       clear hK
       (try simp only [Act.put]); (try simp only [zPa]); (try simp only [zPb, zPc])
       refine wpAnyH_ready (rs := [6]) (by kernel_rfl) (by simp) ?_
       refine (AllReadyH.cons rfl (fun K hK => ?_) AllReadyH.nil)
       ·rw [if_pos (by kernel_rfl)]
        (try simp only [zGa]); (try simp only [zGb]); (try simp only [zGc])
        refine wp_store_rc (.tmp 9) (.tmp 35) rfl b9 ⟨0, 0, 0, 0⟩ ⟨0, 0, M2, M⟩ rfl rfl G9 ?_
        intro W3 I9 hg9
        skip
        refine hK.out _ _ (hW.grown hg9 hW.size (fun k hk => by injection hk with hk; omega)) (fun hW => ?_)
        clear hK
        (try simp only [Act.put]); (try simp only [zPa]); (try simp only [zPb, zPc])
        refine wpAnyH_done (by kernel_rfl) ?_ _
        go_wp2_with fail
        go_meet
        case rel => exact ⟨b9, rfl, I9, k9, hW⟩
  case rest =>
   obtain ⟨b9, rfl, h9, k9, hW⟩ := hcut
   have hT0 := hT
   replace hS := hS.call hW
   replace hT := hT.call hW
   have hg0 := (hT.own.lt gq rfl).2
   have n7 : some b7 ≠ some gq := fun e => hT.n7 gq rfl (by injection e with e; exact e.symm)
   have n8 : some b8 ≠ some gq := fun e => hT.n8 gq rfl (by injection e with e; exact e.symm)
   have n9 : some b9 ≠ some gq := fun e => by injection e with e; have := hgq2; have := (hT0.own.lt gq rfl).2; omega
   have nd : some (w.heap.size + 3) ≠ some gq := fun e => by injection e with e; omega
   have nc : some (w.heap.size + 2) ≠ some gq := fun e => by injection e with e; omega
   have nu : some gu ≠ some gq := fun e => by injection e with e; omega
   obtain ⟨V1, hV1⟩ : ∃ V1, V1 = wc := ⟨_, rfl⟩
   subst hV1
   obtain ⟨nR, hnR⟩ : ∃ nR, nR = R.length := ⟨_, rfl⟩
   have hnR2 : nR ≤ 9223372036854775807 := by have := HR0.out.len; unfold maxLen at this; omega
   rw [← hnR] at hS
   have HnR := Lib.hid hnR
   have Hown : Hid (V1.ownsRow w0.heap.size 3 1 (.slice (some ⟨gq, 0, none⟩) L.length co) L.length (intCells (tabI L.length (copyF W W2 H2 L F (gridOf (R.take 0)))))) := Lib.hid (by
    have h := hT.own
    rw [tabI_congr L.length (fun k _ => copyF_none W W2 H2 L F R k), ← tabI_self]
    exact h)
   have Hgr : Hid (V1.grownBy V1 (some gq)) := Lib.hid (World.grownBy.refl _ _)
   have HS := Lib.hid hS
   have HT := Lib.hid hT
   have H9 := Lib.hid h9
   have Hn7 := Lib.hid n7
   have Hn8 := Lib.hid n8
   have Hn9 := Lib.hid n9
   have Hnd := Lib.hid nd
   have HNu := Lib.hid nu
   have cc := hS.c.cell
   clear hS hT h9 n7 n8 n9 nd nc nu hT0 hnR
   rw [← HnR.out] at HR0
   go_wp2_with fail
   go_loopg [39] nR (fun g39 s39 wr => ∃ (k : Nat) (V : World), V = wr ∧ k ≤ nR ∧ g39 = nR - k ∧ s39 = .int .i64 k ∧ Hid (V.ownsRow w0.heap.size 3 1 (.slice (some ⟨gq, 0, none⟩) L.length co) L.length (intCells (tabI L.length (copyF W W2 H2 L F (gridOf (R.take k)))))) ∧ Hid (V1.grownBy V (some gq)))
   case atStart => exact ⟨0, _, rfl, Nat.zero_le _, rfl, rfl, Hown, Hgr⟩
   case round =>
    clear Hown Hgr
    obtain ⟨k, Vk, hV, hk, rfl, rfl, Hown, Hgr⟩ := hrel
    subst hV
    by_cases hkn : k < nR
    ·obtain ⟨gv, r, rfl, hr, hC⟩ := HR0.out.at_ (k := k) (by rw [← HnR.out]; exact hkn)
     have hgv := hC.lt
     have hC2 : C4 Vk gv (k * 4) r := (hC.call HS.out.bw).kept (Hgr.out.block gv (by have := HS.out.bw.size; omega) (fun e => by injection e with e; omega))
     have Hr := Lib.hid hr
     have h9k := (H9.out.grownI Hgr.out Hn9.out)
     have k0 : (0 : Int) ≤ (k : Int) := by omega
     have k1 : (k : Int) < (nR : Int) := by omega
     obtain ⟨s0, s1, s2, s3⟩ := (h9k.alloc (.cells #[.int .i64 r.x, .int .i64 r.y, .int .i64 r.w, .int .i64 r.h] 111)).cells
     obtain ⟨c0, c1, c2, c3'⟩ := hC2.cells
     clear hr hC hC2 h9k
     go_wp2_with fail
     refine (partI r M2 M q7 q10 q3 q6 _).mono ?_
     rintro e wk ⟨⟨X, Y, n, h, rfl, hXM, hYM, hh, HI⟩, hbk⟩
     have hgk : Hid (V1.grownBy wk (some gq)) := Lib.hid (grown_below (grown_below Hgr.out (belI_box _ _)) hbk)
     have hok : Hid (wk.ownsRow w0.heap.size 3 1 (.slice (some ⟨gq, 0, none⟩) L.length co) L.length (intCells (tabI L.length (copyF W W2 H2 L F (gridOf (R.take k)))))) := Lib.hid (ownI_call (ownI_call Hown.out (belI_box _ _)) hbk)
     clear c0 c1 c2 c3' s0 s1 s2 s3 hbk
     have hzk : V1.heap.size ≤ wk.heap.size := hgk.out.size
     have hX16 : X + n ≤ 16 := by omega
     have hY16 : Y + h ≤ 16 := by omega
     have hgk2 : Hid (V1.grownBy (wk.alloc (.cells #[.int .i64 X, .int .i64 Y, .int .i64 n, .int .i64 h] 111)) (some gq)) := Lib.hid (grown_below hgk.out (belI_box _ _))
     have hok2 : Hid ((wk.alloc (.cells #[.int .i64 X, .int .i64 Y, .int .i64 n, .int .i64 h] 111)).ownsRow w0.heap.size 3 1 (.slice (some ⟨gq, 0, none⟩) L.length co) L.length (intCells (tabI L.length (copyR W W2 F (copyF W W2 H2 L F (gridOf (R.take k))) X Y n Y)))) := Lib.hid (by
      rw [tabI_congr L.length (fun q _ => copyR_start W W2 F (copyF W W2 H2 L F (gridOf (R.take k))) X Y n q)]
      exact ownI_call hok.out (belI_box _ _))
     have h12 := RcAt.new wk ⟨X, Y, n, h⟩
     go_wp2_with fail
     go_loopg [13] h (fun g13 s13 wy => ∃ (y : Nat) (V : World), V = wy ∧ Y ≤ y ∧ y ≤ Y + h ∧ g13 = Y + h - y ∧ s13 = .int .i64 y ∧ RcAt V wk.heap.size ⟨X, Y, n, h⟩ ∧ Hid (V.ownsRow w0.heap.size 3 1 (.slice (some ⟨gq, 0, none⟩) L.length co) L.length (intCells (tabI L.length (copyR W W2 F (copyF W W2 H2 L F (gridOf (R.take k))) X Y n y)))) ∧ Hid (V1.grownBy V (some gq)))
     case atStart => exact ⟨Y, _, rfl, Nat.le_refl _, by omega, by omega, rfl, h12, hok2, hgk2⟩
     case round =>
      clear hok2 hgk2 h12 hok hgk Hown Hgr
      obtain ⟨y, Vy, hV, hy1, hy2, rfl, rfl, h12, Hown, Hgr⟩ := hrel
      subst hV
      obtain ⟨r0, r1, r2, r3⟩ := h12.cells
      go_wp2_with fail
      refine (bottom_nat X Y n h hX16 hY16 _).mono ?_
      rintro e wb ⟨rfl, hbb⟩
      have K12 := Lib.hid (h12.below hbb h12.lt)
      have hown := ownI_call Hown.out hbb
      have Hgr2 := Lib.hid (grown_below Hgr.out hbb)
      obtain ⟨r0', r1', r2', r3'⟩ := K12.out.cells
      clear hbb r0 r1 r2 r3 h12 Hown Hgr
      by_cases hyl : y < Y + h
      ·have hyi : (y : Int) < (Y : Int) + (h : Int) := by omega
       have hn1 : 1 ≤ n := by omega
       have hy15 : y ≤ 15 := by omega
       obtain ⟨m, hm⟩ : ∃ m, y * W = m := ⟨_, rfl⟩
       obtain ⟨m2, hm2⟩ : ∃ m2, y * W2 = m2 := ⟨_, rfl⟩
       have hXW : X + n ≤ W := by omega
       have hXW2 : X + n ≤ W2 := by omega
       have hN1 : m + W ≤ L.length := by rw [← hm, HL.out]; have h1 := plc_lt (W := W) (H := H) (x := W - 1) (y := y) (by omega) (by omega); omega
       have hN2 : m2 + W2 ≤ F.length := by rw [← hm2, HF.out]; have h1 := plc_lt (W := W2) (H := H2) (x := W2 - 1) (y := y) (by omega) (by omega); omega
       have hfit : m + X + n ≤ L.length := by omega
       have hF3 : m2 + X + n ≤ F.length := by omega
       have hNc : L.length ≤ co := own_cap hown
       have Hm1 := Lib.hid hm
       have Hm2' := Lib.hid hm2
       have Hr12 : Hid ((⟨X, Y, n, h⟩ : Rc).ok) := Lib.hid (by unfold Rc.ok; dsimp only; omega)
       have KT7 := Lib.hid (HT.out.t7.grown Hgr2.out Hn7.out)
       have KT8 := Lib.hid (HT.out.t8.grown Hgr2.out Hn8.out)
       have KF := Lib.hid (HS.out.ru.grown Hgr2.out (fun g hg => by have e : some gu = some g := hg; injection e with e; subst e; exact HNu.out))
       have HN7 := Hn7
       have HN8 := Hn8
       have HN12 : Hid (some wk.heap.size ≠ some gq) := Lib.hid (fun e => by injection e with e; omega)
       have Hgr := Hgr2
       obtain ⟨t0, t1, t2⟩ := KT7.out.cells
       obtain ⟨u0, u1, u2⟩ := KT8.out.cells
       clear hm hm2
       go_wp2_with fail
       refine wp_region_held_drew (S := fun V => wb.grownBy V (some gq)) (by kernel_rfl) (grown_drewI wb _) (fun hS => ?_)
       replace hown := hown.drew
       refine tcH (i := 0) (v := .agg #[.int .i64 W, .int .i64 H, .slice (some ⟨gq, 0, none⟩) L.length co]) rfl (by intro w' hSw; (try dsimp only at hSw); (obtain ⟨o0, o1, o2⟩ := (KT7.out.grown hSw HN7.out).cells); (obtain ⟨p0, p1, p2⟩ := (KT8.out.grown hSw HN8.out).cells); (obtain ⟨r0, r1, r2, r3⟩ := (K12.out.grownI hSw HN12.out).cells); go_simp) ?_
       refine tcH (i := 1) (v := .agg #[.int .i64 X, .int .i64 Y, .int .i64 n, .int .i64 h]) rfl (by intro w' hSw; (try dsimp only at hSw); (obtain ⟨o0, o1, o2⟩ := (KT7.out.grown hSw HN7.out).cells); (obtain ⟨p0, p1, p2⟩ := (KT8.out.grown hSw HN8.out).cells); (obtain ⟨r0, r1, r2, r3⟩ := (K12.out.grownI hSw HN12.out).cells); go_simp) ?_
       refine tcH (i := 2) (v := .int .i64 y) rfl (by intro w' hSw; (try dsimp only at hSw); (obtain ⟨o0, o1, o2⟩ := (KT7.out.grown hSw HN7.out).cells); (obtain ⟨p0, p1, p2⟩ := (KT8.out.grown hSw HN8.out).cells); (obtain ⟨r0, r1, r2, r3⟩ := (K12.out.grownI hSw HN12.out).cells); go_simp) ?_
       refine tcH (i := 4) (v := .agg #[.int .i64 W2, .int .i64 H2, .slice (some ⟨gu, 0, none⟩) F.length cu]) rfl (by intro w' hSw; (try dsimp only at hSw); (obtain ⟨o0, o1, o2⟩ := (KT7.out.grown hSw HN7.out).cells); (obtain ⟨p0, p1, p2⟩ := (KT8.out.grown hSw HN8.out).cells); (obtain ⟨r0, r1, r2, r3⟩ := (K12.out.grownI hSw HN12.out).cells); go_simp) ?_
       refine tcH (i := 5) (v := .agg #[.int .i64 X, .int .i64 Y, .int .i64 n, .int .i64 h]) rfl (by intro w' hSw; (try dsimp only at hSw); (obtain ⟨o0, o1, o2⟩ := (KT7.out.grown hSw HN7.out).cells); (obtain ⟨p0, p1, p2⟩ := (KT8.out.grown hSw HN8.out).cells); (obtain ⟨r0, r1, r2, r3⟩ := (K12.out.grownI hSw HN12.out).cells); go_simp) ?_
       refine tcH (i := 6) (v := .int .i64 y) rfl (by intro w' hSw; (try dsimp only at hSw); (obtain ⟨o0, o1, o2⟩ := (KT7.out.grown hSw HN7.out).cells); (obtain ⟨p0, p1, p2⟩ := (KT8.out.grown hSw HN8.out).cells); (obtain ⟨r0, r1, r2, r3⟩ := (K12.out.grownI hSw HN12.out).cells); go_simp) ?_
       (try simp only [Act.put]); (try simp only [zPa]); (try simp only [zPb, zPc])
       refine wpAnyH_ready (rs := [3]) (by kernel_rfl) (by simp) ?_
       refine (AllReadyH.cons rfl (fun K hK => ?_) AllReadyH.nil)
       ·rw [if_pos (by kernel_rfl)]
        (try simp only [zGa]); (try simp only [zGb]); (try simp only [zGc])
        go_simp
        with_reducible refine (spanI W X n y m H Y h gq L.length co _ wh hy15 Hm1.out hN1 hNc hn1 hXW Hr12.out).mono ?_
        rintro e W' ⟨⟨c5, rfl⟩, hb⟩
        dsimp only
        have hown := ownI_call hown hb
        refine hK.out _ _ (grown_below hS hb) (fun hS => ?_)
        clear hK
        (try simp only [Act.put]); (try simp only [zPa]); (try simp only [zPb, zPc])
        refine wpAnyH_ready (rs := [7]) (by kernel_rfl) (by simp) ?_
        refine (AllReadyH.cons rfl (fun K hK => ?_) AllReadyH.nil)
        ·rw [if_pos (by kernel_rfl)]
         (try simp only [zGa]); (try simp only [zGb]); (try simp only [zGc])
         go_simp
         with_reducible refine (spanI W2 X n y m2 H2 Y h gu F.length cu _ wh2 hy15 Hm2'.out hN2 hcu hn1 hXW2 Hr12.out).mono ?_
         rintro e W' ⟨⟨c6, rfl⟩, hb⟩
         dsimp only
         have hown := ownI_call hown hb
         refine hK.out _ _ (grown_below hS hb) (fun hS => ?_)
         clear hK
         (try simp only [Act.put]); (try simp only [zPa]); (try simp only [zPb, zPc])
         refine wpAnyH_ready (rs := [8]) (by kernel_rfl) (by simp) ?_
         refine (AllReadyH.cons rfl (fun K hK => ?_) AllReadyH.nil)
         ·rw [if_pos (by kernel_rfl)]
          (try simp only [zGa]); (try simp only [zGb]); (try simp only [zGc])
          refine wp_copy_mine (.tmp 57) (.tmp 61) 53 53 (by rfl) 3 Tryz.underlying53 szInt w0.heap.size gq (m + X) L.length co n c5 ⟨gu, m2 + X, none⟩ n c6 _ (intCells (tabI n (fun i => F.getD (m2 + X + i) 0))) n (by rw [intCells_length, tabI_length]) rfl rfl hown (Nat.min_self n).symm (span_cells KF.out hS HNu.out hF3) hfit (intCells_one _) ?_
          intro W3 hown3 hg3
          skip
          refine hK.out _ _ (hS.trans hg3.out) (fun hS => ?_)
          clear hK
          (try simp only [Act.put]); (try simp only [zPa]); (try simp only [zPb, zPc])
          refine wpAnyH_done (by kernel_rfl) ?_ _
          go_wp2_with fail
          go_roundg (Y + h - (y + 1))
          case measure => omega
          case rel =>
           refine ⟨y + 1, _, rfl, by omega, by omega, rfl, by go_num, (K12.out.grownI hS HN12.out), ?_, Lib.hid (Hgr.out.trans hS)⟩
           have h5 := hown3.out
           rw [splice_tabI L.length _ (m + X) n _ hfit] at h5
           rw [← tabI_congr L.length (fun q _ => copyR_next W W2 F (copyF W W2 H2 L F (gridOf (R.take k))) X Y n y q hXW hy1), Hm1.out, Hm2'.out]
           exact h5
      ·have hyi : ¬ (y : Int) < (Y : Int) + (h : Int) := by omega
       obtain rfl : y = Y + h := by omega
       go_wp2_with fail
       go_roundg (nR - (k + 1))
       case measure => omega
       case rel =>
        refine ⟨k + 1, _, rfl, by omega, rfl, by go_num, ?_, Hgr2⟩
        have h5 := hown
        rw [tabI_congr L.length (fun q hq => copyR_part W H W2 H2 L F R r k X Y n h q ⟨wh, hl2⟩ Hr.out (by rw [← HL.out]; exact hq) (fun p q' hp hq' => by have e1 := HM.out; have e2 := HM2.out; rw [HI.out p q']; exact ⟨fun k => ⟨k.1, by omega, by omega⟩, fun k => ⟨k.1, by omega, by omega⟩⟩))] at h5
        exact h5
    ·have hkn' : k = nR := by omega
     subst hkn'
     have hS := HS.out
     obtain ⟨d0, d1, d2⟩ := (HS.out.d.grown Hgr.out Hnd.out).cells
     obtain ⟨o0, o1, o2⟩ := (HT.out.t7.grown Hgr.out Hn7.out).cells
     have f0 := (HS.out.d.grown Hgr.out Hnd.out).frozen 0
     have f1 := (HS.out.d.grown Hgr.out Hnd.out).frozen 1
     have f2 := (HS.out.d.grown Hgr.out Hnd.out).frozen 2
     clear hS
     go_wp2_with fail
     have j := (HS.out.d.grown Hgr.out Hnd.out).set3 W H (.slice (some ⟨gq, 0, none⟩) L.length co)
     obtain ⟨x0, x1, x2⟩ := j.cells
     refine bodyPost_ret (v := .agg #[.int .i64 W, .int .i64 H, .slice (some ⟨gq, 0, none⟩) L.length co]) (by simp [results, Tryz.results78, go_sem, x0, x1, x2]) rfl ?_
     unfold AnsIm
     rw [HA.out]
     refine ans_set (lo := w0.heap.size) (b := w.heap.size + 3) (n := L.length) ?_ (tabI_length _ _) (by omega) (by omega) (HS.out.bw.grown Hgr.out HS.out.bw.size (fun q hq => by injection hq with hq; omega))
     have h5 := Hown.out
     rw [List.take_of_length_le (by rw [← HnR.out]; exact Nat.le_refl _)] at h5
     exact h5
theorem copyI_any (X Y : Int) (v : Value) (L : List Int) (X2 Y2 : Int) (u : Value) (F : List Int) (vr : Value) (R : List Rc) (w : World) (hm : L.length ≤ 2097152) (hv : RdI w v L) (hu : RdI w u F) (hr : RdR w vr R) :
  Calls Tryz.prog 78 #[.agg #[.int .i64 X, .int .i64 Y, v], .agg #[.int .i64 X2, .int .i64 Y2, u], .agg #[vr]] w (AnsIm (copyIm X Y L X2 Y2 F R) w) := by
 by_cases h1 : imOk X Y L
 ·by_cases h2 : imOk X2 Y2 F
  ·rcases h3 : okL R with _ | _
   ·exact copyI_bad3 X Y v L X2 Y2 u F vr R w hm hv hu hr h1 h2 h3
   ·exact copyI_ok X Y v L X2 Y2 u F vr R w hm hv hu hr h1 h2 h3
  ·exact copyI_bad2 X Y v L X2 Y2 u F vr R w hm hv hu hr h1 h2
 ·exact copyI_bad1 X Y v L X2 Y2 u F vr R w hm hv hu hr h1
end Go.Proofs.YtokniebejilcbaaGreat
