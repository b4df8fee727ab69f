/- The contract of the program's FillRect. No statement is proved here. -/
import Derived.Test.YtmjndoedchiggaaMA
import Derived.Test.YtmjndoedchiggaaImR
import Derived.Test.YtmjndoedchiggaaImL
import Derived.Test.YtmjndoedchiggaaImN
import Derived.Test.YtmjndoedchiggaaImM
import Derived.Test.YtmjndoedchiggaaImD
import Derived.Test.YtmjndoedchiggaaImV
import Derived.Test.YtmjndoedchiggaaCpyB
import Derived.Test.YtmjndoedchiggaaCpyI
import Derived.Test.YtmjndoedchiggaaCpyJ
import Derived.Test.YtmjndoedchiggaaFilB
import Derived.Test.YtmjndoedchiggaaProg
import Derived.WalkKit
import Derived.ProofKit
import Derived.OpenShut
import Derived.WalkLawsBesides
import Derived.WalkSpells
import Derived.ShutString
import Derived.ChangeOld
import Derived.Below
import Derived.Lib.Hide
import Derived.BigQuiet
import Derived.Deep.QuietTactic
import Derived.Maps.AppendAt
import Derived.Deep.OwnRows
import Derived.Handy
import Derived.Deep.Draws
import Derived.OwnWalk
import Derived.Deep.AppendLies
import Derived.Deep.LoopGhost
import Derived.Deep.Onto
import Derived.Laws.BitsAllLaws
import Derived.Lib.QuoteBits
import Derived.Test.YtmjndoedchiggaaShelf
import Derived.Laws.CopyOwn
import Derived.Deep.RegionLaw
import Derived.Deep.RegionHeld3
import Derived.Deep.DeepCutAuto
import Derived.Great.BuildSlice
import Derived.Deep.MidRow
import Derived.Deep.WholeRow
import Derived.Laws.AppendOwn
namespace Go.Proofs.Ytmjndoedchiggaa
open Go.RowKit
set_option maxHeartbeats 1000000 in
set_option maxRecDepth 10000 in
theorem fillI_any (X Y : Int) (v : Value) (L : List Int) (r : Rc) (p : Int) (w : World) (hm : L.length ≤ 2097152) (hv : RdI w v L) :
    Calls Try.prog 25 #[.agg #[.int .i64 X, .int .i64 Y, v], .agg #[.int .i64 r.x, .int .i64 r.y, .int .i64 r.w, .int .i64 r.h], .int .i64 p] w (AnsIm (fillIm X Y L r p) w) := by
  obtain ⟨A, c, rfl⟩ := hv.form
  obtain ⟨X2, Y2, F, hN⟩ : ∃ X2 Y2 F, newIm X Y p = ⟨X2, Y2, F⟩ := ⟨_, _, _, rfl⟩
  obtain ⟨R, hR⟩ : ∃ R, R = canon (gridOf [r]) := ⟨_, rfl⟩
  obtain ⟨X3, Y3, D, hJ⟩ : ∃ X3 Y3 D, fillIm X Y L r p = ⟨X3, Y3, D⟩ := ⟨_, _, _, rfl⟩
  have hc : copyIm X Y L X2 Y2 F R = ⟨X3, Y3, D⟩ := by rw [← hJ, hR]; unfold fillIm; rw [hN]
  have HN : Hid (∀ W : World, Calls Try.prog 71 #[.int .i64 X, .int .i64 Y, .int .i64 p] W (ImAns X2 Y2 F W)) := Lib.hid (fun W => by have h := newI X Y p W; rw [hN] at h; exact h)
  have HR : Hid (∀ (W : World) (u : Value), RdR W u [r] → Calls Try.prog 72 #[u] W (fun e w' => ∃ z, e = .returned (.agg #[z]) ∧ w'.ownsRow W.heap.size 31 4 z R.length (rcsCells R) ∧ Below W.heap.size W w')) := Lib.hid (fun W u h => by have h := rofI u [r] W h; unfold RofAns at h; rw [← hR] at h; exact h)
  have HC : Hid (∀ (W : World) (u x z : Value), RdI W u L → RdI W x F → RdR W z R → Calls Try.prog 17 #[.agg #[.int .i64 X, .int .i64 Y, u], .agg #[.int .i64 X2, .int .i64 Y2, x], .agg #[z]] W (ImAns X3 Y3 D W)) := Lib.hid (fun W u x z h1 h2 h3 => by have h := copyI_any X Y u L X2 Y2 x F z R W hm h1 h2 h3; rw [hc] at h; exact h)
  have HJ := Lib.hid hJ
  unfold ImAns at HN HC
  clear hN hR hJ hc
  have hS := FlA.born w X Y (.slice A L.length c) r
  have hd := fl_res w X Y (.slice A L.length c) r
  have hrv := ((hv.alloc (.cells #[.int .i64 X, .int .i64 Y, .slice A L.length c] 26)).alloc (.cells #[.int .i64 r.x, .int .i64 r.y, .int .i64 r.w, .int .i64 r.h] 31)).alloc (.cells #[.int .i64 0, .int .i64 0, .slice none 0 0] 26)
  clear hv
  go_enter Try.func25, Try.ntmps25
  go_upto_region 1 with fail
  refine wp_region_held_drew (S := fun V => FlA w X Y (.slice A L.length c) r V) (by kernel_rfl) (hS.call (Below.refl _ _).drew) (fun hS => ?_)
  replace hd := hd.call (Below.refl _ _).drew
  replace hrv := hrv.drew
  refine wpAnyH_take (i := 0) (v := .agg #[.int .i64 X, .int .i64 Y, .slice A L.length c]) rfl (by kernel_rfl) (by kernel_rfl) (by kernel_rfl) (fun _ _ _ h => h) (Or.inl ⟨by kernel_rfl, by intro w' hSw; (try dsimp only at hSw); (obtain ⟨a0, a1, a2⟩ := hSw.a.cells); (obtain ⟨b0, b1, b2, b3⟩ := hSw.b.cells); go_simp⟩) (by assumption) ?_
  refine wpAnyH_take (i := 1) (v := .pointer (some ⟨w.heap.size, 0, none⟩)) rfl (by kernel_rfl) (by kernel_rfl) (by kernel_rfl) (fun _ _ _ h => h) (Or.inl ⟨by kernel_rfl, by intro w' hSw; (try dsimp only at hSw); (obtain ⟨a0, a1, a2⟩ := hSw.a.cells); (obtain ⟨b0, b1, b2, b3⟩ := hSw.b.cells); go_simp⟩) (by assumption) ?_
  refine wpAnyH_take (i := 2) (v := .int .i64 X) rfl (by kernel_rfl) (by kernel_rfl) (by kernel_rfl) (fun _ _ _ h => h) (Or.inl ⟨by kernel_rfl, by intro w' hSw; (try dsimp only at hSw); (obtain ⟨a0, a1, a2⟩ := hSw.a.cells); (obtain ⟨b0, b1, b2, b3⟩ := hSw.b.cells); go_simp⟩) (by assumption) ?_
  refine wpAnyH_take (i := 3) (v := .pointer (some ⟨w.heap.size, 1, none⟩)) rfl (by kernel_rfl) (by kernel_rfl) (by kernel_rfl) (fun _ _ _ h => h) (Or.inl ⟨by kernel_rfl, by intro w' hSw; (try dsimp only at hSw); (obtain ⟨a0, a1, a2⟩ := hSw.a.cells); (obtain ⟨b0, b1, b2, b3⟩ := hSw.b.cells); go_simp⟩) (by assumption) ?_
  refine wpAnyH_take (i := 4) (v := .int .i64 Y) rfl (by kernel_rfl) (by kernel_rfl) (by kernel_rfl) (fun _ _ _ h => h) (Or.inl ⟨by kernel_rfl, by intro w' hSw; (try dsimp only at hSw); (obtain ⟨a0, a1, a2⟩ := hSw.a.cells); (obtain ⟨b0, b1, b2, b3⟩ := hSw.b.cells); go_simp⟩) (by assumption) ?_
  refine wpAnyH_take (i := 5) (v := .int .i64 p) rfl (by kernel_rfl) (by kernel_rfl) (by kernel_rfl) (fun _ _ _ h => h) (Or.inl ⟨by kernel_rfl, by intro w' hSw; (try dsimp only at hSw); (obtain ⟨a0, a1, a2⟩ := hSw.a.cells); (obtain ⟨b0, b1, b2, b3⟩ := hSw.b.cells); go_simp⟩) (by assumption) ?_
  refine wpAnyH_take (i := 7) (v := .agg #[.int .i64 r.x, .int .i64 r.y, .int .i64 r.w, .int .i64 r.h]) rfl (by kernel_rfl) (by kernel_rfl) (by kernel_rfl) (fun _ _ _ h => h) (Or.inl ⟨by kernel_rfl, by intro w' hSw; (try dsimp only at hSw); (obtain ⟨a0, a1, a2⟩ := hSw.a.cells); (obtain ⟨b0, b1, b2, b3⟩ := hSw.b.cells); go_simp⟩) (by assumption) ?_
  (try simp only [Act.put]); (try simp only [List.setIfInBounds_toArray]); (try simp only [List.set_cons_zero, List.set_cons_succ])
  refine wpAnyH_ready (rs := [6, 8]) (by kernel_rfl) (by simp) ?_
  refine (AllReadyH.cons rfl (fun K hK => ?_) (AllReadyH.cons rfl (fun K hK => ?_) AllReadyH.nil))
  · rw [if_pos (by kernel_rfl)]
    (try simp only [List.getElem_toArray]); (try simp only [List.getElem_cons_succ]); (try simp only [List.getElem_cons_zero])
    go_simp
    with_reducible refine (HN.out _).mono ?_
    rintro e W' ⟨vn, rfl, h6, hb⟩
    dsimp only
    have k6 := RdI.of_own h6
    obtain ⟨A6, c6, rfl⟩ := k6.form
    clear h6
    have hd := hd.call hb
    have hrv := hrv.call hb
    refine hK.out _ _ (hS.call hb) (fun hS => ?_)
    clear hK
    (try simp only [Act.put]); (try simp only [List.setIfInBounds_toArray]); (try simp only [List.set_cons_zero, List.set_cons_succ])
    refine wpAnyH_ready (rs := [8]) (by kernel_rfl) (by simp) ?_
    refine (AllReadyH.cons rfl (fun K hK => ?_) AllReadyH.nil)
    · rw [if_pos (by kernel_rfl)]
      (try simp only [List.getElem_toArray]); (try simp only [List.getElem_cons_succ]); (try simp only [List.getElem_cons_zero])
      refine wp_build1 15 (.tmp 14) r rfl (by first | with_reducible rfl | (go_simp; done) | rfl) rfl ?_
      intro b8 W' hb k8
      have hd := hd.call hb
      have hrv := hrv.call hb
      have k6 := k6.call hb
      refine hK.out _ _ (hS.call hb) (fun hS => ?_)
      clear hK
      (try simp only [Act.put]); (try simp only [List.setIfInBounds_toArray]); (try simp only [List.set_cons_zero, List.set_cons_succ])
      refine wpAnyH_ready (rs := [9]) (by kernel_rfl) (by simp) ?_
      refine (AllReadyH.cons rfl (fun K hK => ?_) AllReadyH.nil)
      · rw [if_pos (by kernel_rfl)]
        (try simp only [List.getElem_toArray]); (try simp only [List.getElem_cons_succ]); (try simp only [List.getElem_cons_zero])
        go_simp
        with_reducible refine (HR.out _ _ k8).mono ?_
        rintro e W' ⟨vr, rfl, h9, hb⟩
        dsimp only
        have k9 := RdR.of_own h9
        obtain ⟨A9, c9, rfl⟩ := k9.form
        clear h9
        have hd := hd.call hb
        have hrv := hrv.call hb
        have k6 := k6.call hb
        have k8 := k8.call hb
        refine hK.out _ _ (hS.call hb) (fun hS => ?_)
        clear hK
        (try simp only [Act.put]); (try simp only [List.setIfInBounds_toArray]); (try simp only [List.set_cons_zero, List.set_cons_succ])
        refine wpAnyH_ready (rs := [10]) (by kernel_rfl) (by simp) ?_
        refine (AllReadyH.cons rfl (fun K hK => ?_) AllReadyH.nil)
        · rw [if_pos (by kernel_rfl)]
          (try simp only [List.getElem_toArray]); (try simp only [List.getElem_cons_succ]); (try simp only [List.getElem_cons_zero])
          go_simp
          have hlo := hd.lt
          with_reducible refine (HC.out _ _ _ _ hrv k6 k9).mono ?_
          rintro e W' ⟨vo, rfl, h10, hb⟩
          dsimp only
          obtain ⟨A10, c10, rfl⟩ := (RdI.of_own h10).form
          have hd := hd.call hb
          have hrv := hrv.call hb
          have k6 := k6.call hb
          have k8 := k8.call hb
          have k9 := k9.call hb
          refine hK.out _ _ (hS.call hb) (fun hS => ?_)
          clear hK
          (try simp only [Act.put]); (try simp only [List.setIfInBounds_toArray]); (try simp only [List.set_cons_zero, List.set_cons_succ])
          refine wpAnyH_ready (rs := [11]) (by kernel_rfl) (by simp) ?_
          refine (AllReadyH.cons rfl (fun K hK => ?_) AllReadyH.nil)
          · rw [if_pos (by kernel_rfl)]
            (try simp only [List.getElem_toArray]); (try simp only [List.getElem_cons_succ]); (try simp only [List.getElem_cons_zero])
            refine wp_store_im 26 size26 (.tmp 6) (.tmp 17) rfl (w.heap.size + 2) 0 0 _ X3 Y3 A10 D.length c10 rfl rfl hd ?_
            intro W3 I3 hg3
            skip
            skip
            skip
            skip
            skip
            refine hK.out _ _ (hS.grown hg3 (Nat.le_refl _)) (fun hS => ?_)
            clear hK
            (try simp only [Act.put]); (try simp only [List.setIfInBounds_toArray]); (try simp only [List.set_cons_zero, List.set_cons_succ])
            refine wpAnyH_done (by kernel_rfl) ?_ _
            obtain ⟨d0, d1, d2⟩ := I3.cells
            go_wp2_with fail
            refine bodyPost_ret (v := .agg #[.int .i64 X3, .int .i64 Y3, .slice A10 D.length c10]) (by simp [results, Try.results25, go_sem, d0, d1, d2]) rfl ?_
            rw [HJ.out]
            exact ⟨_, rfl, (h10.kept hg3 (.inr (fun e => by have := (h10.lt _ e).1; omega))).mono (by omega), hS.bw⟩
  · rw [if_pos (by kernel_rfl)]
    (try simp only [List.getElem_toArray]); (try simp only [List.getElem_cons_succ]); (try simp only [List.getElem_cons_zero])
    refine wp_build1 15 (.tmp 14) r rfl (by first | with_reducible rfl | (go_simp; done) | rfl) rfl ?_
    intro b8 W' hb k8
    have hd := hd.call hb
    have hrv := hrv.call hb
    refine hK.out _ _ (hS.call hb) (fun hS => ?_)
    clear hK
    (try simp only [Act.put]); (try simp only [List.setIfInBounds_toArray]); (try simp only [List.set_cons_zero, List.set_cons_succ])
    refine wpAnyH_ready (rs := [6]) (by kernel_rfl) (by simp) ?_
    refine (AllReadyH.cons rfl (fun K hK => ?_) AllReadyH.nil)
    · rw [if_pos (by kernel_rfl)]
      (try simp only [List.getElem_toArray]); (try simp only [List.getElem_cons_succ]); (try simp only [List.getElem_cons_zero])
      go_simp
      with_reducible refine (HN.out _).mono ?_
      rintro e W' ⟨vn, rfl, h6, hb⟩
      dsimp only
      have k6 := RdI.of_own h6
      obtain ⟨A6, c6, rfl⟩ := k6.form
      clear h6
      have hd := hd.call hb
      have hrv := hrv.call hb
      have k8 := k8.call hb
      refine hK.out _ _ (hS.call hb) (fun hS => ?_)
      clear hK
      (try simp only [Act.put]); (try simp only [List.setIfInBounds_toArray]); (try simp only [List.set_cons_zero, List.set_cons_succ])
      refine wpAnyH_ready (rs := [9]) (by kernel_rfl) (by simp) ?_
      refine (AllReadyH.cons rfl (fun K hK => ?_) AllReadyH.nil)
      · rw [if_pos (by kernel_rfl)]
        (try simp only [List.getElem_toArray]); (try simp only [List.getElem_cons_succ]); (try simp only [List.getElem_cons_zero])
        go_simp
        with_reducible refine (HR.out _ _ k8).mono ?_
        rintro e W' ⟨vr, rfl, h9, hb⟩
        dsimp only
        have k9 := RdR.of_own h9
        obtain ⟨A9, c9, rfl⟩ := k9.form
        clear h9
        have hd := hd.call hb
        have hrv := hrv.call hb
        have k8 := k8.call hb
        have k6 := k6.call hb
        refine hK.out _ _ (hS.call hb) (fun hS => ?_)
        clear hK
        (try simp only [Act.put]); (try simp only [List.setIfInBounds_toArray]); (try simp only [List.set_cons_zero, List.set_cons_succ])
        refine wpAnyH_ready (rs := [10]) (by kernel_rfl) (by simp) ?_
        refine (AllReadyH.cons rfl (fun K hK => ?_) AllReadyH.nil)
        · rw [if_pos (by kernel_rfl)]
          (try simp only [List.getElem_toArray]); (try simp only [List.getElem_cons_succ]); (try simp only [List.getElem_cons_zero])
          go_simp
          have hlo := hd.lt
          with_reducible refine (HC.out _ _ _ _ hrv k6 k9).mono ?_
          rintro e W' ⟨vo, rfl, h10, hb⟩
          dsimp only
          obtain ⟨A10, c10, rfl⟩ := (RdI.of_own h10).form
          have hd := hd.call hb
          have hrv := hrv.call hb
          have k8 := k8.call hb
          have k6 := k6.call hb
          have k9 := k9.call hb
          refine hK.out _ _ (hS.call hb) (fun hS => ?_)
          clear hK
          (try simp only [Act.put]); (try simp only [List.setIfInBounds_toArray]); (try simp only [List.set_cons_zero, List.set_cons_succ])
          refine wpAnyH_ready (rs := [11]) (by kernel_rfl) (by simp) ?_
          refine (AllReadyH.cons rfl (fun K hK => ?_) AllReadyH.nil)
          · rw [if_pos (by kernel_rfl)]
            (try simp only [List.getElem_toArray]); (try simp only [List.getElem_cons_succ]); (try simp only [List.getElem_cons_zero])
            refine wp_store_im 26 size26 (.tmp 6) (.tmp 17) rfl (w.heap.size + 2) 0 0 _ X3 Y3 A10 D.length c10 rfl rfl hd ?_
            intro W3 I3 hg3
            skip
            skip
            skip
            skip
            skip
            refine hK.out _ _ (hS.grown hg3 (Nat.le_refl _)) (fun hS => ?_)
            clear hK
            (try simp only [Act.put]); (try simp only [List.setIfInBounds_toArray]); (try simp only [List.set_cons_zero, List.set_cons_succ])
            refine wpAnyH_done (by kernel_rfl) ?_ _
            obtain ⟨d0, d1, d2⟩ := I3.cells
            go_wp2_with fail
            refine bodyPost_ret (v := .agg #[.int .i64 X3, .int .i64 Y3, .slice A10 D.length c10]) (by simp [results, Try.results25, go_sem, d0, d1, d2]) rfl ?_
            rw [HJ.out]
            exact ⟨_, rfl, (h10.kept hg3 (.inr (fun e => by have := (h10.lt _ e).1; omega))).mono (by omega), hS.bw⟩
end Go.Proofs.Ytmjndoedchiggaa
