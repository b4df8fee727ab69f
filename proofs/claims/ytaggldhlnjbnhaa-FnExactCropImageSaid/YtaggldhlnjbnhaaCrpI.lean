/- The contract of the program's CropImage. No statement is proved here. -/
import Derived.Test.YtaggldhlnjbnhaaRd
import Derived.Test.YtaggldhlnjbnhaaIntR
import Derived.Test.YtaggldhlnjbnhaaImR
import Derived.Test.YtaggldhlnjbnhaaRectC
import Derived.Test.YtaggldhlnjbnhaaPixM
import Derived.Test.YtaggldhlnjbnhaaImO
import Derived.Test.YtaggldhlnjbnhaaImV
import Derived.Test.YtaggldhlnjbnhaaImN
import Derived.Test.YtaggldhlnjbnhaaBlk4
import Derived.Test.YtaggldhlnjbnhaaRectEq
import Derived.Test.YtaggldhlnjbnhaaCoverC
import Derived.Test.YtaggldhlnjbnhaaHasC
import Derived.Test.YtaggldhlnjbnhaaRegM
import Derived.Test.YtaggldhlnjbnhaaBndP
import Derived.Test.YtaggldhlnjbnhaaRds
import Derived.Test.YtaggldhlnjbnhaaGridI
import Derived.Test.YtaggldhlnjbnhaaImM
import Derived.Test.YtaggldhlnjbnhaaImP
import Derived.Test.YtaggldhlnjbnhaaImE
import Derived.Test.YtaggldhlnjbnhaaCpyB
import Derived.Test.YtaggldhlnjbnhaaCpyJ
import Derived.Test.YtaggldhlnjbnhaaFilB
import Derived.Test.YtaggldhlnjbnhaaCrpB
import Derived.Test.YtaggldhlnjbnhaaProg
import Derived.WalkKit
import Derived.ProofKit
import Derived.OpenShut
import Derived.WalkLawsBesides
import Derived.WalkSpells
import Derived.ShutString
import Derived.ChangeOld
import Derived.Below
import Derived.Lib.Hide
import Derived.BigQuiet
import Derived.Deep.QuietTactic
import Derived.Maps.AppendAt
import Derived.Deep.OwnRows
import Derived.Handy
import Derived.Deep.Draws
import Derived.OwnWalk
import Derived.Deep.AppendLies
import Derived.Deep.LoopGhost
import Derived.Deep.Onto
import Derived.Laws.BitsAllLaws
import Derived.Lib.QuoteBits
import Derived.Test.YtaggldhlnjbnhaaShelf
import Derived.Laws.CopyOwn
import Derived.Deep.RegionLaw
import Derived.Deep.RegionHeld3
import Derived.Deep.DeepCutAuto
import Derived.Great.BuildSlice
import Derived.Deep.MidRow
import Derived.Deep.WholeRow
import Derived.Laws.AppendOwn
namespace Go.Proofs.Ytaggldhlnjbnhaa
open Go.RowKit
set_option maxHeartbeats 1000000 in
set_option maxRecDepth 10000 in
theorem cropI_bad1 (X Y : Int) (v : Value) (L : List Int) (r : Rc) (w : World) (hv : RdI w v L) (h1 : ¬ imOk X Y L) :
    Calls Try.prog 52 #[.agg #[.int .i64 X, .int .i64 Y, v], .agg #[.int .i64 r.x, .int .i64 r.y, .int .i64 r.w, .int .i64 r.h]] w (AnsCr (cropIm X Y L r) w) := by
  have HA : Hid (cropIm X Y L r = (zeroIm, false)) := Lib.hid (crop_no fun h => h1 h.1)
  have Ho := Lib.hid h1
  clear h1
  obtain ⟨A, c, rfl⟩ := hv.form
  have hS := FlA.born w X Y (.slice A L.length c) r
  have hd := fl_res w X Y (.slice A L.length c) r
  have hrv := ((hv.alloc (.cells #[.int .i64 X, .int .i64 Y, .slice A L.length c] 28)).alloc (.cells #[.int .i64 r.x, .int .i64 r.y, .int .i64 r.w, .int .i64 r.h] 60)).alloc (.cells #[.int .i64 0, .int .i64 0, .slice none 0 0] 28)
  clear hv
  go_enter Try.func52, Try.ntmps52
  go_upto_region 1 with fail
  refine wp_region_held_drew (S := fun V => FlA w X Y (.slice A L.length c) r V) (by kernel_rfl) (hS.call (Below.refl _ _).drew) (fun hS => ?_)
  replace hd := hd.call (Below.refl _ _).drew
  replace hrv := hrv.drew
  refine wpAnyH_take (i := 0) (v := .agg #[.int .i64 X, .int .i64 Y, .slice A L.length c]) rfl (by kernel_rfl) (by kernel_rfl) (by kernel_rfl) (fun _ _ _ h => h) (Or.inl ⟨by kernel_rfl, by intro w' hSw; (try dsimp only at hSw); (obtain ⟨a0, a1, a2⟩ := hSw.a.cells); (obtain ⟨b0, b1, b2, b3⟩ := hSw.b.cells); go_simp⟩) (by assumption) ?_
  (try simp only [Act.put]); (try simp only [List.setIfInBounds_toArray]); (try simp only [List.set_cons_zero, List.set_cons_succ])
  refine wpAnyH_ready (rs := [1]) (by kernel_rfl) (by simp) ?_
  refine (AllReadyH.cons rfl (fun K hK => ?_) AllReadyH.nil)
  · rw [if_pos (by kernel_rfl)]
    (try simp only [List.getElem_toArray]); (try simp only [List.getElem_cons_succ]); (try simp only [List.getElem_cons_zero])
    go_simp
    with_reducible refine (imI X Y _ L _ hrv).mono ?_
    rintro e W' ⟨rfl, hb⟩
    dsimp only
    rw [imB_no Ho.out]
    have hd := hd.call hb
    have hrv := hrv.call hb
    refine hK.out _ _ (hS.call hb) (fun hS => ?_)
    clear hK
    (try simp only [Act.put]); (try simp only [List.setIfInBounds_toArray]); (try simp only [List.set_cons_zero, List.set_cons_succ])
    refine wpAnyH_take (i := 2) (v := .bool true) rfl (by kernel_rfl) (by kernel_rfl) (by kernel_rfl) (fun _ _ _ h => h) (Or.inl ⟨by kernel_rfl, by intro w' hSw; (try dsimp only at hSw); (obtain ⟨a0, a1, a2⟩ := hSw.a.cells); (obtain ⟨b0, b1, b2, b3⟩ := hSw.b.cells); go_simp⟩) (by assumption) ?_
    refine wpAnyH_take (i := 3) (v := .bool true) rfl (by kernel_rfl) (by kernel_rfl) (by kernel_rfl) (fun _ _ _ h => h) (Or.inl ⟨by kernel_rfl, by intro w' hSw; (try dsimp only at hSw); (obtain ⟨a0, a1, a2⟩ := hSw.a.cells); (obtain ⟨b0, b1, b2, b3⟩ := hSw.b.cells); go_simp⟩) (by assumption) ?_
    refine wpAnyH_take (i := 4) (v := undef) rfl (by kernel_rfl) (by kernel_rfl) (by kernel_rfl) (fun _ _ _ h => h) (Or.inr ⟨by kernel_rfl, rfl⟩) (by assumption) ?_
    refine wpAnyH_take (i := 5) (v := undef) rfl (by kernel_rfl) (by kernel_rfl) (by kernel_rfl) (fun _ _ _ h => h) (Or.inr ⟨by kernel_rfl, rfl⟩) (by assumption) ?_
    refine wpAnyH_take (i := 6) (v := undef) rfl (by kernel_rfl) (by kernel_rfl) (by kernel_rfl) (fun _ _ _ h => h) (Or.inr ⟨by kernel_rfl, rfl⟩) (by assumption) ?_
    refine wpAnyH_take (i := 7) (v := undef) rfl (by kernel_rfl) (by kernel_rfl) (by kernel_rfl) (fun _ _ _ h => h) (Or.inr ⟨by kernel_rfl, rfl⟩) (by assumption) ?_
    refine wpAnyH_take (i := 8) (v := undef) rfl (by kernel_rfl) (by kernel_rfl) (by kernel_rfl) (fun _ _ _ h => h) (Or.inr ⟨by kernel_rfl, rfl⟩) (by assumption) ?_
    refine wpAnyH_take (i := 9) (v := .bool true) rfl (by kernel_rfl) (by kernel_rfl) (by kernel_rfl) (fun _ _ _ h => h) (Or.inl ⟨by kernel_rfl, by intro w' hSw; (try dsimp only at hSw); (obtain ⟨a0, a1, a2⟩ := hSw.a.cells); (obtain ⟨b0, b1, b2, b3⟩ := hSw.b.cells); go_simp⟩) (by assumption) ?_
    refine wpAnyH_take (i := 10) (v := .bool true) rfl (by kernel_rfl) (by kernel_rfl) (by kernel_rfl) (fun _ _ _ h => h) (Or.inl ⟨by kernel_rfl, by intro w' hSw; (try dsimp only at hSw); (obtain ⟨a0, a1, a2⟩ := hSw.a.cells); (obtain ⟨b0, b1, b2, b3⟩ := hSw.b.cells); go_simp⟩) (by assumption) ?_
    refine wpAnyH_take (i := 11) (v := undef) rfl (by kernel_rfl) (by kernel_rfl) (by kernel_rfl) (fun _ _ _ h => h) (Or.inr ⟨by kernel_rfl, rfl⟩) (by assumption) ?_
    refine wpAnyH_take (i := 12) (v := undef) rfl (by kernel_rfl) (by kernel_rfl) (by kernel_rfl) (fun _ _ _ h => h) (Or.inr ⟨by kernel_rfl, rfl⟩) (by assumption) ?_
    refine wpAnyH_take (i := 13) (v := .bool true) rfl (by kernel_rfl) (by kernel_rfl) (by kernel_rfl) (fun _ _ _ h => h) (Or.inl ⟨by kernel_rfl, by intro w' hSw; (try dsimp only at hSw); (obtain ⟨a0, a1, a2⟩ := hSw.a.cells); (obtain ⟨b0, b1, b2, b3⟩ := hSw.b.cells); go_simp⟩) (by assumption) ?_
    go_simp
    refine wpAnyH_done (by kernel_rfl) ?_ _
    obtain ⟨d0, d1, d2⟩ := hd.cells
    have f0 := hd.frozen 0
    have f1 := hd.frozen 1
    have f2 := hd.frozen 2
    go_wp2_with fail
    have j := hd.set3 0 0 (.slice none 0 0)
    obtain ⟨x0, x1, x2⟩ := j.cells
    refine bodyPost_ret (v := .tuple #[.agg #[.int .i64 0, .int .i64 0, .slice none 0 0], .bool false]) (by simp [results, Try.results52, go_sem, x0, x1, x2]) rfl ?_
    rw [HA.out]
    exact ansCr_no (((hS.bw.setCell (by dsimp only; omega) _).setCell (by dsimp only; omega) _).setCell (by dsimp only; omega) _)
set_option maxHeartbeats 1000000 in
set_option maxRecDepth 10000 in
theorem cropI_bad2 (X Y : Int) (v : Value) (L : List Int) (r : Rc) (w : World) (hv : RdI w v L) (h1 : imOk X Y L) (h2 : covB ⟨0, 0, X, Y⟩ r = false) :
    Calls Try.prog 52 #[.agg #[.int .i64 X, .int .i64 Y, v], .agg #[.int .i64 r.x, .int .i64 r.y, .int .i64 r.w, .int .i64 r.h]] w (AnsCr (cropIm X Y L r) w) := by
  have HA : Hid (cropIm X Y L r = (zeroIm, false)) := Lib.hid (crop_no fun h => by rw [h2] at h; cases h.2.1)
  have Ho := Lib.hid h1
  have HC : Hid (∀ V : World, Calls Try.prog 76 #[.agg #[.int .i64 0, .int .i64 0, .int .i64 X, .int .i64 Y], .agg #[.int .i64 r.x, .int .i64 r.y, .int .i64 r.w, .int .i64 r.h]] V fun e w' => e = .returned (.bool false) ∧ Below V.heap.size V w') := Lib.hid (fun V => by have h := coversI_any ⟨0, 0, X, Y⟩ r V; rw [h2] at h; exact h)
  clear h1 h2
  obtain ⟨A, c, rfl⟩ := hv.form
  have hS := FlA.born w X Y (.slice A L.length c) r
  have hd := fl_res w X Y (.slice A L.length c) r
  have hrv := ((hv.alloc (.cells #[.int .i64 X, .int .i64 Y, .slice A L.length c] 28)).alloc (.cells #[.int .i64 r.x, .int .i64 r.y, .int .i64 r.w, .int .i64 r.h] 60)).alloc (.cells #[.int .i64 0, .int .i64 0, .slice none 0 0] 28)
  clear hv
  go_enter Try.func52, Try.ntmps52
  go_upto_region 1 with fail
  refine wp_region_held_drew (S := fun V => FlA w X Y (.slice A L.length c) r V) (by kernel_rfl) (hS.call (Below.refl _ _).drew) (fun hS => ?_)
  replace hd := hd.call (Below.refl _ _).drew
  replace hrv := hrv.drew
  refine wpAnyH_take (i := 0) (v := .agg #[.int .i64 X, .int .i64 Y, .slice A L.length c]) rfl (by kernel_rfl) (by kernel_rfl) (by kernel_rfl) (fun _ _ _ h => h) (Or.inl ⟨by kernel_rfl, by intro w' hSw; (try dsimp only at hSw); (obtain ⟨a0, a1, a2⟩ := hSw.a.cells); (obtain ⟨b0, b1, b2, b3⟩ := hSw.b.cells); go_simp⟩) (by assumption) ?_
  (try simp only [Act.put]); (try simp only [List.setIfInBounds_toArray]); (try simp only [List.set_cons_zero, List.set_cons_succ])
  refine wpAnyH_ready (rs := [1]) (by kernel_rfl) (by simp) ?_
  refine (AllReadyH.cons rfl (fun K hK => ?_) AllReadyH.nil)
  · rw [if_pos (by kernel_rfl)]
    (try simp only [List.getElem_toArray]); (try simp only [List.getElem_cons_succ]); (try simp only [List.getElem_cons_zero])
    go_simp
    with_reducible refine (imI X Y _ L _ hrv).mono ?_
    rintro e W' ⟨rfl, hb⟩
    dsimp only
    rw [imB_yes Ho.out]
    have hd := hd.call hb
    have hrv := hrv.call hb
    refine hK.out _ _ (hS.call hb) (fun hS => ?_)
    clear hK
    (try simp only [Act.put]); (try simp only [List.setIfInBounds_toArray]); (try simp only [List.set_cons_zero, List.set_cons_succ])
    refine wpAnyH_take (i := 2) (v := .bool false) rfl (by kernel_rfl) (by kernel_rfl) (by kernel_rfl) (fun _ _ _ h => h) (Or.inl ⟨by kernel_rfl, by intro w' hSw; (try dsimp only at hSw); (obtain ⟨a0, a1, a2⟩ := hSw.a.cells); (obtain ⟨b0, b1, b2, b3⟩ := hSw.b.cells); go_simp⟩) (by assumption) ?_
    refine wpAnyH_take (i := 3) (v := .bool false) rfl (by kernel_rfl) (by kernel_rfl) (by kernel_rfl) (fun _ _ _ h => h) (Or.inl ⟨by kernel_rfl, by intro w' hSw; (try dsimp only at hSw); (obtain ⟨a0, a1, a2⟩ := hSw.a.cells); (obtain ⟨b0, b1, b2, b3⟩ := hSw.b.cells); go_simp⟩) (by assumption) ?_
    refine wpAnyH_take (i := 4) (v := .agg #[.int .i64 X, .int .i64 Y, .slice A L.length c]) rfl (by kernel_rfl) (by kernel_rfl) (by kernel_rfl) (fun _ _ _ h => h) (Or.inl ⟨by kernel_rfl, by intro w' hSw; (try dsimp only at hSw); (obtain ⟨a0, a1, a2⟩ := hSw.a.cells); (obtain ⟨b0, b1, b2, b3⟩ := hSw.b.cells); go_simp⟩) (by assumption) ?_
    refine wpAnyH_take (i := 6) (v := .agg #[.int .i64 r.x, .int .i64 r.y, .int .i64 r.w, .int .i64 r.h]) rfl (by kernel_rfl) (by kernel_rfl) (by kernel_rfl) (fun _ _ _ h => h) (Or.inl ⟨by kernel_rfl, by intro w' hSw; (try dsimp only at hSw); (obtain ⟨a0, a1, a2⟩ := hSw.a.cells); (obtain ⟨b0, b1, b2, b3⟩ := hSw.b.cells); go_simp⟩) (by assumption) ?_
    (try simp only [Act.put]); (try simp only [List.setIfInBounds_toArray]); (try simp only [List.set_cons_zero, List.set_cons_succ])
    refine wpAnyH_ready (rs := [5]) (by kernel_rfl) (by simp) ?_
    refine (AllReadyH.cons rfl (fun K hK => ?_) AllReadyH.nil)
    · rw [if_pos (by kernel_rfl)]
      (try simp only [List.getElem_toArray]); (try simp only [List.getElem_cons_succ]); (try simp only [List.getElem_cons_zero])
      go_simp
      with_reducible refine (frameI X Y _ _ _ _).mono ?_
      rintro e W' ⟨rfl, hb⟩
      dsimp only
      have hd := hd.call hb
      have hrv := hrv.call hb
      refine hK.out _ _ (hS.call hb) (fun hS => ?_)
      clear hK
      (try simp only [Act.put]); (try simp only [List.setIfInBounds_toArray]); (try simp only [List.set_cons_zero, List.set_cons_succ])
      refine wpAnyH_ready (rs := [7]) (by kernel_rfl) (by simp) ?_
      refine (AllReadyH.cons rfl (fun K hK => ?_) AllReadyH.nil)
      · rw [if_pos (by kernel_rfl)]
        (try simp only [List.getElem_toArray]); (try simp only [List.getElem_cons_succ]); (try simp only [List.getElem_cons_zero])
        go_simp
        with_reducible refine (HC.out _).mono ?_
        rintro e W' ⟨rfl, hb⟩
        dsimp only
        have hd := hd.call hb
        have hrv := hrv.call hb
        refine hK.out _ _ (hS.call hb) (fun hS => ?_)
        clear hK
        (try simp only [Act.put]); (try simp only [List.setIfInBounds_toArray]); (try simp only [List.set_cons_zero, List.set_cons_succ])
        refine wpAnyH_take (i := 8) (v := .bool true) rfl (by kernel_rfl) (by kernel_rfl) (by kernel_rfl) (fun _ _ _ h => h) (Or.inl ⟨by kernel_rfl, by intro w' hSw; (try dsimp only at hSw); (obtain ⟨a0, a1, a2⟩ := hSw.a.cells); (obtain ⟨b0, b1, b2, b3⟩ := hSw.b.cells); go_simp⟩) (by assumption) ?_
        refine wpAnyH_take (i := 9) (v := .bool true) rfl (by kernel_rfl) (by kernel_rfl) (by kernel_rfl) (fun _ _ _ h => h) (Or.inl ⟨by kernel_rfl, by intro w' hSw; (try dsimp only at hSw); (obtain ⟨a0, a1, a2⟩ := hSw.a.cells); (obtain ⟨b0, b1, b2, b3⟩ := hSw.b.cells); go_simp⟩) (by assumption) ?_
        refine wpAnyH_take (i := 10) (v := .bool true) rfl (by kernel_rfl) (by kernel_rfl) (by kernel_rfl) (fun _ _ _ h => h) (Or.inl ⟨by kernel_rfl, by intro w' hSw; (try dsimp only at hSw); (obtain ⟨a0, a1, a2⟩ := hSw.a.cells); (obtain ⟨b0, b1, b2, b3⟩ := hSw.b.cells); go_simp⟩) (by assumption) ?_
        refine wpAnyH_take (i := 11) (v := undef) rfl (by kernel_rfl) (by kernel_rfl) (by kernel_rfl) (fun _ _ _ h => h) (Or.inr ⟨by kernel_rfl, rfl⟩) (by assumption) ?_
        refine wpAnyH_take (i := 12) (v := undef) rfl (by kernel_rfl) (by kernel_rfl) (by kernel_rfl) (fun _ _ _ h => h) (Or.inr ⟨by kernel_rfl, rfl⟩) (by assumption) ?_
        refine wpAnyH_take (i := 13) (v := .bool true) rfl (by kernel_rfl) (by kernel_rfl) (by kernel_rfl) (fun _ _ _ h => h) (Or.inl ⟨by kernel_rfl, by intro w' hSw; (try dsimp only at hSw); (obtain ⟨a0, a1, a2⟩ := hSw.a.cells); (obtain ⟨b0, b1, b2, b3⟩ := hSw.b.cells); go_simp⟩) (by assumption) ?_
        go_simp
        refine wpAnyH_done (by kernel_rfl) ?_ _
        obtain ⟨d0, d1, d2⟩ := hd.cells
        have f0 := hd.frozen 0
        have f1 := hd.frozen 1
        have f2 := hd.frozen 2
        go_wp2_with fail
        have j := hd.set3 0 0 (.slice none 0 0)
        obtain ⟨x0, x1, x2⟩ := j.cells
        refine bodyPost_ret (v := .tuple #[.agg #[.int .i64 0, .int .i64 0, .slice none 0 0], .bool false]) (by simp [results, Try.results52, go_sem, x0, x1, x2]) rfl ?_
        rw [HA.out]
        exact ansCr_no (((hS.bw.setCell (by dsimp only; omega) _).setCell (by dsimp only; omega) _).setCell (by dsimp only; omega) _)
set_option maxHeartbeats 1000000 in
set_option maxRecDepth 10000 in
theorem cropI_bad3 (X Y : Int) (v : Value) (L : List Int) (r : Rc) (w : World) (hv : RdI w v L) (h1 : imOk X Y L) (h2 : covB ⟨0, 0, X, Y⟩ r = true) (h3 : r.emp) :
    Calls Try.prog 52 #[.agg #[.int .i64 X, .int .i64 Y, v], .agg #[.int .i64 r.x, .int .i64 r.y, .int .i64 r.w, .int .i64 r.h]] w (AnsCr (cropIm X Y L r) w) := by
  have HA : Hid (cropIm X Y L r = (zeroIm, false)) := Lib.hid (crop_no fun h => h.2.2 h3)
  have Ho := Lib.hid h1
  have HC : Hid (∀ V : World, Calls Try.prog 76 #[.agg #[.int .i64 0, .int .i64 0, .int .i64 X, .int .i64 Y], .agg #[.int .i64 r.x, .int .i64 r.y, .int .i64 r.w, .int .i64 r.h]] V fun e w' => e = .returned (.bool true) ∧ Below V.heap.size V w') := Lib.hid (fun V => by have h := coversI_any ⟨0, 0, X, Y⟩ r V; rw [h2] at h; exact h)
  have HE : Hid (∀ V : World, Calls Try.prog 77 #[.agg #[.int .i64 r.x, .int .i64 r.y, .int .i64 r.w, .int .i64 r.h]] V fun e w' => e = .returned (.bool true) ∧ Below V.heap.size V w') := Lib.hid (fun V => empI_yes' r h3 V)
  clear h1 h2 h3
  obtain ⟨A, c, rfl⟩ := hv.form
  have hS := FlA.born w X Y (.slice A L.length c) r
  have hd := fl_res w X Y (.slice A L.length c) r
  have hrv := ((hv.alloc (.cells #[.int .i64 X, .int .i64 Y, .slice A L.length c] 28)).alloc (.cells #[.int .i64 r.x, .int .i64 r.y, .int .i64 r.w, .int .i64 r.h] 60)).alloc (.cells #[.int .i64 0, .int .i64 0, .slice none 0 0] 28)
  clear hv
  go_enter Try.func52, Try.ntmps52
  go_upto_region 1 with fail
  refine wp_region_held_drew (S := fun V => FlA w X Y (.slice A L.length c) r V) (by kernel_rfl) (hS.call (Below.refl _ _).drew) (fun hS => ?_)
  replace hd := hd.call (Below.refl _ _).drew
  replace hrv := hrv.drew
  refine wpAnyH_take (i := 0) (v := .agg #[.int .i64 X, .int .i64 Y, .slice A L.length c]) rfl (by kernel_rfl) (by kernel_rfl) (by kernel_rfl) (fun _ _ _ h => h) (Or.inl ⟨by kernel_rfl, by intro w' hSw; (try dsimp only at hSw); (obtain ⟨a0, a1, a2⟩ := hSw.a.cells); (obtain ⟨b0, b1, b2, b3⟩ := hSw.b.cells); go_simp⟩) (by assumption) ?_
  (try simp only [Act.put]); (try simp only [List.setIfInBounds_toArray]); (try simp only [List.set_cons_zero, List.set_cons_succ])
  refine wpAnyH_ready (rs := [1]) (by kernel_rfl) (by simp) ?_
  refine (AllReadyH.cons rfl (fun K hK => ?_) AllReadyH.nil)
  · rw [if_pos (by kernel_rfl)]
    (try simp only [List.getElem_toArray]); (try simp only [List.getElem_cons_succ]); (try simp only [List.getElem_cons_zero])
    go_simp
    with_reducible refine (imI X Y _ L _ hrv).mono ?_
    rintro e W' ⟨rfl, hb⟩
    dsimp only
    rw [imB_yes Ho.out]
    have hd := hd.call hb
    have hrv := hrv.call hb
    refine hK.out _ _ (hS.call hb) (fun hS => ?_)
    clear hK
    (try simp only [Act.put]); (try simp only [List.setIfInBounds_toArray]); (try simp only [List.set_cons_zero, List.set_cons_succ])
    refine wpAnyH_take (i := 2) (v := .bool false) rfl (by kernel_rfl) (by kernel_rfl) (by kernel_rfl) (fun _ _ _ h => h) (Or.inl ⟨by kernel_rfl, by intro w' hSw; (try dsimp only at hSw); (obtain ⟨a0, a1, a2⟩ := hSw.a.cells); (obtain ⟨b0, b1, b2, b3⟩ := hSw.b.cells); go_simp⟩) (by assumption) ?_
    refine wpAnyH_take (i := 3) (v := .bool false) rfl (by kernel_rfl) (by kernel_rfl) (by kernel_rfl) (fun _ _ _ h => h) (Or.inl ⟨by kernel_rfl, by intro w' hSw; (try dsimp only at hSw); (obtain ⟨a0, a1, a2⟩ := hSw.a.cells); (obtain ⟨b0, b1, b2, b3⟩ := hSw.b.cells); go_simp⟩) (by assumption) ?_
    refine wpAnyH_take (i := 4) (v := .agg #[.int .i64 X, .int .i64 Y, .slice A L.length c]) rfl (by kernel_rfl) (by kernel_rfl) (by kernel_rfl) (fun _ _ _ h => h) (Or.inl ⟨by kernel_rfl, by intro w' hSw; (try dsimp only at hSw); (obtain ⟨a0, a1, a2⟩ := hSw.a.cells); (obtain ⟨b0, b1, b2, b3⟩ := hSw.b.cells); go_simp⟩) (by assumption) ?_
    refine wpAnyH_take (i := 6) (v := .agg #[.int .i64 r.x, .int .i64 r.y, .int .i64 r.w, .int .i64 r.h]) rfl (by kernel_rfl) (by kernel_rfl) (by kernel_rfl) (fun _ _ _ h => h) (Or.inl ⟨by kernel_rfl, by intro w' hSw; (try dsimp only at hSw); (obtain ⟨a0, a1, a2⟩ := hSw.a.cells); (obtain ⟨b0, b1, b2, b3⟩ := hSw.b.cells); go_simp⟩) (by assumption) ?_
    (try simp only [Act.put]); (try simp only [List.setIfInBounds_toArray]); (try simp only [List.set_cons_zero, List.set_cons_succ])
    refine wpAnyH_ready (rs := [5]) (by kernel_rfl) (by simp) ?_
    refine (AllReadyH.cons rfl (fun K hK => ?_) AllReadyH.nil)
    · rw [if_pos (by kernel_rfl)]
      (try simp only [List.getElem_toArray]); (try simp only [List.getElem_cons_succ]); (try simp only [List.getElem_cons_zero])
      go_simp
      with_reducible refine (frameI X Y _ _ _ _).mono ?_
      rintro e W' ⟨rfl, hb⟩
      dsimp only
      have hd := hd.call hb
      have hrv := hrv.call hb
      refine hK.out _ _ (hS.call hb) (fun hS => ?_)
      clear hK
      (try simp only [Act.put]); (try simp only [List.setIfInBounds_toArray]); (try simp only [List.set_cons_zero, List.set_cons_succ])
      refine wpAnyH_ready (rs := [7]) (by kernel_rfl) (by simp) ?_
      refine (AllReadyH.cons rfl (fun K hK => ?_) AllReadyH.nil)
      · rw [if_pos (by kernel_rfl)]
        (try simp only [List.getElem_toArray]); (try simp only [List.getElem_cons_succ]); (try simp only [List.getElem_cons_zero])
        go_simp
        with_reducible refine (HC.out _).mono ?_
        rintro e W' ⟨rfl, hb⟩
        dsimp only
        have hd := hd.call hb
        have hrv := hrv.call hb
        refine hK.out _ _ (hS.call hb) (fun hS => ?_)
        clear hK
        (try simp only [Act.put]); (try simp only [List.setIfInBounds_toArray]); (try simp only [List.set_cons_zero, List.set_cons_succ])
        refine wpAnyH_take (i := 8) (v := .bool false) rfl (by kernel_rfl) (by kernel_rfl) (by kernel_rfl) (fun _ _ _ h => h) (Or.inl ⟨by kernel_rfl, by intro w' hSw; (try dsimp only at hSw); (obtain ⟨a0, a1, a2⟩ := hSw.a.cells); (obtain ⟨b0, b1, b2, b3⟩ := hSw.b.cells); go_simp⟩) (by assumption) ?_
        refine wpAnyH_take (i := 9) (v := .bool false) rfl (by kernel_rfl) (by kernel_rfl) (by kernel_rfl) (fun _ _ _ h => h) (Or.inl ⟨by kernel_rfl, by intro w' hSw; (try dsimp only at hSw); (obtain ⟨a0, a1, a2⟩ := hSw.a.cells); (obtain ⟨b0, b1, b2, b3⟩ := hSw.b.cells); go_simp⟩) (by assumption) ?_
        refine wpAnyH_take (i := 10) (v := .bool false) rfl (by kernel_rfl) (by kernel_rfl) (by kernel_rfl) (fun _ _ _ h => h) (Or.inl ⟨by kernel_rfl, by intro w' hSw; (try dsimp only at hSw); (obtain ⟨a0, a1, a2⟩ := hSw.a.cells); (obtain ⟨b0, b1, b2, b3⟩ := hSw.b.cells); go_simp⟩) (by assumption) ?_
        refine wpAnyH_take (i := 11) (v := .agg #[.int .i64 r.x, .int .i64 r.y, .int .i64 r.w, .int .i64 r.h]) rfl (by kernel_rfl) (by kernel_rfl) (by kernel_rfl) (fun _ _ _ h => h) (Or.inl ⟨by kernel_rfl, by intro w' hSw; (try dsimp only at hSw); (obtain ⟨a0, a1, a2⟩ := hSw.a.cells); (obtain ⟨b0, b1, b2, b3⟩ := hSw.b.cells); go_simp⟩) (by assumption) ?_
        (try simp only [Act.put]); (try simp only [List.setIfInBounds_toArray]); (try simp only [List.set_cons_zero, List.set_cons_succ])
        refine wpAnyH_ready (rs := [12]) (by kernel_rfl) (by simp) ?_
        refine (AllReadyH.cons rfl (fun K hK => ?_) AllReadyH.nil)
        · rw [if_pos (by kernel_rfl)]
          (try simp only [List.getElem_toArray]); (try simp only [List.getElem_cons_succ]); (try simp only [List.getElem_cons_zero])
          go_simp
          with_reducible refine (HE.out _).mono ?_
          rintro e W' ⟨rfl, hb⟩
          dsimp only
          have hd := hd.call hb
          have hrv := hrv.call hb
          refine hK.out _ _ (hS.call hb) (fun hS => ?_)
          clear hK
          (try simp only [Act.put]); (try simp only [List.setIfInBounds_toArray]); (try simp only [List.set_cons_zero, List.set_cons_succ])
          refine wpAnyH_take (i := 13) (v := .bool true) rfl (by kernel_rfl) (by kernel_rfl) (by kernel_rfl) (fun _ _ _ h => h) (Or.inl ⟨by kernel_rfl, by intro w' hSw; (try dsimp only at hSw); (obtain ⟨a0, a1, a2⟩ := hSw.a.cells); (obtain ⟨b0, b1, b2, b3⟩ := hSw.b.cells); go_simp⟩) (by assumption) ?_
          refine wpAnyH_done (by kernel_rfl) ?_ _
          obtain ⟨d0, d1, d2⟩ := hd.cells
          have f0 := hd.frozen 0
          have f1 := hd.frozen 1
          have f2 := hd.frozen 2
          go_wp2_with fail
          have j := hd.set3 0 0 (.slice none 0 0)
          obtain ⟨x0, x1, x2⟩ := j.cells
          refine bodyPost_ret (v := .tuple #[.agg #[.int .i64 0, .int .i64 0, .slice none 0 0], .bool false]) (by simp [results, Try.results52, go_sem, x0, x1, x2]) rfl ?_
          rw [HA.out]
          exact ansCr_no (((hS.bw.setCell (by dsimp only; omega) _).setCell (by dsimp only; omega) _).setCell (by dsimp only; omega) _)
set_option maxHeartbeats 1000000 in
set_option maxRecDepth 10000 in
theorem cropI_ok (W H X Y n h : Nat) (wl : 1 ≤ W) (wh : W ≤ 16) (hl : 1 ≤ H) (hh : H ≤ 16) (hn1 : 1 ≤ n) (hh1 : 1 ≤ h) (hXn : X + n ≤ W) (hYh : Y + h ≤ H) (gu cu : Nat) (L : List Int) (w : World) (h1 : imOk W H L) (h2 : covB ⟨0, 0, W, H⟩ ⟨X, Y, n, h⟩ = true) (h3 : ¬ (⟨X, Y, n, h⟩ : Rc).emp) (hL : L.length = W * H) (hcu : L.length ≤ cu) (hgu : gu < w.heap.size) (hv : RdI w (.slice (some ⟨gu, 0, none⟩) L.length cu) L) :
    Calls Try.prog 52 #[.agg #[.int .i64 W, .int .i64 H, .slice (some ⟨gu, 0, none⟩) L.length cu], .agg #[.int .i64 X, .int .i64 Y, .int .i64 n, .int .i64 h]] w (AnsCr (cropIm W H L ⟨X, Y, n, h⟩) w) := by
  have HA : Hid (cropIm W H L ⟨X, Y, n, h⟩ = (⟨n, h, rowsL W L X Y n h⟩, true)) := Lib.hid (crop_val h1 h2 h3)
  have Ho := Lib.hid h1
  have HL := Lib.hid hL
  have Hr : Hid ((⟨X, Y, n, h⟩ : Rc).ok) := Lib.hid (by unfold Rc.ok; dsimp only; omega)
  obtain ⟨N, hN⟩ : ∃ N, N = n * h := ⟨_, rfl⟩
  have e1 : (n : Int) * (h : Int) = (N : Int) := by rw [hN]; simp
  have hN256 : N ≤ 256 := by rw [hN]; exact Nat.mul_le_mul (show n ≤ 16 by omega) (show h ≤ 16 by omega)
  obtain ⟨i0, hi, hz0, hz1, hz2⟩ := info_parts infoInt
  have HC : Hid (∀ V : World, Calls Try.prog 76 #[.agg #[.int .i64 0, .int .i64 0, .int .i64 W, .int .i64 H], .agg #[.int .i64 X, .int .i64 Y, .int .i64 n, .int .i64 h]] V fun e w' => e = .returned (.bool true) ∧ Below V.heap.size V w') := Lib.hid (fun V => by have h := coversI_any ⟨0, 0, W, H⟩ ⟨X, Y, n, h⟩ V; rw [h2] at h; exact h)
  have HE : Hid (∀ V : World, Calls Try.prog 77 #[.agg #[.int .i64 X, .int .i64 Y, .int .i64 n, .int .i64 h]] V fun e w' => e = .returned (.bool false) ∧ Below V.heap.size V w') := Lib.hid (fun V => empI_no' ⟨X, Y, n, h⟩ h3 V)
  clear h1 h2 h3 hL hN
  have hS := FlA.born w W H (.slice (some ⟨gu, 0, none⟩) L.length cu) ⟨X, Y, n, h⟩
  have hd := fl_res w W H (.slice (some ⟨gu, 0, none⟩) L.length cu) ⟨X, Y, n, h⟩
  have hrv := ((hv.alloc (.cells #[.int .i64 W, .int .i64 H, .slice (some ⟨gu, 0, none⟩) L.length cu] 28)).alloc (.cells #[.int .i64 X, .int .i64 Y, .int .i64 n, .int .i64 h] 60)).alloc (.cells #[.int .i64 0, .int .i64 0, .slice none 0 0] 28)
  clear hv
  go_enter Try.func52, Try.ntmps52
  go_upto_region 1 with fail
  refine wp_region_held_drew (S := fun V => FlA w W H (.slice (some ⟨gu, 0, none⟩) L.length cu) ⟨X, Y, n, h⟩ V) (by kernel_rfl) (hS.call (Below.refl _ _).drew) (fun hS => ?_)
  replace hd := hd.call (Below.refl _ _).drew
  replace hrv := hrv.drew
  refine wpAnyH_take (i := 0) (v := .agg #[.int .i64 W, .int .i64 H, .slice (some ⟨gu, 0, none⟩) L.length cu]) rfl (by kernel_rfl) (by kernel_rfl) (by kernel_rfl) (fun _ _ _ h => h) (Or.inl ⟨by kernel_rfl, by intro w' hSw; (try dsimp only at hSw); (obtain ⟨a0, a1, a2⟩ := hSw.a.cells); (obtain ⟨b0, b1, b2, b3⟩ := hSw.b.cells); (dsimp only at b0 b1 b2 b3); go_simp⟩) (by assumption) ?_
  (try simp only [Act.put]); (try simp only [List.setIfInBounds_toArray]); (try simp only [List.set_cons_zero, List.set_cons_succ])
  refine wpAnyH_ready (rs := [1]) (by kernel_rfl) (by simp) ?_
  refine (AllReadyH.cons rfl (fun K hK => ?_) AllReadyH.nil)
  · rw [if_pos (by kernel_rfl)]
    (try simp only [List.getElem_toArray]); (try simp only [List.getElem_cons_succ]); (try simp only [List.getElem_cons_zero])
    go_simp
    with_reducible refine (imI W H _ L _ hrv).mono ?_
    rintro e W' ⟨rfl, hb⟩
    dsimp only
    rw [imB_yes Ho.out]
    have hd := hd.call hb
    have hrv := hrv.call hb
    refine hK.out _ _ (hS.call hb) (fun hS => ?_)
    clear hK
    (try simp only [Act.put]); (try simp only [List.setIfInBounds_toArray]); (try simp only [List.set_cons_zero, List.set_cons_succ])
    refine wpAnyH_take (i := 2) (v := .bool false) rfl (by kernel_rfl) (by kernel_rfl) (by kernel_rfl) (fun _ _ _ h => h) (Or.inl ⟨by kernel_rfl, by intro w' hSw; (try dsimp only at hSw); (obtain ⟨a0, a1, a2⟩ := hSw.a.cells); (obtain ⟨b0, b1, b2, b3⟩ := hSw.b.cells); (dsimp only at b0 b1 b2 b3); go_simp⟩) (by assumption) ?_
    refine wpAnyH_take (i := 3) (v := .bool false) rfl (by kernel_rfl) (by kernel_rfl) (by kernel_rfl) (fun _ _ _ h => h) (Or.inl ⟨by kernel_rfl, by intro w' hSw; (try dsimp only at hSw); (obtain ⟨a0, a1, a2⟩ := hSw.a.cells); (obtain ⟨b0, b1, b2, b3⟩ := hSw.b.cells); (dsimp only at b0 b1 b2 b3); go_simp⟩) (by assumption) ?_
    refine wpAnyH_take (i := 4) (v := .agg #[.int .i64 W, .int .i64 H, .slice (some ⟨gu, 0, none⟩) L.length cu]) rfl (by kernel_rfl) (by kernel_rfl) (by kernel_rfl) (fun _ _ _ h => h) (Or.inl ⟨by kernel_rfl, by intro w' hSw; (try dsimp only at hSw); (obtain ⟨a0, a1, a2⟩ := hSw.a.cells); (obtain ⟨b0, b1, b2, b3⟩ := hSw.b.cells); (dsimp only at b0 b1 b2 b3); go_simp⟩) (by assumption) ?_
    refine wpAnyH_take (i := 6) (v := .agg #[.int .i64 X, .int .i64 Y, .int .i64 n, .int .i64 h]) rfl (by kernel_rfl) (by kernel_rfl) (by kernel_rfl) (fun _ _ _ h => h) (Or.inl ⟨by kernel_rfl, by intro w' hSw; (try dsimp only at hSw); (obtain ⟨a0, a1, a2⟩ := hSw.a.cells); (obtain ⟨b0, b1, b2, b3⟩ := hSw.b.cells); (dsimp only at b0 b1 b2 b3); go_simp⟩) (by assumption) ?_
    (try simp only [Act.put]); (try simp only [List.setIfInBounds_toArray]); (try simp only [List.set_cons_zero, List.set_cons_succ])
    refine wpAnyH_ready (rs := [5]) (by kernel_rfl) (by simp) ?_
    refine (AllReadyH.cons rfl (fun K hK => ?_) AllReadyH.nil)
    · rw [if_pos (by kernel_rfl)]
      (try simp only [List.getElem_toArray]); (try simp only [List.getElem_cons_succ]); (try simp only [List.getElem_cons_zero])
      go_simp
      with_reducible refine (frameI W H _ _ _ _).mono ?_
      rintro e W' ⟨rfl, hb⟩
      dsimp only
      have hd := hd.call hb
      have hrv := hrv.call hb
      refine hK.out _ _ (hS.call hb) (fun hS => ?_)
      clear hK
      (try simp only [Act.put]); (try simp only [List.setIfInBounds_toArray]); (try simp only [List.set_cons_zero, List.set_cons_succ])
      refine wpAnyH_ready (rs := [7]) (by kernel_rfl) (by simp) ?_
      refine (AllReadyH.cons rfl (fun K hK => ?_) AllReadyH.nil)
      · rw [if_pos (by kernel_rfl)]
        (try simp only [List.getElem_toArray]); (try simp only [List.getElem_cons_succ]); (try simp only [List.getElem_cons_zero])
        go_simp
        with_reducible refine (HC.out _).mono ?_
        rintro e W' ⟨rfl, hb⟩
        dsimp only
        have hd := hd.call hb
        have hrv := hrv.call hb
        refine hK.out _ _ (hS.call hb) (fun hS => ?_)
        clear hK
        (try simp only [Act.put]); (try simp only [List.setIfInBounds_toArray]); (try simp only [List.set_cons_zero, List.set_cons_succ])
        refine wpAnyH_take (i := 8) (v := .bool false) rfl (by kernel_rfl) (by kernel_rfl) (by kernel_rfl) (fun _ _ _ h => h) (Or.inl ⟨by kernel_rfl, by intro w' hSw; (try dsimp only at hSw); (obtain ⟨a0, a1, a2⟩ := hSw.a.cells); (obtain ⟨b0, b1, b2, b3⟩ := hSw.b.cells); (dsimp only at b0 b1 b2 b3); go_simp⟩) (by assumption) ?_
        refine wpAnyH_take (i := 9) (v := .bool false) rfl (by kernel_rfl) (by kernel_rfl) (by kernel_rfl) (fun _ _ _ h => h) (Or.inl ⟨by kernel_rfl, by intro w' hSw; (try dsimp only at hSw); (obtain ⟨a0, a1, a2⟩ := hSw.a.cells); (obtain ⟨b0, b1, b2, b3⟩ := hSw.b.cells); (dsimp only at b0 b1 b2 b3); go_simp⟩) (by assumption) ?_
        refine wpAnyH_take (i := 10) (v := .bool false) rfl (by kernel_rfl) (by kernel_rfl) (by kernel_rfl) (fun _ _ _ h => h) (Or.inl ⟨by kernel_rfl, by intro w' hSw; (try dsimp only at hSw); (obtain ⟨a0, a1, a2⟩ := hSw.a.cells); (obtain ⟨b0, b1, b2, b3⟩ := hSw.b.cells); (dsimp only at b0 b1 b2 b3); go_simp⟩) (by assumption) ?_
        refine wpAnyH_take (i := 11) (v := .agg #[.int .i64 X, .int .i64 Y, .int .i64 n, .int .i64 h]) rfl (by kernel_rfl) (by kernel_rfl) (by kernel_rfl) (fun _ _ _ h => h) (Or.inl ⟨by kernel_rfl, by intro w' hSw; (try dsimp only at hSw); (obtain ⟨a0, a1, a2⟩ := hSw.a.cells); (obtain ⟨b0, b1, b2, b3⟩ := hSw.b.cells); (dsimp only at b0 b1 b2 b3); go_simp⟩) (by assumption) ?_
        (try simp only [Act.put]); (try simp only [List.setIfInBounds_toArray]); (try simp only [List.set_cons_zero, List.set_cons_succ])
        refine wpAnyH_ready (rs := [12]) (by kernel_rfl) (by simp) ?_
        refine (AllReadyH.cons rfl (fun K hK => ?_) AllReadyH.nil)
        · rw [if_pos (by kernel_rfl)]
          (try simp only [List.getElem_toArray]); (try simp only [List.getElem_cons_succ]); (try simp only [List.getElem_cons_zero])
          go_simp
          with_reducible refine (HE.out _).mono ?_
          rintro e W' ⟨rfl, hb⟩
          dsimp only
          have hd := hd.call hb
          have hrv := hrv.call hb
          refine hK.out _ _ (hS.call hb) (fun hS => ?_)
          clear hK
          (try simp only [Act.put]); (try simp only [List.setIfInBounds_toArray]); (try simp only [List.set_cons_zero, List.set_cons_succ])
          refine wpAnyH_take (i := 13) (v := .bool false) rfl (by kernel_rfl) (by kernel_rfl) (by kernel_rfl) (fun _ _ _ h => h) (Or.inl ⟨by kernel_rfl, by intro w' hSw; (try dsimp only at hSw); (obtain ⟨a0, a1, a2⟩ := hSw.a.cells); (obtain ⟨b0, b1, b2, b3⟩ := hSw.b.cells); (dsimp only at b0 b1 b2 b3); go_simp⟩) (by assumption) ?_
          refine wpAnyH_done (by kernel_rfl) ?_ _
          obtain ⟨b0, b1, b2, b3⟩ := hS.b.cells
          dsimp only at b0 b1 b2 b3
          have hlo := hd.lt
          go_wp2_with (at_make; refine wpList_make_own _ rfl _ _ 26 rfl (w.heap.size + 3) 3 i0 (.int .i64 0) 1 Try.underlying26 hi hz0 hz1 .i64 .i64 _ N rfl rfl (by first | rfl | exact e1 | simp) (by rw [hz2]; omega) (by unfold maxLen; omega) (by omega) ?_; intro w1 hown1 hgr1; have hK := CrSt.start hS hd hrv hown1 hgr1; clear b0 b1 b2 b3 hown1 hgr1; obtain ⟨b0, b1, b2, b3⟩ := hK.fl.b.cells; dsimp only at b0 b1 b2 b3)
          clear b0 b1 b2 b3
          go_loopg [6, 7] h (fun gk s6 s7 wr => ∃ (y q cv : Nat) (Av : Option Addr) (V : World), V = wr ∧ Y ≤ y ∧ y ≤ Y + h ∧ gk = Y + h - y ∧ s6 = .slice Av q cv ∧ s7 = .int .i64 y ∧ Hid (q = (y - Y) * n) ∧ q ≤ 256 ∧ CrSt w W H (.slice (some ⟨gu, 0, none⟩) L.length cu) ⟨X, Y, n, h⟩ L (.slice Av q cv) q (rowsL W L X Y n (y - Y)) V)
          case atStart => exact ⟨Y, 0, _, _, _, rfl, Nat.le_refl _, by omega, by omega, rfl, rfl, Lib.hid (by simp), by omega, by rw [Nat.sub_self]; exact hK⟩
          case round =>
            clear hK
            obtain ⟨y, q, cv, Av, wy, hV, hy1, hy2, rfl, rfl, rfl, Hq, hq256, hK⟩ := hrel
            subst hV
            obtain ⟨b0, b1, b2, b3⟩ := hK.fl.b.cells
            dsimp only at b0 b1 b2 b3
            go_wp2_with fail
            refine (bottom_nat X Y n h (by omega) (by omega) _).mono ?_
            rintro e w5 ⟨rfl, hb⟩
            replace hK := hK.call hb
            clear hb b0 b1 b2 b3
            by_cases hyl : y < Y + h
            · have hyi : (y : Int) < (Y : Int) + (h : Int) := by omega
              obtain ⟨m, hm⟩ : ∃ m, m = y * W := ⟨_, rfl⟩
              have hfit : m + W ≤ L.length := by rw [hm, HL.out]; have h5 : (y + 1) * W ≤ H * W := Nat.mul_le_mul_right _ (by omega); rw [Nat.add_mul, Nat.one_mul, Nat.mul_comm H W] at h5; exact h5
              have Hm := Lib.hid hm
              clear hm
              obtain ⟨a0, a1, a2⟩ := hK.fl.a.cells
              obtain ⟨b0, b1, b2, b3⟩ := hK.fl.b.cells
              dsimp only at b0 b1 b2 b3
              go_wp2_with fail
              refine (spanI W X n y m H Y h gu L.length cu _ wh (by omega) Hm.out.symm hfit hcu hn1 hXn Hr.out).mono ?_
              rintro e w6 ⟨⟨c6, rfl⟩, hb⟩
              replace hK := hK.call hb
              clear hb a0 a1 a2 b0 b1 b2 b3
              have hsz := hK.d.lt
              go_wp2_with (at_builtin; refine wpList_append_own_at _ rfl _ _ 26 rfl (w.heap.size + 3) 3 i0 (.int .i64 0) 1 8 Try.underlying26 hi hz0 hz1 hz2 rfl (by decide) _ _ _ rfl hK.own ⟨gu, m + X, none⟩ n c6 (intCells (tabI n (fun i => L.getD (m + X + i) 0))) rfl (by rw [intCells_length, tabI_length, Nat.mul_one]) (span_cells (row := none) hK.rv (World.grownBy.refl _ _) (by simp) (by omega)) (intCells_one _) (by unfold maxLen; omega) (by omega) (by omega) ?_; intro v7 w7 hown7 hgr7 _ _; obtain ⟨g7, c7, hv7, _, _⟩ := hown7.form (by omega); subst hv7)
              rw [← intCells_append] at hown7
              replace hK := hK.next (fun g hg => by have e : gu = g := Option.some.inj hg; omega) hown7 hgr7
              go_roundg (Y + h - (y + 1))
              case measure => omega
              case rel =>
                refine ⟨y + 1, q + n, c7, some ⟨g7, 0, none⟩, _, rfl, by omega, by omega, rfl, rfl, by go_num, Lib.hid (by rw [show y + 1 - Y = y - Y + 1 by omega, Nat.add_mul, Nat.one_mul, ← Hq.out]), ?_, ?_⟩
                · have h6 : (y - Y) * n ≤ 15 * n := Nat.mul_le_mul_right _ (by omega)
                  have := Hq.out
                  omega
                · rw [show y + 1 - Y = y - Y + 1 by omega]
                  unfold rowsL
                  rw [show Y + (y - Y) = y by omega, ← Hm.out]
                  exact hK
            · obtain rfl : y = Y + h := by omega
              have hyi : ¬ ((Y + h : Nat) : Int) < (Y : Int) + (h : Int) := by omega
              obtain ⟨b0, b1, b2, b3⟩ := hK.fl.b.cells
              dsimp only at b0 b1 b2 b3
              obtain ⟨d0, d1, d2⟩ := hK.d.cells
              have f0 := hK.d.frozen 0
              have f1 := hK.d.frozen 1
              have f2 := hK.d.frozen 2
              go_wp2_with fail
              have j := hK.d.set3 n h (.slice Av q cv)
              obtain ⟨x0, x1, x2⟩ := j.cells
              refine bodyPost_ret (v := .tuple #[.agg #[.int .i64 n, .int .i64 h, .slice Av q cv], .bool true]) (by simp [results, Try.results52, go_sem, x0, x1, x2]) rfl ?_
              rw [HA.out]
              refine ansCr_set (lo := w.heap.size + 3) (b := w.heap.size + 2) (n := q) ?_ ?_ (by omega) (by omega) hK.fl.bw
              · have h6 := hK.own
                rw [show Y + h - Y = h by omega] at h6
                exact h6
              · rw [rowsL_length, Hq.out, show Y + h - Y = h by omega]
theorem cropI_any (X Y : Int) (v : Value) (L : List Int) (r : Rc) (w : World) (hv : RdI w v L) :
    Calls Try.prog 52 #[.agg #[.int .i64 X, .int .i64 Y, v], .agg #[.int .i64 r.x, .int .i64 r.y, .int .i64 r.w, .int .i64 r.h]] w (AnsCr (cropIm X Y L r) w) := by
  by_cases h1 : imOk X Y L
  · rcases h2 : covB ⟨0, 0, X, Y⟩ r with _ | _
    · exact cropI_bad2 X Y v L r w hv h1 h2
    · by_cases h3 : r.emp
      · exact cropI_bad3 X Y v L r w hv h1 h2 h3
      · obtain ⟨W, H, rfl, rfl, wl, wh, hl, hh, hL⟩ := im_nat h1
        obtain ⟨X, Y, n, h, rfl, k1, k2, k3, k4⟩ := crop_nat h2 h3
        obtain ⟨gu, cu, rfl, hgu, hcu⟩ := rd_block hv (by rw [hL]; exact Nat.mul_pos wl hl)
        exact cropI_ok W H X Y n h wl wh hl hh k1 k2 k3 k4 gu cu L w h1 h2 h3 hL hcu hgu hv
  · exact cropI_bad1 X Y v L r w hv h1
end Go.Proofs.Ytaggldhlnjbnhaa
