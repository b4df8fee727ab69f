/- The contract of the program's DifferenceOf. No statement is proved here. -/
import Derived.Test.YtmjndoedchiggaaMA
import Derived.Test.YtmjndoedchiggaaImR
import Derived.Test.YtmjndoedchiggaaImO
import Derived.Test.YtmjndoedchiggaaImM
import Derived.Test.YtmjndoedchiggaaImV
import Derived.Test.YtmjndoedchiggaaCpyB
import Derived.Test.YtmjndoedchiggaaImP
import Derived.Test.YtmjndoedchiggaaDifB
import Derived.Test.YtmjndoedchiggaaProg
import Derived.WalkKit
import Derived.ProofKit
import Derived.OpenShut
import Derived.WalkLawsBesides
import Derived.WalkSpells
import Derived.ShutString
import Derived.ChangeOld
import Derived.Below
import Derived.Lib.Hide
import Derived.BigQuiet
import Derived.Deep.QuietTactic
import Derived.Maps.AppendAt
import Derived.Deep.OwnRows
import Derived.Handy
import Derived.Deep.Draws
import Derived.OwnWalk
import Derived.Deep.AppendLies
import Derived.Deep.LoopGhost
import Derived.Deep.Onto
import Derived.Laws.BitsAllLaws
import Derived.Lib.QuoteBits
import Derived.Test.YtmjndoedchiggaaShelf
import Derived.Laws.CopyOwn
import Derived.Deep.RegionLaw
import Derived.Deep.RegionHeld3
import Derived.Deep.DeepCutAuto
import Derived.Great.BuildSlice
import Derived.Deep.MidRow
import Derived.Deep.WholeRow
import Derived.Laws.AppendOwn
namespace Go.Proofs.Ytmjndoedchiggaa
open Go.RowKit
/-- A pixel of the canvas, where the image is sound. -/
theorem pixL {W H x y : Nat} {v : Value} {L : List Int} (h : imOk W H L) (hx : x < W) (hy : y < H) (p : Int) (hp : L.getD (y * W + x) 0 = p) (V : World) (hv : RdI V v L) :
    Calls Try.prog 58 #[.agg #[.int .i64 W, .int .i64 H, v], .int .i64 x, .int .i64 y] V fun e w' => e = .returned (.int .i64 p) ∧ Below V.heap.size V w' := by
  have e : ((y : Int) * (W : Int) + (x : Int)).toNat = y * W + x := by
    obtain ⟨m, hm⟩ : ∃ m, m = y * W := ⟨_, rfl⟩
    have e1 : (y : Int) * (W : Int) = (m : Int) := by rw [hm]; simp
    rw [e1, ← hm]; omega
  refine (pixelI W H x y v L V h ⟨by omega, by omega⟩ ⟨by omega, by omega⟩ hv).mono ?_
  rintro e' w' ⟨rfl, hb⟩
  rw [e, hp]
  exact ⟨rfl, hb⟩
set_option maxHeartbeats 1000000 in
set_option maxRecDepth 10000 in
theorem difI_bad1 (X Y : Int) (v : Value) (L : List Int) (X2 Y2 : Int) (u : Value) (M : List Int) (w : World) (hv : RdI w v L) (hu : RdI w u M) (h1 : ¬ imOk X Y L) :
    Calls Try.prog 16 #[.agg #[.int .i64 X, .int .i64 Y, v], .agg #[.int .i64 X2, .int .i64 Y2, u]] w (RgAns (difL X Y L X2 Y2 M) w) := by
  have HA : Hid (difL X Y L X2 Y2 M = []) := Lib.hid (dif_no fun h => h1 h.1)
  have Ho := Lib.hid h1
  clear h1
  obtain ⟨A, c, rfl⟩ := hv.form
  obtain ⟨A2, c2, rfl⟩ := hu.form
  obtain ⟨w0, hw0⟩ : ∃ w0, w0 = (((w.alloc (.cells #[.int .i64 X, .int .i64 Y, .slice A L.length c] 26)).alloc (.cells #[.int .i64 X2, .int .i64 Y2, .slice A2 M.length c2] 26)).alloc (.cells #[.slice none 0 0] 34)) := ⟨_, rfl⟩
  have hS := DfB.born w X Y (.slice A L.length c) L X2 Y2 (.slice A2 M.length c2) M hv hu
  have hz : w0.heap.size = w.heap.size + 3 := by rw [hw0]; simp
  clear hv hu
  go_enter Try.func16, Try.ntmps16
  go_upto_region 1 with fail
  refine wp_region_held_drew (S := fun V => DfB w X Y (.slice A L.length c) L X2 Y2 (.slice A2 M.length c2) M V) (by kernel_rfl) (hS.call (Below.refl _ _).drew) (fun hS => ?_)
  refine wpAnyH_take (i := 0) (v := .agg #[.int .i64 X, .int .i64 Y, .slice A L.length c]) rfl (by kernel_rfl) (by kernel_rfl) (by kernel_rfl) (fun _ _ _ h => h) (Or.inl ⟨by kernel_rfl, by intro w' hSw; (try dsimp only at hSw); (obtain ⟨a0, a1, a2⟩ := hSw.a.cells); (obtain ⟨b0, b1, b2⟩ := hSw.b.cells); go_simp⟩) (by assumption) ?_
  (try simp only [Act.put]); (try simp only [List.setIfInBounds_toArray]); (try simp only [List.set_cons_zero, List.set_cons_succ])
  refine wpAnyH_ready (rs := [1]) (by kernel_rfl) (by simp) ?_
  refine (AllReadyH.cons rfl (fun K hK => ?_) AllReadyH.nil)
  · rw [if_pos (by kernel_rfl)]
    (try simp only [List.getElem_toArray]); (try simp only [List.getElem_cons_succ]); (try simp only [List.getElem_cons_zero])
    go_simp
    with_reducible refine (imI X Y _ L _ hS.rv).mono ?_
    rintro e W' ⟨rfl, hb⟩
    dsimp only
    rw [imB_no Ho.out]
    refine hK.out _ _ (hS.call hb) (fun hS => ?_)
    clear hK
    (try simp only [Act.put]); (try simp only [List.setIfInBounds_toArray]); (try simp only [List.set_cons_zero, List.set_cons_succ])
    refine wpAnyH_take (i := 2) (v := .bool true) rfl (by kernel_rfl) (by kernel_rfl) (by kernel_rfl) (fun _ _ _ h => h) (Or.inl ⟨by kernel_rfl, by intro w' hSw; (try dsimp only at hSw); (obtain ⟨a0, a1, a2⟩ := hSw.a.cells); (obtain ⟨b0, b1, b2⟩ := hSw.b.cells); go_simp⟩) (by assumption) ?_
    refine wpAnyH_take (i := 3) (v := .bool true) rfl (by kernel_rfl) (by kernel_rfl) (by kernel_rfl) (fun _ _ _ h => h) (Or.inl ⟨by kernel_rfl, by intro w' hSw; (try dsimp only at hSw); (obtain ⟨a0, a1, a2⟩ := hSw.a.cells); (obtain ⟨b0, b1, b2⟩ := hSw.b.cells); go_simp⟩) (by assumption) ?_
    refine wpAnyH_take (i := 4) (v := undef) rfl (by kernel_rfl) (by kernel_rfl) (by kernel_rfl) (fun _ _ _ h => h) (Or.inr ⟨by kernel_rfl, rfl⟩) (by assumption) ?_
    refine wpAnyH_take (i := 5) (v := undef) rfl (by kernel_rfl) (by kernel_rfl) (by kernel_rfl) (fun _ _ _ h => h) (Or.inr ⟨by kernel_rfl, rfl⟩) (by assumption) ?_
    refine wpAnyH_take (i := 6) (v := undef) rfl (by kernel_rfl) (by kernel_rfl) (by kernel_rfl) (fun _ _ _ h => h) (Or.inr ⟨by kernel_rfl, rfl⟩) (by assumption) ?_
    refine wpAnyH_take (i := 7) (v := .bool true) rfl (by kernel_rfl) (by kernel_rfl) (by kernel_rfl) (fun _ _ _ h => h) (Or.inl ⟨by kernel_rfl, by intro w' hSw; (try dsimp only at hSw); (obtain ⟨a0, a1, a2⟩ := hSw.a.cells); (obtain ⟨b0, b1, b2⟩ := hSw.b.cells); go_simp⟩) (by assumption) ?_
    refine wpAnyH_take (i := 8) (v := .bool true) rfl (by kernel_rfl) (by kernel_rfl) (by kernel_rfl) (fun _ _ _ h => h) (Or.inl ⟨by kernel_rfl, by intro w' hSw; (try dsimp only at hSw); (obtain ⟨a0, a1, a2⟩ := hSw.a.cells); (obtain ⟨b0, b1, b2⟩ := hSw.b.cells); go_simp⟩) (by assumption) ?_
    refine wpAnyH_take (i := 9) (v := undef) rfl (by kernel_rfl) (by kernel_rfl) (by kernel_rfl) (fun _ _ _ h => h) (Or.inr ⟨by kernel_rfl, rfl⟩) (by assumption) ?_
    refine wpAnyH_take (i := 10) (v := undef) rfl (by kernel_rfl) (by kernel_rfl) (by kernel_rfl) (fun _ _ _ h => h) (Or.inr ⟨by kernel_rfl, rfl⟩) (by assumption) ?_
    refine wpAnyH_take (i := 11) (v := undef) rfl (by kernel_rfl) (by kernel_rfl) (by kernel_rfl) (fun _ _ _ h => h) (Or.inr ⟨by kernel_rfl, rfl⟩) (by assumption) ?_
    refine wpAnyH_take (i := 12) (v := undef) rfl (by kernel_rfl) (by kernel_rfl) (by kernel_rfl) (fun _ _ _ h => h) (Or.inr ⟨by kernel_rfl, rfl⟩) (by assumption) ?_
    refine wpAnyH_take (i := 13) (v := undef) rfl (by kernel_rfl) (by kernel_rfl) (by kernel_rfl) (fun _ _ _ h => h) (Or.inr ⟨by kernel_rfl, rfl⟩) (by assumption) ?_
    refine wpAnyH_take (i := 14) (v := .bool true) rfl (by kernel_rfl) (by kernel_rfl) (by kernel_rfl) (fun _ _ _ h => h) (Or.inl ⟨by kernel_rfl, by intro w' hSw; (try dsimp only at hSw); (obtain ⟨a0, a1, a2⟩ := hSw.a.cells); (obtain ⟨b0, b1, b2⟩ := hSw.b.cells); go_simp⟩) (by assumption) ?_
    go_simp
    refine wpAnyH_done (by kernel_rfl) ?_ _
    have rf := hS.d.frozen
    have rc := hS.d.cell
    go_wp2_with fail
    refine bodyPost_ret (v := .agg #[.slice none 0 0]) (by simp [results, Try.results16, go_sem, rc]) rfl ?_
    rw [HA.out]
    exact nil_ans (hS.bw.setCell (by simp; try omega) _)
set_option maxHeartbeats 1000000 in
set_option maxRecDepth 10000 in
theorem difI_bad2 (X Y : Int) (v : Value) (L : List Int) (X2 Y2 : Int) (u : Value) (M : List Int) (w : World) (hv : RdI w v L) (hu : RdI w u M) (h1 : imOk X Y L) (h2 : ¬ imOk X2 Y2 M) :
    Calls Try.prog 16 #[.agg #[.int .i64 X, .int .i64 Y, v], .agg #[.int .i64 X2, .int .i64 Y2, u]] w (RgAns (difL X Y L X2 Y2 M) w) := by
  have HA : Hid (difL X Y L X2 Y2 M = []) := Lib.hid (dif_no fun h => h2 h.2.1)
  have Ho := Lib.hid h1
  have Ho2 := Lib.hid h2
  clear h1 h2
  obtain ⟨A, c, rfl⟩ := hv.form
  obtain ⟨A2, c2, rfl⟩ := hu.form
  obtain ⟨w0, hw0⟩ : ∃ w0, w0 = (((w.alloc (.cells #[.int .i64 X, .int .i64 Y, .slice A L.length c] 26)).alloc (.cells #[.int .i64 X2, .int .i64 Y2, .slice A2 M.length c2] 26)).alloc (.cells #[.slice none 0 0] 34)) := ⟨_, rfl⟩
  have hS := DfB.born w X Y (.slice A L.length c) L X2 Y2 (.slice A2 M.length c2) M hv hu
  have hz : w0.heap.size = w.heap.size + 3 := by rw [hw0]; simp
  clear hv hu
  go_enter Try.func16, Try.ntmps16
  go_upto_region 1 with fail
  refine wp_region_held_drew (S := fun V => DfB w X Y (.slice A L.length c) L X2 Y2 (.slice A2 M.length c2) M V) (by kernel_rfl) (hS.call (Below.refl _ _).drew) (fun hS => ?_)
  refine wpAnyH_take (i := 0) (v := .agg #[.int .i64 X, .int .i64 Y, .slice A L.length c]) rfl (by kernel_rfl) (by kernel_rfl) (by kernel_rfl) (fun _ _ _ h => h) (Or.inl ⟨by kernel_rfl, by intro w' hSw; (try dsimp only at hSw); (obtain ⟨a0, a1, a2⟩ := hSw.a.cells); (obtain ⟨b0, b1, b2⟩ := hSw.b.cells); go_simp⟩) (by assumption) ?_
  (try simp only [Act.put]); (try simp only [List.setIfInBounds_toArray]); (try simp only [List.set_cons_zero, List.set_cons_succ])
  refine wpAnyH_ready (rs := [1]) (by kernel_rfl) (by simp) ?_
  refine (AllReadyH.cons rfl (fun K hK => ?_) AllReadyH.nil)
  · rw [if_pos (by kernel_rfl)]
    (try simp only [List.getElem_toArray]); (try simp only [List.getElem_cons_succ]); (try simp only [List.getElem_cons_zero])
    go_simp
    with_reducible refine (imI X Y _ L _ hS.rv).mono ?_
    rintro e W' ⟨rfl, hb⟩
    dsimp only
    rw [imB_yes Ho.out]
    refine hK.out _ _ (hS.call hb) (fun hS => ?_)
    clear hK
    (try simp only [Act.put]); (try simp only [List.setIfInBounds_toArray]); (try simp only [List.set_cons_zero, List.set_cons_succ])
    refine wpAnyH_take (i := 2) (v := .bool false) rfl (by kernel_rfl) (by kernel_rfl) (by kernel_rfl) (fun _ _ _ h => h) (Or.inl ⟨by kernel_rfl, by intro w' hSw; (try dsimp only at hSw); (obtain ⟨a0, a1, a2⟩ := hSw.a.cells); (obtain ⟨b0, b1, b2⟩ := hSw.b.cells); go_simp⟩) (by assumption) ?_
    refine wpAnyH_take (i := 3) (v := .bool false) rfl (by kernel_rfl) (by kernel_rfl) (by kernel_rfl) (fun _ _ _ h => h) (Or.inl ⟨by kernel_rfl, by intro w' hSw; (try dsimp only at hSw); (obtain ⟨a0, a1, a2⟩ := hSw.a.cells); (obtain ⟨b0, b1, b2⟩ := hSw.b.cells); go_simp⟩) (by assumption) ?_
    refine wpAnyH_take (i := 4) (v := .agg #[.int .i64 X2, .int .i64 Y2, .slice A2 M.length c2]) rfl (by kernel_rfl) (by kernel_rfl) (by kernel_rfl) (fun _ _ _ h => h) (Or.inl ⟨by kernel_rfl, by intro w' hSw; (try dsimp only at hSw); (obtain ⟨a0, a1, a2⟩ := hSw.a.cells); (obtain ⟨b0, b1, b2⟩ := hSw.b.cells); go_simp⟩) (by assumption) ?_
    (try simp only [Act.put]); (try simp only [List.setIfInBounds_toArray]); (try simp only [List.set_cons_zero, List.set_cons_succ])
    refine wpAnyH_ready (rs := [5]) (by kernel_rfl) (by simp) ?_
    refine (AllReadyH.cons rfl (fun K hK => ?_) AllReadyH.nil)
    · rw [if_pos (by kernel_rfl)]
      (try simp only [List.getElem_toArray]); (try simp only [List.getElem_cons_succ]); (try simp only [List.getElem_cons_zero])
      go_simp
      with_reducible refine (imI X2 Y2 _ M _ hS.ru).mono ?_
      rintro e W' ⟨rfl, hb⟩
      dsimp only
      rw [imB_no Ho2.out]
      refine hK.out _ _ (hS.call hb) (fun hS => ?_)
      clear hK
      (try simp only [Act.put]); (try simp only [List.setIfInBounds_toArray]); (try simp only [List.set_cons_zero, List.set_cons_succ])
      refine wpAnyH_take (i := 6) (v := .bool true) rfl (by kernel_rfl) (by kernel_rfl) (by kernel_rfl) (fun _ _ _ h => h) (Or.inl ⟨by kernel_rfl, by intro w' hSw; (try dsimp only at hSw); (obtain ⟨a0, a1, a2⟩ := hSw.a.cells); (obtain ⟨b0, b1, b2⟩ := hSw.b.cells); go_simp⟩) (by assumption) ?_
      refine wpAnyH_take (i := 7) (v := .bool true) rfl (by kernel_rfl) (by kernel_rfl) (by kernel_rfl) (fun _ _ _ h => h) (Or.inl ⟨by kernel_rfl, by intro w' hSw; (try dsimp only at hSw); (obtain ⟨a0, a1, a2⟩ := hSw.a.cells); (obtain ⟨b0, b1, b2⟩ := hSw.b.cells); go_simp⟩) (by assumption) ?_
      refine wpAnyH_take (i := 8) (v := .bool true) rfl (by kernel_rfl) (by kernel_rfl) (by kernel_rfl) (fun _ _ _ h => h) (Or.inl ⟨by kernel_rfl, by intro w' hSw; (try dsimp only at hSw); (obtain ⟨a0, a1, a2⟩ := hSw.a.cells); (obtain ⟨b0, b1, b2⟩ := hSw.b.cells); go_simp⟩) (by assumption) ?_
      refine wpAnyH_take (i := 9) (v := undef) rfl (by kernel_rfl) (by kernel_rfl) (by kernel_rfl) (fun _ _ _ h => h) (Or.inr ⟨by kernel_rfl, rfl⟩) (by assumption) ?_
      refine wpAnyH_take (i := 10) (v := undef) rfl (by kernel_rfl) (by kernel_rfl) (by kernel_rfl) (fun _ _ _ h => h) (Or.inr ⟨by kernel_rfl, rfl⟩) (by assumption) ?_
      refine wpAnyH_take (i := 11) (v := undef) rfl (by kernel_rfl) (by kernel_rfl) (by kernel_rfl) (fun _ _ _ h => h) (Or.inr ⟨by kernel_rfl, rfl⟩) (by assumption) ?_
      refine wpAnyH_take (i := 12) (v := undef) rfl (by kernel_rfl) (by kernel_rfl) (by kernel_rfl) (fun _ _ _ h => h) (Or.inr ⟨by kernel_rfl, rfl⟩) (by assumption) ?_
      refine wpAnyH_take (i := 13) (v := undef) rfl (by kernel_rfl) (by kernel_rfl) (by kernel_rfl) (fun _ _ _ h => h) (Or.inr ⟨by kernel_rfl, rfl⟩) (by assumption) ?_
      refine wpAnyH_take (i := 14) (v := .bool true) rfl (by kernel_rfl) (by kernel_rfl) (by kernel_rfl) (fun _ _ _ h => h) (Or.inl ⟨by kernel_rfl, by intro w' hSw; (try dsimp only at hSw); (obtain ⟨a0, a1, a2⟩ := hSw.a.cells); (obtain ⟨b0, b1, b2⟩ := hSw.b.cells); go_simp⟩) (by assumption) ?_
      go_simp
      refine wpAnyH_done (by kernel_rfl) ?_ _
      have rf := hS.d.frozen
      have rc := hS.d.cell
      go_wp2_with fail
      refine bodyPost_ret (v := .agg #[.slice none 0 0]) (by simp [results, Try.results16, go_sem, rc]) rfl ?_
      rw [HA.out]
      exact nil_ans (hS.bw.setCell (by simp; try omega) _)
set_option maxHeartbeats 1000000 in
set_option maxRecDepth 10000 in
theorem difI_bad3 (X Y : Int) (v : Value) (L : List Int) (X2 Y2 : Int) (u : Value) (M : List Int) (w : World) (hv : RdI w v L) (hu : RdI w u M) (h1 : imOk X Y L) (h2 : imOk X2 Y2 M) (h3 : X ≠ X2) :
    Calls Try.prog 16 #[.agg #[.int .i64 X, .int .i64 Y, v], .agg #[.int .i64 X2, .int .i64 Y2, u]] w (RgAns (difL X Y L X2 Y2 M) w) := by
  have HA : Hid (difL X Y L X2 Y2 M = []) := Lib.hid (dif_no fun h => h3 h.2.2.1)
  have Ho := Lib.hid h1
  have Ho2 := Lib.hid h2
  have hx : (X == X2) = false := by rw [beq_eq_false_iff_ne]; exact h3
  clear h1 h2 h3
  obtain ⟨A, c, rfl⟩ := hv.form
  obtain ⟨A2, c2, rfl⟩ := hu.form
  obtain ⟨w0, hw0⟩ : ∃ w0, w0 = (((w.alloc (.cells #[.int .i64 X, .int .i64 Y, .slice A L.length c] 26)).alloc (.cells #[.int .i64 X2, .int .i64 Y2, .slice A2 M.length c2] 26)).alloc (.cells #[.slice none 0 0] 34)) := ⟨_, rfl⟩
  have hS := DfB.born w X Y (.slice A L.length c) L X2 Y2 (.slice A2 M.length c2) M hv hu
  have hz : w0.heap.size = w.heap.size + 3 := by rw [hw0]; simp
  clear hv hu
  go_enter Try.func16, Try.ntmps16
  go_upto_region 1 with fail
  refine wp_region_held_drew (S := fun V => DfB w X Y (.slice A L.length c) L X2 Y2 (.slice A2 M.length c2) M V) (by kernel_rfl) (hS.call (Below.refl _ _).drew) (fun hS => ?_)
  refine wpAnyH_take (i := 0) (v := .agg #[.int .i64 X, .int .i64 Y, .slice A L.length c]) rfl (by kernel_rfl) (by kernel_rfl) (by kernel_rfl) (fun _ _ _ h => h) (Or.inl ⟨by kernel_rfl, by intro w' hSw; (try dsimp only at hSw); (obtain ⟨a0, a1, a2⟩ := hSw.a.cells); (obtain ⟨b0, b1, b2⟩ := hSw.b.cells); go_simp⟩) (by assumption) ?_
  (try simp only [Act.put]); (try simp only [List.setIfInBounds_toArray]); (try simp only [List.set_cons_zero, List.set_cons_succ])
  refine wpAnyH_ready (rs := [1]) (by kernel_rfl) (by simp) ?_
  refine (AllReadyH.cons rfl (fun K hK => ?_) AllReadyH.nil)
  · rw [if_pos (by kernel_rfl)]
    (try simp only [List.getElem_toArray]); (try simp only [List.getElem_cons_succ]); (try simp only [List.getElem_cons_zero])
    go_simp
    with_reducible refine (imI X Y _ L _ hS.rv).mono ?_
    rintro e W' ⟨rfl, hb⟩
    dsimp only
    rw [imB_yes Ho.out]
    refine hK.out _ _ (hS.call hb) (fun hS => ?_)
    clear hK
    (try simp only [Act.put]); (try simp only [List.setIfInBounds_toArray]); (try simp only [List.set_cons_zero, List.set_cons_succ])
    refine wpAnyH_take (i := 2) (v := .bool false) rfl (by kernel_rfl) (by kernel_rfl) (by kernel_rfl) (fun _ _ _ h => h) (Or.inl ⟨by kernel_rfl, by intro w' hSw; (try dsimp only at hSw); (obtain ⟨a0, a1, a2⟩ := hSw.a.cells); (obtain ⟨b0, b1, b2⟩ := hSw.b.cells); go_simp⟩) (by assumption) ?_
    refine wpAnyH_take (i := 3) (v := .bool false) rfl (by kernel_rfl) (by kernel_rfl) (by kernel_rfl) (fun _ _ _ h => h) (Or.inl ⟨by kernel_rfl, by intro w' hSw; (try dsimp only at hSw); (obtain ⟨a0, a1, a2⟩ := hSw.a.cells); (obtain ⟨b0, b1, b2⟩ := hSw.b.cells); go_simp⟩) (by assumption) ?_
    refine wpAnyH_take (i := 4) (v := .agg #[.int .i64 X2, .int .i64 Y2, .slice A2 M.length c2]) rfl (by kernel_rfl) (by kernel_rfl) (by kernel_rfl) (fun _ _ _ h => h) (Or.inl ⟨by kernel_rfl, by intro w' hSw; (try dsimp only at hSw); (obtain ⟨a0, a1, a2⟩ := hSw.a.cells); (obtain ⟨b0, b1, b2⟩ := hSw.b.cells); go_simp⟩) (by assumption) ?_
    (try simp only [Act.put]); (try simp only [List.setIfInBounds_toArray]); (try simp only [List.set_cons_zero, List.set_cons_succ])
    refine wpAnyH_ready (rs := [5]) (by kernel_rfl) (by simp) ?_
    refine (AllReadyH.cons rfl (fun K hK => ?_) AllReadyH.nil)
    · rw [if_pos (by kernel_rfl)]
      (try simp only [List.getElem_toArray]); (try simp only [List.getElem_cons_succ]); (try simp only [List.getElem_cons_zero])
      go_simp
      with_reducible refine (imI X2 Y2 _ M _ hS.ru).mono ?_
      rintro e W' ⟨rfl, hb⟩
      dsimp only
      rw [imB_yes Ho2.out]
      refine hK.out _ _ (hS.call hb) (fun hS => ?_)
      clear hK
      (try simp only [Act.put]); (try simp only [List.setIfInBounds_toArray]); (try simp only [List.set_cons_zero, List.set_cons_succ])
      refine wpAnyH_take (i := 6) (v := .bool false) rfl (by kernel_rfl) (by kernel_rfl) (by kernel_rfl) (fun _ _ _ h => h) (Or.inl ⟨by kernel_rfl, by intro w' hSw; (try dsimp only at hSw); (obtain ⟨a0, a1, a2⟩ := hSw.a.cells); (obtain ⟨b0, b1, b2⟩ := hSw.b.cells); go_simp⟩) (by assumption) ?_
      refine wpAnyH_take (i := 7) (v := .bool false) rfl (by kernel_rfl) (by kernel_rfl) (by kernel_rfl) (fun _ _ _ h => h) (Or.inl ⟨by kernel_rfl, by intro w' hSw; (try dsimp only at hSw); (obtain ⟨a0, a1, a2⟩ := hSw.a.cells); (obtain ⟨b0, b1, b2⟩ := hSw.b.cells); go_simp⟩) (by assumption) ?_
      refine wpAnyH_take (i := 8) (v := .bool false) rfl (by kernel_rfl) (by kernel_rfl) (by kernel_rfl) (fun _ _ _ h => h) (Or.inl ⟨by kernel_rfl, by intro w' hSw; (try dsimp only at hSw); (obtain ⟨a0, a1, a2⟩ := hSw.a.cells); (obtain ⟨b0, b1, b2⟩ := hSw.b.cells); go_simp⟩) (by assumption) ?_
      refine wpAnyH_take (i := 9) (v := .agg #[.int .i64 X, .int .i64 Y, .slice A L.length c]) rfl (by kernel_rfl) (by kernel_rfl) (by kernel_rfl) (fun _ _ _ h => h) (Or.inl ⟨by kernel_rfl, by intro w' hSw; (try dsimp only at hSw); (obtain ⟨a0, a1, a2⟩ := hSw.a.cells); (obtain ⟨b0, b1, b2⟩ := hSw.b.cells); go_simp⟩) (by assumption) ?_
      refine wpAnyH_take (i := 11) (v := .agg #[.int .i64 X2, .int .i64 Y2, .slice A2 M.length c2]) rfl (by kernel_rfl) (by kernel_rfl) (by kernel_rfl) (fun _ _ _ h => h) (Or.inl ⟨by kernel_rfl, by intro w' hSw; (try dsimp only at hSw); (obtain ⟨a0, a1, a2⟩ := hSw.a.cells); (obtain ⟨b0, b1, b2⟩ := hSw.b.cells); go_simp⟩) (by assumption) ?_
      (try simp only [Act.put]); (try simp only [List.setIfInBounds_toArray]); (try simp only [List.set_cons_zero, List.set_cons_succ])
      refine wpAnyH_ready (rs := [10]) (by kernel_rfl) (by simp) ?_
      refine (AllReadyH.cons rfl (fun K hK => ?_) AllReadyH.nil)
      · rw [if_pos (by kernel_rfl)]
        (try simp only [List.getElem_toArray]); (try simp only [List.getElem_cons_succ]); (try simp only [List.getElem_cons_zero])
        go_simp
        with_reducible refine (frameI X Y _ _ _ _).mono ?_
        rintro e W' ⟨rfl, hb⟩
        dsimp only
        refine hK.out _ _ (hS.call hb) (fun hS => ?_)
        clear hK
        (try simp only [Act.put]); (try simp only [List.setIfInBounds_toArray]); (try simp only [List.set_cons_zero, List.set_cons_succ])
        refine wpAnyH_ready (rs := [12]) (by kernel_rfl) (by simp) ?_
        refine (AllReadyH.cons rfl (fun K hK => ?_) AllReadyH.nil)
        · rw [if_pos (by kernel_rfl)]
          (try simp only [List.getElem_toArray]); (try simp only [List.getElem_cons_succ]); (try simp only [List.getElem_cons_zero])
          go_simp
          with_reducible refine (frameI X2 Y2 _ _ _ _).mono ?_
          rintro e W' ⟨rfl, hb⟩
          dsimp only
          refine hK.out _ _ (hS.call hb) (fun hS => ?_)
          clear hK
          (try simp only [Act.put]); (try simp only [List.setIfInBounds_toArray]); (try simp only [List.set_cons_zero, List.set_cons_succ])
          refine wpAnyH_take (i := 13) (v := .bool true) rfl (by kernel_rfl) (by kernel_rfl) (by kernel_rfl) (fun _ _ _ h => h) (Or.inl ⟨by kernel_rfl, by intro w' hSw; (try dsimp only at hSw); (obtain ⟨a0, a1, a2⟩ := hSw.a.cells); (obtain ⟨b0, b1, b2⟩ := hSw.b.cells); go_simp⟩) (by assumption) ?_
          refine wpAnyH_take (i := 14) (v := .bool true) rfl (by kernel_rfl) (by kernel_rfl) (by kernel_rfl) (fun _ _ _ h => h) (Or.inl ⟨by kernel_rfl, by intro w' hSw; (try dsimp only at hSw); (obtain ⟨a0, a1, a2⟩ := hSw.a.cells); (obtain ⟨b0, b1, b2⟩ := hSw.b.cells); go_simp⟩) (by assumption) ?_
          refine wpAnyH_done (by kernel_rfl) ?_ _
          have rf := hS.d.frozen
          have rc := hS.d.cell
          go_wp2_with fail
          refine bodyPost_ret (v := .agg #[.slice none 0 0]) (by simp [results, Try.results16, go_sem, rc]) rfl ?_
          rw [HA.out]
          exact nil_ans (hS.bw.setCell (by simp; try omega) _)
set_option maxHeartbeats 1000000 in
set_option maxRecDepth 10000 in
theorem difI_bad4 (X Y : Int) (v : Value) (L : List Int) (X2 Y2 : Int) (u : Value) (M : List Int) (w : World) (hv : RdI w v L) (hu : RdI w u M) (h1 : imOk X Y L) (h2 : imOk X2 Y2 M) (h3 : X = X2) (h4 : Y ≠ Y2) :
    Calls Try.prog 16 #[.agg #[.int .i64 X, .int .i64 Y, v], .agg #[.int .i64 X2, .int .i64 Y2, u]] w (RgAns (difL X Y L X2 Y2 M) w) := by
  have HA : Hid (difL X Y L X2 Y2 M = []) := Lib.hid (dif_no fun h => h4 h.2.2.2)
  subst h3
  have Ho := Lib.hid h1
  have Ho2 := Lib.hid h2
  have hy : (Y == Y2) = false := by rw [beq_eq_false_iff_ne]; exact h4
  clear h1 h2 h4
  obtain ⟨A, c, rfl⟩ := hv.form
  obtain ⟨A2, c2, rfl⟩ := hu.form
  obtain ⟨w0, hw0⟩ : ∃ w0, w0 = (((w.alloc (.cells #[.int .i64 X, .int .i64 Y, .slice A L.length c] 26)).alloc (.cells #[.int .i64 X, .int .i64 Y2, .slice A2 M.length c2] 26)).alloc (.cells #[.slice none 0 0] 34)) := ⟨_, rfl⟩
  have hS := DfB.born w X Y (.slice A L.length c) L X Y2 (.slice A2 M.length c2) M hv hu
  have hz : w0.heap.size = w.heap.size + 3 := by rw [hw0]; simp
  clear hv hu
  go_enter Try.func16, Try.ntmps16
  go_upto_region 1 with fail
  refine wp_region_held_drew (S := fun V => DfB w X Y (.slice A L.length c) L X Y2 (.slice A2 M.length c2) M V) (by kernel_rfl) (hS.call (Below.refl _ _).drew) (fun hS => ?_)
  refine wpAnyH_take (i := 0) (v := .agg #[.int .i64 X, .int .i64 Y, .slice A L.length c]) rfl (by kernel_rfl) (by kernel_rfl) (by kernel_rfl) (fun _ _ _ h => h) (Or.inl ⟨by kernel_rfl, by intro w' hSw; (try dsimp only at hSw); (obtain ⟨a0, a1, a2⟩ := hSw.a.cells); (obtain ⟨b0, b1, b2⟩ := hSw.b.cells); go_simp⟩) (by assumption) ?_
  (try simp only [Act.put]); (try simp only [List.setIfInBounds_toArray]); (try simp only [List.set_cons_zero, List.set_cons_succ])
  refine wpAnyH_ready (rs := [1]) (by kernel_rfl) (by simp) ?_
  refine (AllReadyH.cons rfl (fun K hK => ?_) AllReadyH.nil)
  · rw [if_pos (by kernel_rfl)]
    (try simp only [List.getElem_toArray]); (try simp only [List.getElem_cons_succ]); (try simp only [List.getElem_cons_zero])
    go_simp
    with_reducible refine (imI X Y _ L _ hS.rv).mono ?_
    rintro e W' ⟨rfl, hb⟩
    dsimp only
    rw [imB_yes Ho.out]
    refine hK.out _ _ (hS.call hb) (fun hS => ?_)
    clear hK
    (try simp only [Act.put]); (try simp only [List.setIfInBounds_toArray]); (try simp only [List.set_cons_zero, List.set_cons_succ])
    refine wpAnyH_take (i := 2) (v := .bool false) rfl (by kernel_rfl) (by kernel_rfl) (by kernel_rfl) (fun _ _ _ h => h) (Or.inl ⟨by kernel_rfl, by intro w' hSw; (try dsimp only at hSw); (obtain ⟨a0, a1, a2⟩ := hSw.a.cells); (obtain ⟨b0, b1, b2⟩ := hSw.b.cells); go_simp⟩) (by assumption) ?_
    refine wpAnyH_take (i := 3) (v := .bool false) rfl (by kernel_rfl) (by kernel_rfl) (by kernel_rfl) (fun _ _ _ h => h) (Or.inl ⟨by kernel_rfl, by intro w' hSw; (try dsimp only at hSw); (obtain ⟨a0, a1, a2⟩ := hSw.a.cells); (obtain ⟨b0, b1, b2⟩ := hSw.b.cells); go_simp⟩) (by assumption) ?_
    refine wpAnyH_take (i := 4) (v := .agg #[.int .i64 X, .int .i64 Y2, .slice A2 M.length c2]) rfl (by kernel_rfl) (by kernel_rfl) (by kernel_rfl) (fun _ _ _ h => h) (Or.inl ⟨by kernel_rfl, by intro w' hSw; (try dsimp only at hSw); (obtain ⟨a0, a1, a2⟩ := hSw.a.cells); (obtain ⟨b0, b1, b2⟩ := hSw.b.cells); go_simp⟩) (by assumption) ?_
    (try simp only [Act.put]); (try simp only [List.setIfInBounds_toArray]); (try simp only [List.set_cons_zero, List.set_cons_succ])
    refine wpAnyH_ready (rs := [5]) (by kernel_rfl) (by simp) ?_
    refine (AllReadyH.cons rfl (fun K hK => ?_) AllReadyH.nil)
    · rw [if_pos (by kernel_rfl)]
      (try simp only [List.getElem_toArray]); (try simp only [List.getElem_cons_succ]); (try simp only [List.getElem_cons_zero])
      go_simp
      with_reducible refine (imI X Y2 _ M _ hS.ru).mono ?_
      rintro e W' ⟨rfl, hb⟩
      dsimp only
      rw [imB_yes Ho2.out]
      refine hK.out _ _ (hS.call hb) (fun hS => ?_)
      clear hK
      (try simp only [Act.put]); (try simp only [List.setIfInBounds_toArray]); (try simp only [List.set_cons_zero, List.set_cons_succ])
      refine wpAnyH_take (i := 6) (v := .bool false) rfl (by kernel_rfl) (by kernel_rfl) (by kernel_rfl) (fun _ _ _ h => h) (Or.inl ⟨by kernel_rfl, by intro w' hSw; (try dsimp only at hSw); (obtain ⟨a0, a1, a2⟩ := hSw.a.cells); (obtain ⟨b0, b1, b2⟩ := hSw.b.cells); go_simp⟩) (by assumption) ?_
      refine wpAnyH_take (i := 7) (v := .bool false) rfl (by kernel_rfl) (by kernel_rfl) (by kernel_rfl) (fun _ _ _ h => h) (Or.inl ⟨by kernel_rfl, by intro w' hSw; (try dsimp only at hSw); (obtain ⟨a0, a1, a2⟩ := hSw.a.cells); (obtain ⟨b0, b1, b2⟩ := hSw.b.cells); go_simp⟩) (by assumption) ?_
      refine wpAnyH_take (i := 8) (v := .bool false) rfl (by kernel_rfl) (by kernel_rfl) (by kernel_rfl) (fun _ _ _ h => h) (Or.inl ⟨by kernel_rfl, by intro w' hSw; (try dsimp only at hSw); (obtain ⟨a0, a1, a2⟩ := hSw.a.cells); (obtain ⟨b0, b1, b2⟩ := hSw.b.cells); go_simp⟩) (by assumption) ?_
      refine wpAnyH_take (i := 9) (v := .agg #[.int .i64 X, .int .i64 Y, .slice A L.length c]) rfl (by kernel_rfl) (by kernel_rfl) (by kernel_rfl) (fun _ _ _ h => h) (Or.inl ⟨by kernel_rfl, by intro w' hSw; (try dsimp only at hSw); (obtain ⟨a0, a1, a2⟩ := hSw.a.cells); (obtain ⟨b0, b1, b2⟩ := hSw.b.cells); go_simp⟩) (by assumption) ?_
      refine wpAnyH_take (i := 11) (v := .agg #[.int .i64 X, .int .i64 Y2, .slice A2 M.length c2]) rfl (by kernel_rfl) (by kernel_rfl) (by kernel_rfl) (fun _ _ _ h => h) (Or.inl ⟨by kernel_rfl, by intro w' hSw; (try dsimp only at hSw); (obtain ⟨a0, a1, a2⟩ := hSw.a.cells); (obtain ⟨b0, b1, b2⟩ := hSw.b.cells); go_simp⟩) (by assumption) ?_
      (try simp only [Act.put]); (try simp only [List.setIfInBounds_toArray]); (try simp only [List.set_cons_zero, List.set_cons_succ])
      refine wpAnyH_ready (rs := [10]) (by kernel_rfl) (by simp) ?_
      refine (AllReadyH.cons rfl (fun K hK => ?_) AllReadyH.nil)
      · rw [if_pos (by kernel_rfl)]
        (try simp only [List.getElem_toArray]); (try simp only [List.getElem_cons_succ]); (try simp only [List.getElem_cons_zero])
        go_simp
        with_reducible refine (frameI X Y _ _ _ _).mono ?_
        rintro e W' ⟨rfl, hb⟩
        dsimp only
        refine hK.out _ _ (hS.call hb) (fun hS => ?_)
        clear hK
        (try simp only [Act.put]); (try simp only [List.setIfInBounds_toArray]); (try simp only [List.set_cons_zero, List.set_cons_succ])
        refine wpAnyH_ready (rs := [12]) (by kernel_rfl) (by simp) ?_
        refine (AllReadyH.cons rfl (fun K hK => ?_) AllReadyH.nil)
        · rw [if_pos (by kernel_rfl)]
          (try simp only [List.getElem_toArray]); (try simp only [List.getElem_cons_succ]); (try simp only [List.getElem_cons_zero])
          go_simp
          with_reducible refine (frameI X Y2 _ _ _ _).mono ?_
          rintro e W' ⟨rfl, hb⟩
          dsimp only
          refine hK.out _ _ (hS.call hb) (fun hS => ?_)
          clear hK
          (try simp only [Act.put]); (try simp only [List.setIfInBounds_toArray]); (try simp only [List.set_cons_zero, List.set_cons_succ])
          refine wpAnyH_take (i := 13) (v := .bool true) rfl (by kernel_rfl) (by kernel_rfl) (by kernel_rfl) (fun _ _ _ h => h) (Or.inl ⟨by kernel_rfl, by intro w' hSw; (try dsimp only at hSw); (obtain ⟨a0, a1, a2⟩ := hSw.a.cells); (obtain ⟨b0, b1, b2⟩ := hSw.b.cells); go_simp⟩) (by assumption) ?_
          refine wpAnyH_take (i := 14) (v := .bool true) rfl (by kernel_rfl) (by kernel_rfl) (by kernel_rfl) (fun _ _ _ h => h) (Or.inl ⟨by kernel_rfl, by intro w' hSw; (try dsimp only at hSw); (obtain ⟨a0, a1, a2⟩ := hSw.a.cells); (obtain ⟨b0, b1, b2⟩ := hSw.b.cells); go_simp⟩) (by assumption) ?_
          refine wpAnyH_done (by kernel_rfl) ?_ _
          have rf := hS.d.frozen
          have rc := hS.d.cell
          go_wp2_with fail
          refine bodyPost_ret (v := .agg #[.slice none 0 0]) (by simp [results, Try.results16, go_sem, rc]) rfl ?_
          rw [HA.out]
          exact nil_ans (hS.bw.setCell (by simp; try omega) _)
set_option maxHeartbeats 1000000 in
set_option maxRecDepth 10000 in
theorem difI_ok (W H : Nat) (wl : 1 ≤ W) (wh : W ≤ 16) (hl : 1 ≤ H) (hh : H ≤ 16) (ga ca gb cb : Nat) (L M : List Int) (w : World) (h1 : imOk W H L) (h2 : imOk W H M) (hL : L.length = W * H) (hM : M.length = W * H) (hga : ga < w.heap.size) (hgb : gb < w.heap.size) (hv : RdI w (.slice (some ⟨ga, 0, none⟩) L.length ca) L) (hu : RdI w (.slice (some ⟨gb, 0, none⟩) M.length cb) M) :
    Calls Try.prog 16 #[.agg #[.int .i64 W, .int .i64 H, .slice (some ⟨ga, 0, none⟩) L.length ca], .agg #[.int .i64 W, .int .i64 H, .slice (some ⟨gb, 0, none⟩) M.length cb]] w (RgAns (difL W H L W H M) w) := by
  have HA : Hid (difL W H L W H M = canon (difG W H L M)) := Lib.hid (dif_yes h1 h2)
  have Ho := Lib.hid h1
  have Ho2 := Lib.hid h2
  have HL := Lib.hid hL
  have HM := Lib.hid hM
  have hL256 : L.length ≤ 256 := by rw [hL]; exact mul_256 wh hh
  have hM256 : M.length ≤ 256 := by rw [hM]; exact mul_256 wh hh
  clear h1 h2 hL hM
  obtain ⟨w0, hw0⟩ : ∃ w0, w0 = (((w.alloc (.cells #[.int .i64 W, .int .i64 H, .slice (some ⟨ga, 0, none⟩) L.length ca] 26)).alloc (.cells #[.int .i64 W, .int .i64 H, .slice (some ⟨gb, 0, none⟩) M.length cb] 26)).alloc (.cells #[.slice none 0 0] 34)) := ⟨_, rfl⟩
  have hS := DfB.born w W H (.slice (some ⟨ga, 0, none⟩) L.length ca) L W H (.slice (some ⟨gb, 0, none⟩) M.length cb) M hv hu
  have hz : w0.heap.size = w.heap.size + 3 := by rw [hw0]; simp
  clear hv hu
  go_enter Try.func16, Try.ntmps16
  go_upto_region 1 with fail
  refine wp_region_held_drew (S := fun V => DfB w W H (.slice (some ⟨ga, 0, none⟩) L.length ca) L W H (.slice (some ⟨gb, 0, none⟩) M.length cb) M V) (by kernel_rfl) (hS.call (Below.refl _ _).drew) (fun hS => ?_)
  refine wpAnyH_take (i := 0) (v := .agg #[.int .i64 W, .int .i64 H, .slice (some ⟨ga, 0, none⟩) L.length ca]) rfl (by kernel_rfl) (by kernel_rfl) (by kernel_rfl) (fun _ _ _ h => h) (Or.inl ⟨by kernel_rfl, by intro w' hSw; (try dsimp only at hSw); (obtain ⟨a0, a1, a2⟩ := hSw.a.cells); (obtain ⟨b0, b1, b2⟩ := hSw.b.cells); go_simp⟩) (by assumption) ?_
  (try simp only [Act.put]); (try simp only [List.setIfInBounds_toArray]); (try simp only [List.set_cons_zero, List.set_cons_succ])
  refine wpAnyH_ready (rs := [1]) (by kernel_rfl) (by simp) ?_
  refine (AllReadyH.cons rfl (fun K hK => ?_) AllReadyH.nil)
  · rw [if_pos (by kernel_rfl)]
    (try simp only [List.getElem_toArray]); (try simp only [List.getElem_cons_succ]); (try simp only [List.getElem_cons_zero])
    go_simp
    with_reducible refine (imI W H _ L _ hS.rv).mono ?_
    rintro e W' ⟨rfl, hb⟩
    dsimp only
    rw [imB_yes Ho.out]
    refine hK.out _ _ (hS.call hb) (fun hS => ?_)
    clear hK
    (try simp only [Act.put]); (try simp only [List.setIfInBounds_toArray]); (try simp only [List.set_cons_zero, List.set_cons_succ])
    refine wpAnyH_take (i := 2) (v := .bool false) rfl (by kernel_rfl) (by kernel_rfl) (by kernel_rfl) (fun _ _ _ h => h) (Or.inl ⟨by kernel_rfl, by intro w' hSw; (try dsimp only at hSw); (obtain ⟨a0, a1, a2⟩ := hSw.a.cells); (obtain ⟨b0, b1, b2⟩ := hSw.b.cells); go_simp⟩) (by assumption) ?_
    refine wpAnyH_take (i := 3) (v := .bool false) rfl (by kernel_rfl) (by kernel_rfl) (by kernel_rfl) (fun _ _ _ h => h) (Or.inl ⟨by kernel_rfl, by intro w' hSw; (try dsimp only at hSw); (obtain ⟨a0, a1, a2⟩ := hSw.a.cells); (obtain ⟨b0, b1, b2⟩ := hSw.b.cells); go_simp⟩) (by assumption) ?_
    refine wpAnyH_take (i := 4) (v := .agg #[.int .i64 W, .int .i64 H, .slice (some ⟨gb, 0, none⟩) M.length cb]) rfl (by kernel_rfl) (by kernel_rfl) (by kernel_rfl) (fun _ _ _ h => h) (Or.inl ⟨by kernel_rfl, by intro w' hSw; (try dsimp only at hSw); (obtain ⟨a0, a1, a2⟩ := hSw.a.cells); (obtain ⟨b0, b1, b2⟩ := hSw.b.cells); go_simp⟩) (by assumption) ?_
    (try simp only [Act.put]); (try simp only [List.setIfInBounds_toArray]); (try simp only [List.set_cons_zero, List.set_cons_succ])
    refine wpAnyH_ready (rs := [5]) (by kernel_rfl) (by simp) ?_
    refine (AllReadyH.cons rfl (fun K hK => ?_) AllReadyH.nil)
    · rw [if_pos (by kernel_rfl)]
      (try simp only [List.getElem_toArray]); (try simp only [List.getElem_cons_succ]); (try simp only [List.getElem_cons_zero])
      go_simp
      with_reducible refine (imI W H _ M _ hS.ru).mono ?_
      rintro e W' ⟨rfl, hb⟩
      dsimp only
      rw [imB_yes Ho2.out]
      refine hK.out _ _ (hS.call hb) (fun hS => ?_)
      clear hK
      (try simp only [Act.put]); (try simp only [List.setIfInBounds_toArray]); (try simp only [List.set_cons_zero, List.set_cons_succ])
      refine wpAnyH_take (i := 6) (v := .bool false) rfl (by kernel_rfl) (by kernel_rfl) (by kernel_rfl) (fun _ _ _ h => h) (Or.inl ⟨by kernel_rfl, by intro w' hSw; (try dsimp only at hSw); (obtain ⟨a0, a1, a2⟩ := hSw.a.cells); (obtain ⟨b0, b1, b2⟩ := hSw.b.cells); go_simp⟩) (by assumption) ?_
      refine wpAnyH_take (i := 7) (v := .bool false) rfl (by kernel_rfl) (by kernel_rfl) (by kernel_rfl) (fun _ _ _ h => h) (Or.inl ⟨by kernel_rfl, by intro w' hSw; (try dsimp only at hSw); (obtain ⟨a0, a1, a2⟩ := hSw.a.cells); (obtain ⟨b0, b1, b2⟩ := hSw.b.cells); go_simp⟩) (by assumption) ?_
      refine wpAnyH_take (i := 8) (v := .bool false) rfl (by kernel_rfl) (by kernel_rfl) (by kernel_rfl) (fun _ _ _ h => h) (Or.inl ⟨by kernel_rfl, by intro w' hSw; (try dsimp only at hSw); (obtain ⟨a0, a1, a2⟩ := hSw.a.cells); (obtain ⟨b0, b1, b2⟩ := hSw.b.cells); go_simp⟩) (by assumption) ?_
      refine wpAnyH_take (i := 9) (v := .agg #[.int .i64 W, .int .i64 H, .slice (some ⟨ga, 0, none⟩) L.length ca]) rfl (by kernel_rfl) (by kernel_rfl) (by kernel_rfl) (fun _ _ _ h => h) (Or.inl ⟨by kernel_rfl, by intro w' hSw; (try dsimp only at hSw); (obtain ⟨a0, a1, a2⟩ := hSw.a.cells); (obtain ⟨b0, b1, b2⟩ := hSw.b.cells); go_simp⟩) (by assumption) ?_
      refine wpAnyH_take (i := 11) (v := .agg #[.int .i64 W, .int .i64 H, .slice (some ⟨gb, 0, none⟩) M.length cb]) rfl (by kernel_rfl) (by kernel_rfl) (by kernel_rfl) (fun _ _ _ h => h) (Or.inl ⟨by kernel_rfl, by intro w' hSw; (try dsimp only at hSw); (obtain ⟨a0, a1, a2⟩ := hSw.a.cells); (obtain ⟨b0, b1, b2⟩ := hSw.b.cells); go_simp⟩) (by assumption) ?_
      (try simp only [Act.put]); (try simp only [List.setIfInBounds_toArray]); (try simp only [List.set_cons_zero, List.set_cons_succ])
      refine wpAnyH_ready (rs := [10]) (by kernel_rfl) (by simp) ?_
      refine (AllReadyH.cons rfl (fun K hK => ?_) AllReadyH.nil)
      · rw [if_pos (by kernel_rfl)]
        (try simp only [List.getElem_toArray]); (try simp only [List.getElem_cons_succ]); (try simp only [List.getElem_cons_zero])
        go_simp
        with_reducible refine (frameI W H _ _ _ _).mono ?_
        rintro e W' ⟨rfl, hb⟩
        dsimp only
        refine hK.out _ _ (hS.call hb) (fun hS => ?_)
        clear hK
        (try simp only [Act.put]); (try simp only [List.setIfInBounds_toArray]); (try simp only [List.set_cons_zero, List.set_cons_succ])
        refine wpAnyH_ready (rs := [12]) (by kernel_rfl) (by simp) ?_
        refine (AllReadyH.cons rfl (fun K hK => ?_) AllReadyH.nil)
        · rw [if_pos (by kernel_rfl)]
          (try simp only [List.getElem_toArray]); (try simp only [List.getElem_cons_succ]); (try simp only [List.getElem_cons_zero])
          go_simp
          with_reducible refine (frameI W H _ _ _ _).mono ?_
          rintro e W' ⟨rfl, hb⟩
          dsimp only
          refine hK.out _ _ (hS.call hb) (fun hS => ?_)
          clear hK
          (try simp only [Act.put]); (try simp only [List.setIfInBounds_toArray]); (try simp only [List.set_cons_zero, List.set_cons_succ])
          refine wpAnyH_take (i := 13) (v := .bool false) rfl (by kernel_rfl) (by kernel_rfl) (by kernel_rfl) (fun _ _ _ h => h) (Or.inl ⟨by kernel_rfl, by intro w' hSw; (try dsimp only at hSw); (obtain ⟨a0, a1, a2⟩ := hSw.a.cells); (obtain ⟨b0, b1, b2⟩ := hSw.b.cells); go_simp⟩) (by assumption) ?_
          refine wpAnyH_take (i := 14) (v := .bool false) rfl (by kernel_rfl) (by kernel_rfl) (by kernel_rfl) (fun _ _ _ h => h) (Or.inl ⟨by kernel_rfl, by intro w' hSw; (try dsimp only at hSw); (obtain ⟨a0, a1, a2⟩ := hSw.a.cells); (obtain ⟨b0, b1, b2⟩ := hSw.b.cells); go_simp⟩) (by assumption) ?_
          refine wpAnyH_done (by kernel_rfl) ?_ _
          have hzz := hS.d.lt
          obtain ⟨bg, hbg⟩ : ∃ bg, bg = W'.heap.size := ⟨_, rfl⟩
          have hS2 := hS.call (belI_box W' (.cells (gCells fun _ => false) 80))
          have hG0 : Hid (GrAt (W'.alloc (.cells (gCells fun _ => false) 80)) bg 80 (difS W L M 0 0)) := Lib.hid ((GrAt.newAt hbg.symm _ _).congr (fun k _ => (difS_start W L M k).symm))
          obtain ⟨a0, a1, a2⟩ := hS2.a.cells
          obtain ⟨V0, hV0⟩ : ∃ V0, V0 = W'.alloc (.cells (gCells fun _ => false) 80) := ⟨_, rfl⟩
          rw [← hV0] at hS2 hG0
          have HV := Lib.hid hV0
          have HB := Lib.hid hbg
          clear hV0 hw0
          have HS := Lib.hid hS2
          have HN : Hid (some w.heap.size ≠ some bg ∧ some (w.heap.size + 1) ≠ some bg ∧ some ga ≠ some bg ∧ some gb ≠ some bg ∧ some (w.heap.size + 2) ≠ some bg) := Lib.hid ⟨by simp; omega, by simp; omega, by simp; omega, by simp; omega, by simp; omega⟩
          have Hgr : Hid (V0.grownBy V0 (some bg)) := Lib.hid (World.grownBy.refl _ _)
          have hzg := zeroGrid
          clear hS hS2 hbg
          go_wp2_with fail
          rw [← HV.out, ← HB.out]
          clear a0 a1 a2 hzg
          go_loopg [26] H (fun g6 s6 wr => ∃ (y : Nat) (V : World), V = wr ∧ y ≤ H ∧ g6 = H - y ∧ s6 = .int .i64 y ∧ Hid (GrAt V bg 80 (difS W L M y 0)) ∧ Hid (V0.grownBy V (some bg)))
          case atStart => exact ⟨0, _, rfl, Nat.zero_le _, rfl, rfl, hG0, Hgr⟩
          case round =>
            clear hG0 Hgr
            obtain ⟨y, wy, hV, hy, rfl, rfl, HG, Hgr⟩ := hrel
            subst hV
            obtain ⟨a0, a1, a2⟩ := (HS.out.a.grown Hgr.out HN.out.1).cells
            by_cases hyl : y < H
            · have hyi : (y : Int) < (H : Int) := by omega
              go_wp2_with fail
              go_loopg [31] W (fun g7 s7 wz => ∃ (x : Nat) (V : World), V = wz ∧ x ≤ W ∧ g7 = W - x ∧ s7 = .int .i64 x ∧ Hid (GrAt V bg 80 (difS W L M y x)) ∧ Hid (V0.grownBy V (some bg)))
              case atStart => exact ⟨0, _, rfl, Nat.zero_le _, rfl, rfl, HG, Hgr⟩
              case round =>
                clear HG Hgr a0 a1 a2
                obtain ⟨x, wx, hV, hx, rfl, rfl, HG, Hgr⟩ := hrel
                subst hV
                by_cases hxl : x < W
                · have hxi : (x : Int) < (W : Int) := by omega
                  have hy16 : (y : Int) < 16 := by omega
                  have hx16 : (x : Int) < 16 := by omega
                  have hy0 : (0 : Int) ≤ (y : Int) := by omega
                  have hx0 : (0 : Int) ≤ (x : Int) := by omega
                  obtain ⟨p, _, hp2⟩ := pxL HL.out hxl hyl
                  obtain ⟨q, _, hq2⟩ := pxL HM.out hxl hyl
                  have HOA : Hid (∀ g, (Value.slice (some ⟨ga, 0, none⟩) L.length ca).ownBlock = some g → some g ≠ some bg) := Lib.hid (fun g hg => (Option.some.inj hg) ▸ HN.out.2.2.1)
                  have HOB : Hid (∀ g, (Value.slice (some ⟨gb, 0, none⟩) M.length cb).ownBlock = some g → some g ≠ some bg) := Lib.hid (fun g hg => (Option.some.inj hg) ▸ HN.out.2.2.2.1)
                  have KV := Lib.hid (HS.out.rv.grown Hgr.out HOA.out)
                  have KU := Lib.hid (HS.out.ru.grown Hgr.out HOB.out)
                  have KA := Lib.hid (HS.out.a.grown Hgr.out HN.out.1)
                  have KB := Lib.hid (HS.out.b.grown Hgr.out HN.out.2.1)
                  have HP2 := Lib.hid hp2
                  have HQ2 := Lib.hid hq2
                  clear hp2 hq2
                  go_wp2_with fail
                  refine wp_region_held_drew (S := fun V => wx.grownBy V (some bg)) (by kernel_rfl) (grown_drewI wx _) (fun hS => ?_)
                  have hG : GrAt wx.drew bg 80 (difS W L M y x) := HG.out
                  refine wpAnyH_take (i := 0) (v := .int .i64 y) rfl (by kernel_rfl) (by kernel_rfl) (by kernel_rfl) (fun _ _ _ h => h) (Or.inl ⟨by kernel_rfl, by intro w' hSw; (try dsimp only at hSw); (obtain ⟨a0, a1, a2⟩ := (KA.out.grown hSw HN.out.1).cells); (obtain ⟨b0, b1, b2⟩ := (KB.out.grown hSw HN.out.2.1).cells); go_simp⟩) (by assumption) ?_
                  refine wpAnyH_take (i := 1) (v := .int .i64 x) rfl (by kernel_rfl) (by kernel_rfl) (by kernel_rfl) (fun _ _ _ h => h) (Or.inl ⟨by kernel_rfl, by intro w' hSw; (try dsimp only at hSw); (obtain ⟨a0, a1, a2⟩ := (KA.out.grown hSw HN.out.1).cells); (obtain ⟨b0, b1, b2⟩ := (KB.out.grown hSw HN.out.2.1).cells); go_simp⟩) (by assumption) ?_
                  refine wpAnyH_take (i := 2) (v := .agg #[.int .i64 W, .int .i64 H, .slice (some ⟨ga, 0, none⟩) L.length ca]) rfl (by kernel_rfl) (by kernel_rfl) (by kernel_rfl) (fun _ _ _ h => h) (Or.inl ⟨by kernel_rfl, by intro w' hSw; (try dsimp only at hSw); (obtain ⟨a0, a1, a2⟩ := (KA.out.grown hSw HN.out.1).cells); (obtain ⟨b0, b1, b2⟩ := (KB.out.grown hSw HN.out.2.1).cells); go_simp⟩) (by assumption) ?_
                  refine wpAnyH_take (i := 3) (v := .int .i64 x) rfl (by kernel_rfl) (by kernel_rfl) (by kernel_rfl) (fun _ _ _ h => h) (Or.inl ⟨by kernel_rfl, by intro w' hSw; (try dsimp only at hSw); (obtain ⟨a0, a1, a2⟩ := (KA.out.grown hSw HN.out.1).cells); (obtain ⟨b0, b1, b2⟩ := (KB.out.grown hSw HN.out.2.1).cells); go_simp⟩) (by assumption) ?_
                  refine wpAnyH_take (i := 4) (v := .int .i64 y) rfl (by kernel_rfl) (by kernel_rfl) (by kernel_rfl) (fun _ _ _ h => h) (Or.inl ⟨by kernel_rfl, by intro w' hSw; (try dsimp only at hSw); (obtain ⟨a0, a1, a2⟩ := (KA.out.grown hSw HN.out.1).cells); (obtain ⟨b0, b1, b2⟩ := (KB.out.grown hSw HN.out.2.1).cells); go_simp⟩) (by assumption) ?_
                  refine wpAnyH_take (i := 6) (v := .agg #[.int .i64 W, .int .i64 H, .slice (some ⟨gb, 0, none⟩) M.length cb]) rfl (by kernel_rfl) (by kernel_rfl) (by kernel_rfl) (fun _ _ _ h => h) (Or.inl ⟨by kernel_rfl, by intro w' hSw; (try dsimp only at hSw); (obtain ⟨a0, a1, a2⟩ := (KA.out.grown hSw HN.out.1).cells); (obtain ⟨b0, b1, b2⟩ := (KB.out.grown hSw HN.out.2.1).cells); go_simp⟩) (by assumption) ?_
                  refine wpAnyH_take (i := 7) (v := .int .i64 x) rfl (by kernel_rfl) (by kernel_rfl) (by kernel_rfl) (fun _ _ _ h => h) (Or.inl ⟨by kernel_rfl, by intro w' hSw; (try dsimp only at hSw); (obtain ⟨a0, a1, a2⟩ := (KA.out.grown hSw HN.out.1).cells); (obtain ⟨b0, b1, b2⟩ := (KB.out.grown hSw HN.out.2.1).cells); go_simp⟩) (by assumption) ?_
                  refine wpAnyH_take (i := 8) (v := .int .i64 y) rfl (by kernel_rfl) (by kernel_rfl) (by kernel_rfl) (fun _ _ _ h => h) (Or.inl ⟨by kernel_rfl, by intro w' hSw; (try dsimp only at hSw); (obtain ⟨a0, a1, a2⟩ := (KA.out.grown hSw HN.out.1).cells); (obtain ⟨b0, b1, b2⟩ := (KB.out.grown hSw HN.out.2.1).cells); go_simp⟩) (by assumption) ?_
                  refine wpAnyH_take (i := 11) (v := .pointer (some ⟨bg, y * 16, none⟩)) rfl (by kernel_rfl) (by kernel_rfl) (by kernel_rfl) (fun _ _ _ h => h) (Or.inl ⟨by kernel_rfl, by intro w' hSw; (try dsimp only at hSw); (obtain ⟨a0, a1, a2⟩ := (KA.out.grown hSw HN.out.1).cells); (obtain ⟨b0, b1, b2⟩ := (KB.out.grown hSw HN.out.2.1).cells); go_simp⟩) (by assumption) ?_
                  (try simp only [Act.put]); (try simp only [List.setIfInBounds_toArray]); (try simp only [List.set_cons_zero, List.set_cons_succ])
                  refine wpAnyH_ready (rs := [5]) (by kernel_rfl) (by simp) ?_
                  refine (AllReadyH.cons rfl (fun K hK => ?_) AllReadyH.nil)
                  · rw [if_pos (by kernel_rfl)]
                    (try simp only [List.getElem_toArray]); (try simp only [List.getElem_cons_succ]); (try simp only [List.getElem_cons_zero])
                    go_simp
                    with_reducible refine (pixL Ho.out hxl hyl p HP2.out _ (KV.out.grown hS HOA.out)).mono ?_
                    rintro e W' ⟨rfl, hb⟩
                    dsimp only
                    have hG := hG.below hb hG.lt
                    refine hK.out _ _ (grown_below hS hb) (fun hS => ?_)
                    clear hK
                    (try simp only [Act.put]); (try simp only [List.setIfInBounds_toArray]); (try simp only [List.set_cons_zero, List.set_cons_succ])
                    refine wpAnyH_ready (rs := [9]) (by kernel_rfl) (by simp) ?_
                    refine (AllReadyH.cons rfl (fun K hK => ?_) AllReadyH.nil)
                    · rw [if_pos (by kernel_rfl)]
                      (try simp only [List.getElem_toArray]); (try simp only [List.getElem_cons_succ]); (try simp only [List.getElem_cons_zero])
                      go_simp
                      with_reducible refine (pixL Ho2.out hxl hyl q HQ2.out _ (KU.out.grown hS HOB.out)).mono ?_
                      rintro e W' ⟨rfl, hb⟩
                      dsimp only
                      have hG := hG.below hb hG.lt
                      refine hK.out _ _ (grown_below hS hb) (fun hS => ?_)
                      clear hK
                      (try simp only [Act.put]); (try simp only [List.setIfInBounds_toArray]); (try simp only [List.set_cons_zero, List.set_cons_succ])
                      refine wpAnyH_take (i := 10) (v := .bool (p != q)) rfl (by kernel_rfl) (by kernel_rfl) (by kernel_rfl) (fun _ _ _ h => h) (Or.inl ⟨by kernel_rfl, by intro w' hSw; (try dsimp only at hSw); (obtain ⟨a0, a1, a2⟩ := (KA.out.grown hSw HN.out.1).cells); (obtain ⟨b0, b1, b2⟩ := (KB.out.grown hSw HN.out.2.1).cells); go_simp⟩) (by assumption) ?_
                      refine wpAnyH_take (i := 12) (v := .pointer (some ⟨bg, y * 16 + x, none⟩)) rfl (by kernel_rfl) (by kernel_rfl) (by kernel_rfl) (fun _ _ _ h => h) (Or.inl ⟨by kernel_rfl, by intro w' hSw; (try dsimp only at hSw); (obtain ⟨a0, a1, a2⟩ := (KA.out.grown hSw HN.out.1).cells); (obtain ⟨b0, b1, b2⟩ := (KB.out.grown hSw HN.out.2.1).cells); go_simp⟩) (by assumption) ?_
                      (try simp only [Act.put]); (try simp only [List.setIfInBounds_toArray]); (try simp only [List.set_cons_zero, List.set_cons_succ])
                      refine wpAnyH_ready (rs := [13]) (by kernel_rfl) (by simp) ?_
                      refine (AllReadyH.cons rfl (fun K hK => ?_) AllReadyH.nil)
                      · rw [if_pos (by kernel_rfl)]
                        (try simp only [List.getElem_toArray]); (try simp only [List.getElem_cons_succ]); (try simp only [List.getElem_cons_zero])
                        have cS := hG.cell (y * 16 + x) (by omega)
                        have fS := hG.frozen (y * 16 + x)
                        go_simp
                        replace hG := hG.set (y * 16 + x) (p != q)
                        refine hK.out _ _ (hS.trans (grown_setI _ bg (y * 16 + x) _)) (fun hS => ?_)
                        clear hK
                        (try simp only [Act.put]); (try simp only [List.setIfInBounds_toArray]); (try simp only [List.set_cons_zero, List.set_cons_succ])
                        refine wpAnyH_done (by kernel_rfl) ?_ _
                        go_wp2_with fail
                        go_roundg (W - (x + 1))
                        case measure => omega
                        case rel =>
                          refine ⟨x + 1, _, rfl, by omega, rfl, by go_num, ?_, Lib.hid (Hgr.out.trans hS)⟩
                          exact Lib.hid (hG.congr (fun k _ => difS_set W L M y x p q _ (by omega) wh HP2.out HQ2.out (by simp) k))
                · obtain rfl : x = W := by omega
                  have hxi : ¬ (x : Int) < (x : Int) := by omega
                  go_wp2_with fail
                  go_roundg (H - (y + 1))
                  case measure => omega
                  case rel => exact ⟨y + 1, _, rfl, by omega, rfl, by go_num, Lib.hid (HG.out.congr (fun k _ => difS_row x L M y k)), Hgr⟩
            · obtain rfl : y = H := by omega
              have hyi : ¬ (y : Int) < (y : Int) := by omega
              go_wp2_with fail
              refine wp_load_grid (.tmp 5) rfl bg (difS W L M y 0) rfl HG.out ?_
              go_wp2_with fail
              refine (canI (difS W L M y 0) _).mono ?_
              rintro e w4 ⟨vr, rfl, hown, hb⟩
              have hsz := Hgr.out.size
              have hd := (HS.out.d.grown Hgr.out HN.out.2.2.2.2).call hb
              have hd3 := HS.out.d.lt
              have hbw := (HS.out.bw.grown Hgr.out HS.out.bw.size (fun k hk => by injection hk with hk; have := HB.out; omega)).trans (hb.mono (by have := HS.out.bw.size; omega))
              obtain ⟨Av, cv, hv⟩ := own_shape hown
              subst hv
              have rc := hd.cell
              have rf := hd.frozen
              have Hown := Lib.hid hown
              clear hown hb a0 a1 a2
              go_wp2_with fail
              refine bodyPost_ret (v := .agg #[.slice Av (canon (difS W L M y 0)).length cv]) (by simp [results, Try.results16, go_sem, rc]) rfl ?_
              rw [HA.out]
              exact ⟨_, rfl, own_set Hown.out (by omega) (by omega) _, hbw.setCell (by simp; omega) _⟩
theorem difI_any (X Y : Int) (v : Value) (L : List Int) (X2 Y2 : Int) (u : Value) (M : List Int) (w : World) (hv : RdI w v L) (hu : RdI w u M) :
    Calls Try.prog 16 #[.agg #[.int .i64 X, .int .i64 Y, v], .agg #[.int .i64 X2, .int .i64 Y2, u]] w (RgAns (difL X Y L X2 Y2 M) w) := by
  by_cases h1 : imOk X Y L
  · by_cases h2 : imOk X2 Y2 M
    · by_cases h3 : X = X2
      · by_cases h4 : Y = Y2
        · subst h3 h4
          obtain ⟨W, H, rfl, rfl, wl, wh, hl, hh, hL⟩ := im_nat h1
          obtain ⟨W', H', e1, e2, _, _, _, _, hM⟩ := im_nat h2
          have e3 : W' = W := by omega
          have e4 : H' = H := by omega
          subst e3 e4
          obtain ⟨ga, ca, rfl, hga, _⟩ := rd_block hv (by rw [hL]; exact Nat.mul_pos wl hl)
          obtain ⟨gb, cb, rfl, hgb, _⟩ := rd_block hu (by rw [hM]; exact Nat.mul_pos wl hl)
          exact difI_ok W' H' wl wh hl hh ga ca gb cb L M w h1 h2 hL hM hga hgb hv hu
        · exact difI_bad4 X Y v L X2 Y2 u M w hv hu h1 h2 h3 h4
      · exact difI_bad3 X Y v L X2 Y2 u M w hv hu h1 h2 h3
    · exact difI_bad2 X Y v L X2 Y2 u M w hv hu h1 h2
  · exact difI_bad1 X Y v L X2 Y2 u M w hv hu h1
end Go.Proofs.Ytmjndoedchiggaa
