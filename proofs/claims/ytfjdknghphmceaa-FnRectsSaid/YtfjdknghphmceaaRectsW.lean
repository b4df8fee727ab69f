/- The walk of the law FnRects: it returns true for every code. -/
import Derived.Test.YtfjdknghphmceaaRectM
import Derived.Test.YtfjdknghphmceaaAt
import Derived.Test.YtfjdknghphmceaaBig
import Derived.Test.YtfjdknghphmceaaBndMI
import Derived.Deep.RegionHeld3
import Derived.Deep.DeepCutAuto
namespace Go.Proofs.Ytfjdknghphmceaa
open Go.RowKit
set_option maxHeartbeats 2000000 in
theorem walk_FnRects (A : Option Addr) (len cap : Nat) (zs : List Int) (w : World) (hrow : IsRow .u8 w A len cap zs) :
    Calls Try.prog 9 #[.slice A len cap] w fun e w' => e = .returned (.bool true) ∧ Below w.heap.size w w' := by
  by_cases hbig : len ≤ 1048576
  · go_enter Try.func9, Try.ntmps9
    go_wp2_with fail
    refine (big_no _ _ _ _ hbig).mono ?_
    rintro e w1 ⟨rfl, rfl⟩
    go_wp2_with fail
    refine (drawRects_any _ _ _ _ zs hrow).mono ?_
    rintro e w1 ⟨a, b, rfl, hsa, hsb, hw⟩
    have hrow := hrow.of_same (fun x hx hp => hw.block _ (hrow.lt x hx hp))
    obtain ⟨r, hr⟩ : ∃ r, r = isect a b := ⟨_, rfl⟩
    obtain ⟨u, hu⟩ : ∃ u, u = boundsR a b := ⟨_, rfl⟩
    obtain ⟨m, hm⟩ : ∃ m, m = movedR a 7 (-3) := ⟨_, rfl⟩
    have cI := isectI_any a b
    have cJ := isectI_any b a
    have cU := bndI_any a b
    have cM := movedI_any a 7 (-3)
    have cN := movedI_any m (-7) 3
    have cA := coversI_any a r
    have cB := coversI_any u a
    have cC := coversI_any u b
    have cO := rectOkI_yes u (hu ▸ (bounds_all a b hsa hsb).1)
    have hx := fun x y => has_isect a b hsa.ok hsb.ok x y
    rw [← hr] at cI
    rw [isect_comm a b hsa.ok hsb.ok, ← hr] at cJ
    rw [← hu] at cU
    rw [← hm] at cM
    rw [hm, moved_back a hsa, ← hm] at cN
    rw [hr, cov_isect a b hsa.ok hsb.ok, ← hr] at cA
    rw [hu, (bounds_all a b hsa hsb).2.1, ← hu] at cB
    rw [hu, (bounds_all a b hsa hsb).2.2, ← hu] at cC
    rw [← hr] at hx
    have CI := Lib.hid cI
    have CJ := Lib.hid cJ
    have CU := Lib.hid cU
    have CM := Lib.hid cM
    have CN := Lib.hid cN
    have CA := Lib.hid cA
    have CB := Lib.hid cB
    have CC := Lib.hid cC
    have CO := Lib.hid cO
    have HX := Lib.hid hx
    clear cI cJ cU cM cN cA cB cC cO hx hr hu hm hsa hsb
    have hBa : RcAt ((w1.alloc (.cells #[.int .i64 a.x, .int .i64 a.y, .int .i64 a.w, .int .i64 a.h] 25)).alloc (.cells #[.int .i64 b.x, .int .i64 b.y, .int .i64 b.w, .int .i64 b.h] 25)) w1.heap.size a := (RcAt.newAt rfl a).alloc _
    have hBb : RcAt ((w1.alloc (.cells #[.int .i64 a.x, .int .i64 a.y, .int .i64 a.w, .int .i64 a.h] 25)).alloc (.cells #[.int .i64 b.x, .int .i64 b.y, .int .i64 b.w, .int .i64 b.h] 25)) (w1.heap.size + 1) b := RcAt.newAt (by simp) b
    have hrow := hrow.of_same (w' := (w1.alloc (.cells #[.int .i64 a.x, .int .i64 a.y, .int .i64 a.w, .int .i64 a.h] 25)).alloc (.cells #[.int .i64 b.x, .int .i64 b.y, .int .i64 b.w, .int .i64 b.h] 25)) (fun x hx hp => (Below.heap_alloc _ _ _ (by have := hrow.lt x hx hp; simp; omega)).trans (Below.heap_alloc _ _ _ (hrow.lt x hx hp)))
    have hw : Below w.heap.size w ((w1.alloc (.cells #[.int .i64 a.x, .int .i64 a.y, .int .i64 a.w, .int .i64 a.h] 25)).alloc (.cells #[.int .i64 b.x, .int .i64 b.y, .int .i64 b.w, .int .i64 b.h] 25)) := (hw.alloc hw.size _).alloc (by have := hw.size; simp; omega) _
    go_wp2_with fail
    refine (CI.out _).mono ?_
    rintro e w2 ⟨rfl, hbk⟩
    have hrow := hrow.of_same (fun x hx hp => hbk.block _ (hrow.lt x hx hp))
    have hBa := hBa.below hbk hBa.lt
    have hBb := hBb.below hbk hBb.lt
    have hw := hw.trans (hbk.mono hw.size)
    have la := hBa.lt
    have lb := hBb.lt
    obtain ⟨a0, a1, a2, a3⟩ := hBa.cells
    obtain ⟨b0, b1, b2, b3⟩ := hBb.cells
    clear hbk
    have hBa := hBa.alloc (.cells #[.int .i64 r.x, .int .i64 r.y, .int .i64 r.w, .int .i64 r.h] 25)
    have hBb := hBb.alloc (.cells #[.int .i64 r.x, .int .i64 r.y, .int .i64 r.w, .int .i64 r.h] 25)
    have hBr := RcAt.new w2 r
    have hw := hw.alloc hw.size (.cells #[.int .i64 r.x, .int .i64 r.y, .int .i64 r.w, .int .i64 r.h] 25)
    have hrow := hrow.of_same (w' := w2.alloc (.cells #[.int .i64 r.x, .int .i64 r.y, .int .i64 r.w, .int .i64 r.h] 25)) (fun x hx hp => Below.heap_alloc _ _ _ (hrow.lt x hx hp))
    go_wp2_with fail
    refine (CU.out _).mono ?_
    rintro e w3 ⟨rfl, hbk⟩
    have hrow := hrow.of_same (fun x hx hp => hbk.block _ (hrow.lt x hx hp))
    have hBa := hBa.below hbk hBa.lt
    have hBb := hBb.below hbk hBb.lt
    have hBr := hBr.below hbk hBr.lt
    have hw := hw.trans (hbk.mono hw.size)
    clear hbk a0 a1 a2 a3 b0 b1 b2 b3 la lb
    have hBa := hBa.alloc (.cells #[.int .i64 u.x, .int .i64 u.y, .int .i64 u.w, .int .i64 u.h] 25)
    have hBb := hBb.alloc (.cells #[.int .i64 u.x, .int .i64 u.y, .int .i64 u.w, .int .i64 u.h] 25)
    have hBr := hBr.alloc (.cells #[.int .i64 u.x, .int .i64 u.y, .int .i64 u.w, .int .i64 u.h] 25)
    have hBu := RcAt.new w3 u
    have hw := hw.alloc hw.size (.cells #[.int .i64 u.x, .int .i64 u.y, .int .i64 u.w, .int .i64 u.h] 25)
    have hrow := hrow.of_same (w' := w3.alloc (.cells #[.int .i64 u.x, .int .i64 u.y, .int .i64 u.w, .int .i64 u.h] 25)) (fun x hx hp => Below.heap_alloc _ _ _ (hrow.lt x hx hp))
    go_wp2_with fail
    refine (at_any _ _ _ _ zs hrow 0 (by omega) (by omega)).mono ?_
    rintro e w4 ⟨x, rfl, x0, x1, rfl⟩
    go_wp2_with fail
    refine (at_any _ _ _ _ zs hrow 1 (by omega) (by omega)).mono ?_
    rintro e w4 ⟨y, rfl, y0, y1, rfl⟩
    clear hrow
    go_upto_region 8 with fail
    go_cut [52] (fun s wx => s = .bool false ∧ RcAt wx w1.heap.size a ∧ RcAt wx (w1.heap.size + 1) b ∧ RcAt wx w2.heap.size r ∧ RcAt wx w3.heap.size u ∧ Below w.heap.size w wx)
    case first =>
      have hv := HX.out (x % 24 - 6) (y % 20 - 6)
      have dR := hasI_any r (x % 24 - 6) (y % 20 - 6)
      have dA := hasI_any a (x % 24 - 6) (y % 20 - 6)
      have dB := hasI_any b (x % 24 - 6) (y % 20 - 6)
      rw [hv] at dR
      clear hv
      rcases hva : hasB a (x % 24 - 6) (y % 20 - 6)
      · rw [hva] at dR dA
        simp only [Bool.false_and] at dR
        have DR := Lib.hid dR
        have DA := Lib.hid dA
        clear dR dA dB hva
        refine wp_region_held_drew (S := (fun w' => (w'.cell? ⟨w1.heap.size, 0, none⟩ = some (.int .i64 a.x) ∧ w'.cell? ⟨w1.heap.size, 1, none⟩ = some (.int .i64 a.y) ∧ w'.cell? ⟨w1.heap.size, 2, none⟩ = some (.int .i64 a.w) ∧ w'.cell? ⟨w1.heap.size, 3, none⟩ = some (.int .i64 a.h)) ∧
          (w'.cell? ⟨w1.heap.size + 1, 0, none⟩ = some (.int .i64 b.x) ∧ w'.cell? ⟨w1.heap.size + 1, 1, none⟩ = some (.int .i64 b.y) ∧ w'.cell? ⟨w1.heap.size + 1, 2, none⟩ = some (.int .i64 b.w) ∧ w'.cell? ⟨w1.heap.size + 1, 3, none⟩ = some (.int .i64 b.h)) ∧
          (w'.cell? ⟨w2.heap.size, 0, none⟩ = some (.int .i64 r.x) ∧ w'.cell? ⟨w2.heap.size, 1, none⟩ = some (.int .i64 r.y) ∧ w'.cell? ⟨w2.heap.size, 2, none⟩ = some (.int .i64 r.w) ∧ w'.cell? ⟨w2.heap.size, 3, none⟩ = some (.int .i64 r.h)) ∧
          (w'.cell? ⟨w3.heap.size, 0, none⟩ = some (.int .i64 u.x) ∧ w'.cell? ⟨w3.heap.size, 1, none⟩ = some (.int .i64 u.y) ∧ w'.cell? ⟨w3.heap.size, 2, none⟩ = some (.int .i64 u.w) ∧ w'.cell? ⟨w3.heap.size, 3, none⟩ = some (.int .i64 u.h)))) (by kernel_rfl) ⟨hBa.drew.cells, hBb.drew.cells, hBr.drew.cells, hBu.drew.cells⟩ (fun hHeld => ?_)
        refine wpAnyH_take (i := 0) (v := .agg #[.int .i64 r.x, .int .i64 r.y, .int .i64 r.w, .int .i64 r.h]) rfl (by kernel_rfl) (by kernel_rfl) (by kernel_rfl) (fun _ _ _ h => h) (Or.inl ⟨by kernel_rfl, by intro w' hSw; (try dsimp only at hSw); go_simp⟩) (by assumption) ?_
        go_simp
        refine wpAnyH_take (i := 1) (v := .int .i64 (x % 24 - 6)) rfl (by kernel_rfl) (by kernel_rfl) (by kernel_rfl) (fun _ _ _ h => h) (Or.inl ⟨by kernel_rfl, by intro w' hSw; (try dsimp only at hSw); go_simp⟩) (by assumption) ?_
        go_simp
        refine wpAnyH_take (i := 2) (v := .int .i64 (y % 20 - 6)) rfl (by kernel_rfl) (by kernel_rfl) (by kernel_rfl) (fun _ _ _ h => h) (Or.inl ⟨by kernel_rfl, by intro w' hSw; (try dsimp only at hSw); go_simp⟩) (by assumption) ?_
        go_simp
        refine wpAnyH_take (i := 4) (v := .agg #[.int .i64 a.x, .int .i64 a.y, .int .i64 a.w, .int .i64 a.h]) rfl (by kernel_rfl) (by kernel_rfl) (by kernel_rfl) (fun _ _ _ h => h) (Or.inl ⟨by kernel_rfl, by intro w' hSw; (try dsimp only at hSw); go_simp⟩) (by assumption) ?_
        go_simp
        refine wpAnyH_take (i := 5) (v := .int .i64 (x % 24 - 6)) rfl (by kernel_rfl) (by kernel_rfl) (by kernel_rfl) (fun _ _ _ h => h) (Or.inl ⟨by kernel_rfl, by intro w' hSw; (try dsimp only at hSw); go_simp⟩) (by assumption) ?_
        go_simp
        refine wpAnyH_take (i := 6) (v := .int .i64 (y % 20 - 6)) rfl (by kernel_rfl) (by kernel_rfl) (by kernel_rfl) (fun _ _ _ h => h) (Or.inl ⟨by kernel_rfl, by intro w' hSw; (try dsimp only at hSw); go_simp⟩) (by assumption) ?_
        go_simp
        refine wpAnyH_ready (rs := [3]) (by kernel_rfl) (by simp) ?_
        refine AllReadyH.cons rfl (fun K hK => ?_) AllReadyH.nil
        go_simp
        go_wp2_with fail
        refine (DR.out _).mono ?_
        rintro e wk ⟨rfl, hbk⟩
        (with_reducible first | have hBa := hBa.below hbk hBa.lt | have hBa := hBa.drew.below hbk hBa.drew.lt); (with_reducible first | have hBb := hBb.below hbk hBb.lt | have hBb := hBb.drew.below hbk hBb.drew.lt); (with_reducible first | have hBr := hBr.below hbk hBr.lt | have hBr := hBr.drew.below hbk hBr.drew.lt); (with_reducible first | have hBu := hBu.below hbk hBu.lt | have hBu := hBu.drew.below hbk hBu.drew.lt); (with_reducible first | have hw := hw.trans (hbk.mono hw.size) | have hw := hw.drew.trans (hbk.mono hw.drew.size))
        go_wp2_with fail
        refine hK.out _ _ ⟨hBa.cells, hBb.cells, hBr.cells, hBu.cells⟩ (fun hHeld => ?_)
        clear hK K
        refine wpAnyH_ready (rs := [7]) (by kernel_rfl) (by simp) ?_
        refine AllReadyH.cons rfl (fun K hK => ?_) AllReadyH.nil
        go_simp
        go_wp2_with fail
        refine (DA.out _).mono ?_
        rintro e wk ⟨rfl, hbk⟩
        (with_reducible first | have hBa := hBa.below hbk hBa.lt | have hBa := hBa.drew.below hbk hBa.drew.lt); (with_reducible first | have hBb := hBb.below hbk hBb.lt | have hBb := hBb.drew.below hbk hBb.drew.lt); (with_reducible first | have hBr := hBr.below hbk hBr.lt | have hBr := hBr.drew.below hbk hBr.drew.lt); (with_reducible first | have hBu := hBu.below hbk hBu.lt | have hBu := hBu.drew.below hbk hBu.drew.lt); (with_reducible first | have hw := hw.trans (hbk.mono hw.size) | have hw := hw.drew.trans (hbk.mono hw.drew.size))
        go_wp2_with fail
        refine hK.out _ _ ⟨hBa.cells, hBb.cells, hBr.cells, hBu.cells⟩ (fun hHeld => ?_)
        clear hK K
        refine wpAnyH_take (i := 8) (v := .bool false) rfl (by kernel_rfl) (by kernel_rfl) (by kernel_rfl) (fun _ _ _ h => h) (Or.inl ⟨by kernel_rfl, by intro w' hSw; (try dsimp only at hSw); go_simp⟩) (by assumption) ?_
        go_simp
        refine wpAnyH_take (i := 9) (v := undef) rfl (by kernel_rfl) (by kernel_rfl) (by kernel_rfl) (fun _ _ _ h => h) (Or.inr ⟨by kernel_rfl, rfl⟩) (by assumption) ?_
        go_simp
        refine wpAnyH_take (i := 10) (v := undef) rfl (by kernel_rfl) (by kernel_rfl) (by kernel_rfl) (fun _ _ _ h => h) (Or.inr ⟨by kernel_rfl, rfl⟩) (by assumption) ?_
        go_simp
        refine wpAnyH_take (i := 11) (v := undef) rfl (by kernel_rfl) (by kernel_rfl) (by kernel_rfl) (fun _ _ _ h => h) (Or.inr ⟨by kernel_rfl, rfl⟩) (by assumption) ?_
        go_simp
        refine wpAnyH_take (i := 12) (v := undef) rfl (by kernel_rfl) (by kernel_rfl) (by kernel_rfl) (fun _ _ _ h => h) (Or.inr ⟨by kernel_rfl, rfl⟩) (by assumption) ?_
        go_simp
        refine wpAnyH_take (i := 13) (v := .bool false) rfl (by kernel_rfl) (by kernel_rfl) (by kernel_rfl) (fun _ _ _ h => h) (Or.inl ⟨by kernel_rfl, by intro w' hSw; (try dsimp only at hSw); go_simp⟩) (by assumption) ?_
        go_simp
        refine wpAnyH_take (i := 14) (v := .bool false) rfl (by kernel_rfl) (by kernel_rfl) (by kernel_rfl) (fun _ _ _ h => h) (Or.inl ⟨by kernel_rfl, by intro w' hSw; (try dsimp only at hSw); go_simp⟩) (by assumption) ?_
        go_simp
        refine wpAnyH_take (i := 15) (v := .bool false) rfl (by kernel_rfl) (by kernel_rfl) (by kernel_rfl) (fun _ _ _ h => h) (Or.inl ⟨by kernel_rfl, by intro w' hSw; (try dsimp only at hSw); go_simp⟩) (by assumption) ?_
        go_simp
        refine wpAnyH_take (i := 16) (v := .agg #[.int .i64 r.x, .int .i64 r.y, .int .i64 r.w, .int .i64 r.h]) rfl (by kernel_rfl) (by kernel_rfl) (by kernel_rfl) (fun _ _ _ h => h) (Or.inl ⟨by kernel_rfl, by intro w' hSw; (try dsimp only at hSw); go_simp⟩) (by assumption) ?_
        go_simp
        refine wpAnyH_take (i := 17) (v := .agg #[.int .i64 b.x, .int .i64 b.y, .int .i64 b.w, .int .i64 b.h]) rfl (by kernel_rfl) (by kernel_rfl) (by kernel_rfl) (fun _ _ _ h => h) (Or.inl ⟨by kernel_rfl, by intro w' hSw; (try dsimp only at hSw); go_simp⟩) (by assumption) ?_
        go_simp
        refine wpAnyH_take (i := 18) (v := .agg #[.int .i64 a.x, .int .i64 a.y, .int .i64 a.w, .int .i64 a.h]) rfl (by kernel_rfl) (by kernel_rfl) (by kernel_rfl) (fun _ _ _ h => h) (Or.inl ⟨by kernel_rfl, by intro w' hSw; (try dsimp only at hSw); go_simp⟩) (by assumption) ?_
        go_simp
        refine wpAnyH_ready (rs := [19]) (by kernel_rfl) (by simp) ?_
        refine AllReadyH.cons rfl (fun K hK => ?_) AllReadyH.nil
        go_simp
        go_wp2_with fail
        refine (CJ.out _).mono ?_
        rintro e wk ⟨rfl, hbk⟩
        (with_reducible first | have hBa := hBa.below hbk hBa.lt | have hBa := hBa.drew.below hbk hBa.drew.lt); (with_reducible first | have hBb := hBb.below hbk hBb.lt | have hBb := hBb.drew.below hbk hBb.drew.lt); (with_reducible first | have hBr := hBr.below hbk hBr.lt | have hBr := hBr.drew.below hbk hBr.drew.lt); (with_reducible first | have hBu := hBu.below hbk hBu.lt | have hBu := hBu.drew.below hbk hBu.drew.lt); (with_reducible first | have hw := hw.trans (hbk.mono hw.size) | have hw := hw.drew.trans (hbk.mono hw.drew.size))
        go_wp2_with fail
        refine hK.out _ _ ⟨hBa.cells, hBb.cells, hBr.cells, hBu.cells⟩ (fun hHeld => ?_)
        clear hK K
        refine wpAnyH_take (i := 20) (v := .bool false) rfl (by kernel_rfl) (by kernel_rfl) (by kernel_rfl) (fun _ _ _ h => h) (Or.inl ⟨by kernel_rfl, by intro w' hSw; (try dsimp only at hSw); go_simp⟩) (by assumption) ?_
        go_simp
        refine wpAnyH_take (i := 21) (v := .bool false) rfl (by kernel_rfl) (by kernel_rfl) (by kernel_rfl) (fun _ _ _ h => h) (Or.inl ⟨by kernel_rfl, by intro w' hSw; (try dsimp only at hSw); go_simp⟩) (by assumption) ?_
        go_simp
        refine wpAnyH_done (by kernel_rfl) ?_ _
        go_wp2_with fail
        go_meet
        case rel => with_reducible exact ⟨rfl, hBa, hBb, hBr, hBu, hw⟩
      · rcases hvb : hasB b (x % 24 - 6) (y % 20 - 6)
        all_goals
          rw [hva, hvb] at dR
          rw [hva] at dA
          rw [hvb] at dB
          simp only [Bool.true_and] at dR
          have DR := Lib.hid dR
          have DA := Lib.hid dA
          have DB := Lib.hid dB
          clear dR dA dB hva hvb
          go_region_held3 (fun w' => (w'.cell? ⟨w1.heap.size, 0, none⟩ = some (.int .i64 a.x) ∧ w'.cell? ⟨w1.heap.size, 1, none⟩ = some (.int .i64 a.y) ∧ w'.cell? ⟨w1.heap.size, 2, none⟩ = some (.int .i64 a.w) ∧ w'.cell? ⟨w1.heap.size, 3, none⟩ = some (.int .i64 a.h)) ∧
          (w'.cell? ⟨w1.heap.size + 1, 0, none⟩ = some (.int .i64 b.x) ∧ w'.cell? ⟨w1.heap.size + 1, 1, none⟩ = some (.int .i64 b.y) ∧ w'.cell? ⟨w1.heap.size + 1, 2, none⟩ = some (.int .i64 b.w) ∧ w'.cell? ⟨w1.heap.size + 1, 3, none⟩ = some (.int .i64 b.h)) ∧
          (w'.cell? ⟨w2.heap.size, 0, none⟩ = some (.int .i64 r.x) ∧ w'.cell? ⟨w2.heap.size, 1, none⟩ = some (.int .i64 r.y) ∧ w'.cell? ⟨w2.heap.size, 2, none⟩ = some (.int .i64 r.w) ∧ w'.cell? ⟨w2.heap.size, 3, none⟩ = some (.int .i64 r.h)) ∧
          (w'.cell? ⟨w3.heap.size, 0, none⟩ = some (.int .i64 u.x) ∧ w'.cell? ⟨w3.heap.size, 1, none⟩ = some (.int .i64 u.y) ∧ w'.cell? ⟨w3.heap.size, 2, none⟩ = some (.int .i64 u.w) ∧ w'.cell? ⟨w3.heap.size, 3, none⟩ = some (.int .i64 u.h)))
            (with_reducible first | exact ⟨hBa.cells, hBb.cells, hBr.cells, hBu.cells⟩ | exact ⟨hBa.drew.cells, hBb.drew.cells, hBr.drew.cells, hBu.drew.cells⟩ | fail)
            (first | (go_at_call 14; (with_reducible refine (DR.out _).mono ?_); rintro e wk ⟨rfl, hbk⟩; (with_reducible first | have hBa := hBa.below hbk hBa.lt | have hBa := hBa.drew.below hbk hBa.drew.lt); (with_reducible first | have hBb := hBb.below hbk hBb.lt | have hBb := hBb.drew.below hbk hBb.drew.lt); (with_reducible first | have hBr := hBr.below hbk hBr.lt | have hBr := hBr.drew.below hbk hBr.drew.lt); (with_reducible first | have hBu := hBu.below hbk hBu.lt | have hBu := hBu.drew.below hbk hBu.drew.lt); (with_reducible first | have hw := hw.trans (hbk.mono hw.size) | have hw := hw.drew.trans (hbk.mono hw.drew.size))) | (go_at_call 14; (with_reducible refine (DA.out _).mono ?_); rintro e wk ⟨rfl, hbk⟩; (with_reducible first | have hBa := hBa.below hbk hBa.lt | have hBa := hBa.drew.below hbk hBa.drew.lt); (with_reducible first | have hBb := hBb.below hbk hBb.lt | have hBb := hBb.drew.below hbk hBb.drew.lt); (with_reducible first | have hBr := hBr.below hbk hBr.lt | have hBr := hBr.drew.below hbk hBr.drew.lt); (with_reducible first | have hBu := hBu.below hbk hBu.lt | have hBu := hBu.drew.below hbk hBu.drew.lt); (with_reducible first | have hw := hw.trans (hbk.mono hw.size) | have hw := hw.drew.trans (hbk.mono hw.drew.size))) | (go_at_call 14; (with_reducible refine (DB.out _).mono ?_); rintro e wk ⟨rfl, hbk⟩; (with_reducible first | have hBa := hBa.below hbk hBa.lt | have hBa := hBa.drew.below hbk hBa.drew.lt); (with_reducible first | have hBb := hBb.below hbk hBb.lt | have hBb := hBb.drew.below hbk hBb.drew.lt); (with_reducible first | have hBr := hBr.below hbk hBr.lt | have hBr := hBr.drew.below hbk hBr.drew.lt); (with_reducible first | have hBu := hBu.below hbk hBu.lt | have hBu := hBu.drew.below hbk hBu.drew.lt); (with_reducible first | have hw := hw.trans (hbk.mono hw.size) | have hw := hw.drew.trans (hbk.mono hw.drew.size))) | (go_at_call 16; (with_reducible refine (CJ.out _).mono ?_); rintro e wk ⟨rfl, hbk⟩; (with_reducible first | have hBa := hBa.below hbk hBa.lt | have hBa := hBa.drew.below hbk hBa.drew.lt); (with_reducible first | have hBb := hBb.below hbk hBb.lt | have hBb := hBb.drew.below hbk hBb.drew.lt); (with_reducible first | have hBr := hBr.below hbk hBr.lt | have hBr := hBr.drew.below hbk hBr.drew.lt); (with_reducible first | have hBu := hBu.below hbk hBu.lt | have hBu := hBu.drew.below hbk hBu.drew.lt); (with_reducible first | have hw := hw.trans (hbk.mono hw.size) | have hw := hw.drew.trans (hbk.mono hw.drew.size))))
          all_goals
            go_wp2_with fail
            go_meet
            case rel => with_reducible exact ⟨rfl, hBa, hBb, hBr, hBu, hw⟩
    case rest =>
      clear hBa hBb hBr hBu hw
      obtain ⟨rfl, hBa, hBb, hBr, hBu, hw⟩ := hcut
      have la := hBa.lt
      obtain ⟨a0, a1, a2, a3⟩ := hBa.cells
      go_wp2_with fail
      refine (CM.out _).mono ?_
      rintro e wk ⟨rfl, hbk⟩
      have hBa := hBa.below hbk hBa.lt
      have hBb := hBb.below hbk hBb.lt
      have hBr := hBr.below hbk hBr.lt
      have hBu := hBu.below hbk hBu.lt
      have hw := hw.trans (hbk.mono hw.size)
      clear hbk a0 a1 a2 a3
      go_wp2_with fail
      refine (CN.out _).mono ?_
      rintro e wk ⟨rfl, hbk⟩
      have hBa := (hBa.below hbk hBa.lt).alloc (.cells #[.int .i64 a.x, .int .i64 a.y, .int .i64 a.w, .int .i64 a.h] 25)
      have hBb := (hBb.below hbk hBb.lt).alloc (.cells #[.int .i64 a.x, .int .i64 a.y, .int .i64 a.w, .int .i64 a.h] 25)
      have hBr := (hBr.below hbk hBr.lt).alloc (.cells #[.int .i64 a.x, .int .i64 a.y, .int .i64 a.w, .int .i64 a.h] 25)
      have hBu := (hBu.below hbk hBu.lt).alloc (.cells #[.int .i64 a.x, .int .i64 a.y, .int .i64 a.w, .int .i64 a.h] 25)
      have hw := hw.trans (hbk.mono hw.size)
      have hw := hw.alloc hw.size (.cells #[.int .i64 a.x, .int .i64 a.y, .int .i64 a.w, .int .i64 a.h] 25)
      have hBm := RcAt.new wk a
      clear hbk
      obtain ⟨a0, a1, a2, a3⟩ := hBa.cells
      have la := hBa.lt
      obtain ⟨b0, b1, b2, b3⟩ := hBb.cells
      have lb := hBb.lt
      obtain ⟨r0, r1, r2, r3⟩ := hBr.cells
      have lr := hBr.lt
      obtain ⟨u0, u1, u2, u3⟩ := hBu.cells
      have lu := hBu.lt
      obtain ⟨m0, m1, m2, m3⟩ := hBm.cells
      have lm := hBm.lt
      go_wp2_with fail
      refine (CA.out _).mono ?_
      rintro e wj ⟨rfl, hbk⟩
      have hBa := hBa.below hbk hBa.lt
      have hBb := hBb.below hbk hBb.lt
      have hBr := hBr.below hbk hBr.lt
      have hBu := hBu.below hbk hBu.lt
      have hBm := hBm.below hbk hBm.lt
      have hw := hw.trans (hbk.mono hw.size)
      clear hbk a0 a1 a2 a3 la b0 b1 b2 b3 lb r0 r1 r2 r3 lr u0 u1 u2 u3 lu m0 m1 m2 m3 lm
      obtain ⟨a0, a1, a2, a3⟩ := hBa.cells
      have la := hBa.lt
      obtain ⟨b0, b1, b2, b3⟩ := hBb.cells
      have lb := hBb.lt
      obtain ⟨r0, r1, r2, r3⟩ := hBr.cells
      have lr := hBr.lt
      obtain ⟨u0, u1, u2, u3⟩ := hBu.cells
      have lu := hBu.lt
      obtain ⟨m0, m1, m2, m3⟩ := hBm.cells
      have lm := hBm.lt
      go_wp2_with fail
      refine (CB.out _).mono ?_
      rintro e wj ⟨rfl, hbk⟩
      have hBa := hBa.below hbk hBa.lt
      have hBb := hBb.below hbk hBb.lt
      have hBr := hBr.below hbk hBr.lt
      have hBu := hBu.below hbk hBu.lt
      have hBm := hBm.below hbk hBm.lt
      have hw := hw.trans (hbk.mono hw.size)
      clear hbk a0 a1 a2 a3 la b0 b1 b2 b3 lb r0 r1 r2 r3 lr u0 u1 u2 u3 lu m0 m1 m2 m3 lm
      obtain ⟨a0, a1, a2, a3⟩ := hBa.cells
      have la := hBa.lt
      obtain ⟨b0, b1, b2, b3⟩ := hBb.cells
      have lb := hBb.lt
      obtain ⟨r0, r1, r2, r3⟩ := hBr.cells
      have lr := hBr.lt
      obtain ⟨u0, u1, u2, u3⟩ := hBu.cells
      have lu := hBu.lt
      obtain ⟨m0, m1, m2, m3⟩ := hBm.cells
      have lm := hBm.lt
      go_wp2_with fail
      refine (CC.out _).mono ?_
      rintro e wj ⟨rfl, hbk⟩
      have hBa := hBa.below hbk hBa.lt
      have hBb := hBb.below hbk hBb.lt
      have hBr := hBr.below hbk hBr.lt
      have hBu := hBu.below hbk hBu.lt
      have hBm := hBm.below hbk hBm.lt
      have hw := hw.trans (hbk.mono hw.size)
      clear hbk a0 a1 a2 a3 la b0 b1 b2 b3 lb r0 r1 r2 r3 lr u0 u1 u2 u3 lu m0 m1 m2 m3 lm
      obtain ⟨a0, a1, a2, a3⟩ := hBa.cells
      have la := hBa.lt
      obtain ⟨b0, b1, b2, b3⟩ := hBb.cells
      have lb := hBb.lt
      obtain ⟨r0, r1, r2, r3⟩ := hBr.cells
      have lr := hBr.lt
      obtain ⟨u0, u1, u2, u3⟩ := hBu.cells
      have lu := hBu.lt
      obtain ⟨m0, m1, m2, m3⟩ := hBm.cells
      have lm := hBm.lt
      go_wp2_with fail
      refine (CO.out _).mono ?_
      rintro e wj ⟨rfl, hbk⟩
      have hBa := hBa.below hbk hBa.lt
      have hBb := hBb.below hbk hBb.lt
      have hBr := hBr.below hbk hBr.lt
      have hBu := hBu.below hbk hBu.lt
      have hBm := hBm.below hbk hBm.lt
      have hw := hw.trans (hbk.mono hw.size)
      clear hbk a0 a1 a2 a3 la b0 b1 b2 b3 lb r0 r1 r2 r3 lr u0 u1 u2 u3 lu m0 m1 m2 m3 lm
      obtain ⟨a0, a1, a2, a3⟩ := hBa.cells
      have la := hBa.lt
      obtain ⟨b0, b1, b2, b3⟩ := hBb.cells
      have lb := hBb.lt
      obtain ⟨r0, r1, r2, r3⟩ := hBr.cells
      have lr := hBr.lt
      obtain ⟨u0, u1, u2, u3⟩ := hBu.cells
      have lu := hBu.lt
      obtain ⟨m0, m1, m2, m3⟩ := hBm.cells
      have lm := hBm.lt
      go_wp2_with fail
      go_ret
      with_reducible exact ⟨rfl, hw⟩
  · go_enter Try.func9, Try.ntmps9
    go_wp2_with fail
    refine (big_yes _ _ _ _ (by omega)).mono ?_
    rintro e w1 ⟨rfl, rfl⟩
    go_wp2_with fail
    go_ret
    exact ⟨rfl, Below.refl _ _⟩
end Go.Proofs.Ytfjdknghphmceaa
