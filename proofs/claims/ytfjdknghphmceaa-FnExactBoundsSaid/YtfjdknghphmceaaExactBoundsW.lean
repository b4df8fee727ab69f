/- The walk of the law FnExactBounds: it returns true for every two rectangles. -/
import Derived.Test.YtfjdknghphmceaaRectEq
import Derived.Test.YtfjdknghphmceaaBndMI
import Derived.Test.YtfjdknghphmceaaBndMS
import Derived.Deep.RegionHeld3
import Derived.Deep.DeepCutAuto
namespace Go.Proofs.Ytfjdknghphmceaa
open Go.RowKit
set_option maxHeartbeats 1000000 in
theorem walk_FnExactBounds (a : Rc) (b : Rc) (w : World) :
    Calls Try.prog 6 #[.agg #[.int .i64 a.x, .int .i64 a.y, .int .i64 a.w, .int .i64 a.h], .agg #[.int .i64 b.x, .int .i64 b.y, .int .i64 b.w, .int .i64 b.h]] w fun e w' => e = .returned (.bool true) ∧ Below w.heap.size w w' := by
  obtain ⟨r, hr⟩ : ∃ r, r = boundsR a b := ⟨_, rfl⟩
  have hS := bndS_any a b
  have hI := bndI_any a b
  rw [← hr] at hS hI
  have HS := Lib.hid hS
  have HI := Lib.hid hI
  clear hS hI hr
  have hA : LcAt ((w.alloc (.cells #[.int .i64 a.x, .int .i64 a.y, .int .i64 a.w, .int .i64 a.h] 23)).alloc (.cells #[.int .i64 b.x, .int .i64 b.y, .int .i64 b.w, .int .i64 b.h] 23)) w.heap.size a := (LcAt.newAt rfl a).alloc _
  have hB : LcAt ((w.alloc (.cells #[.int .i64 a.x, .int .i64 a.y, .int .i64 a.w, .int .i64 a.h] 23)).alloc (.cells #[.int .i64 b.x, .int .i64 b.y, .int .i64 b.w, .int .i64 b.h] 23)) (w.heap.size + 1) b := LcAt.newAt (by simp) b
  have hw : Below w.heap.size w ((w.alloc (.cells #[.int .i64 a.x, .int .i64 a.y, .int .i64 a.w, .int .i64 a.h] 23)).alloc (.cells #[.int .i64 b.x, .int .i64 b.y, .int .i64 b.w, .int .i64 b.h] 23)) := ((Below.refl _ _).alloc (Nat.le_refl _) _).alloc (by simp) _
  go_enter Try.func6, Try.ntmps6
  go_upto_region 2 with fail
  go_cut [5] (fun s5 wx => ∃ g : Nat, s5 = .pointer (some ⟨g, 0, none⟩) ∧ LcAt wx w.heap.size a ∧ LcAt wx (w.heap.size + 1) b ∧ RcAt wx g r ∧ w.heap.size ≤ g ∧ Below w.heap.size w wx)
  case first =>
    go_region_held3 (fun w' => (w'.cell? ⟨w.heap.size, 0, none⟩ = some (.int .i64 a.x) ∧ w'.cell? ⟨w.heap.size, 1, none⟩ = some (.int .i64 a.y) ∧ w'.cell? ⟨w.heap.size, 2, none⟩ = some (.int .i64 a.w) ∧ w'.cell? ⟨w.heap.size, 3, none⟩ = some (.int .i64 a.h)) ∧
        (w'.cell? ⟨w.heap.size + 1, 0, none⟩ = some (.int .i64 b.x) ∧ w'.cell? ⟨w.heap.size + 1, 1, none⟩ = some (.int .i64 b.y) ∧ w'.cell? ⟨w.heap.size + 1, 2, none⟩ = some (.int .i64 b.w) ∧ w'.cell? ⟨w.heap.size + 1, 3, none⟩ = some (.int .i64 b.h)))
        (with_reducible first | exact ⟨hA.cells, hB.cells⟩ | exact ⟨(hA.alloc _).cells, (hB.alloc _).cells⟩ | exact ⟨hA.drew.cells, hB.drew.cells⟩ | exact ⟨(hA.alloc _).drew.cells, (hB.alloc _).drew.cells⟩ | exact ⟨(hA.far4 hg _ _ _ _).cells, (hB.far4 hg _ _ _ _).cells⟩ | fail)
        (first | (go_at_call 11; (with_reducible refine (toRect_any a _).mono ?_); rintro e w3 ⟨rfl, hb3⟩; (with_reducible first | have hA := hA.below hb3 hA.lt | have hA := (hA.alloc _).below hb3 (hA.alloc _).lt | have hA := (hA.drew).below hb3 hA.drew.lt | have hA := ((hA.alloc _).drew).below hb3 (hA.alloc _).drew.lt); (with_reducible first | have hB := hB.below hb3 hB.lt | have hB := (hB.alloc _).below hb3 (hB.alloc _).lt | have hB := (hB.drew).below hb3 hB.drew.lt | have hB := ((hB.alloc _).drew).below hb3 (hB.alloc _).drew.lt); (try with_reducible have hg := hg.below hb3 hg.lt); (try (with_reducible first | have hg := rc_born hb3 | have hg := rc_born_drew hb3); have hgl := hw.size); (try have hg : RcAt w3 (w.heap.size + 1 + 1) ⟨0, 0, 0, 0⟩ := (by simpa using hg)); (try obtain ⟨g0, g1, g2, g3⟩ := hg.cells); (try have gf := hg.frozen); (with_reducible first | have hw := hw.trans (hb3.mono hw.size) | have hw := (hw.alloc hw.size _).trans (hb3.mono (hw.alloc hw.size _).size) | have hw := (hw.alloc hw.size _).drew.trans (hb3.mono (hw.alloc hw.size _).drew.size) | have hw := hw.drew.trans (hb3.mono hw.drew.size))) | (go_at_call 11; (with_reducible refine (toRect_any b _).mono ?_); rintro e w3 ⟨rfl, hb3⟩; (with_reducible first | have hA := hA.below hb3 hA.lt | have hA := (hA.alloc _).below hb3 (hA.alloc _).lt | have hA := (hA.drew).below hb3 hA.drew.lt | have hA := ((hA.alloc _).drew).below hb3 (hA.alloc _).drew.lt); (with_reducible first | have hB := hB.below hb3 hB.lt | have hB := (hB.alloc _).below hb3 (hB.alloc _).lt | have hB := (hB.drew).below hb3 hB.drew.lt | have hB := ((hB.alloc _).drew).below hb3 (hB.alloc _).drew.lt); (try with_reducible have hg := hg.below hb3 hg.lt); (try (with_reducible first | have hg := rc_born hb3 | have hg := rc_born_drew hb3); have hgl := hw.size); (try have hg : RcAt w3 (w.heap.size + 1 + 1) ⟨0, 0, 0, 0⟩ := (by simpa using hg)); (try obtain ⟨g0, g1, g2, g3⟩ := hg.cells); (try have gf := hg.frozen); (with_reducible first | have hw := hw.trans (hb3.mono hw.size) | have hw := (hw.alloc hw.size _).trans (hb3.mono (hw.alloc hw.size _).size) | have hw := (hw.alloc hw.size _).drew.trans (hb3.mono (hw.alloc hw.size _).drew.size) | have hw := hw.drew.trans (hb3.mono hw.drew.size))) | (go_at_call 18; (with_reducible refine (HS.out _).mono ?_); rintro e w3 ⟨rfl, hb3⟩; (with_reducible first | have hA := hA.below hb3 hA.lt | have hA := (hA.alloc _).below hb3 (hA.alloc _).lt | have hA := (hA.drew).below hb3 hA.drew.lt | have hA := ((hA.alloc _).drew).below hb3 (hA.alloc _).drew.lt); (with_reducible first | have hB := hB.below hb3 hB.lt | have hB := (hB.alloc _).below hb3 (hB.alloc _).lt | have hB := (hB.drew).below hb3 hB.drew.lt | have hB := ((hB.alloc _).drew).below hb3 (hB.alloc _).drew.lt); (try with_reducible have hg := hg.below hb3 hg.lt); (try (with_reducible first | have hg := rc_born hb3 | have hg := rc_born_drew hb3); have hgl := hw.size); (try have hg : RcAt w3 (w.heap.size + 1 + 1) ⟨0, 0, 0, 0⟩ := (by simpa using hg)); (try obtain ⟨g0, g1, g2, g3⟩ := hg.cells); (try have gf := hg.frozen); (with_reducible first | have hw := hw.trans (hb3.mono hw.size) | have hw := (hw.alloc hw.size _).trans (hb3.mono (hw.alloc hw.size _).size) | have hw := (hw.alloc hw.size _).drew.trans (hb3.mono (hw.alloc hw.size _).drew.size) | have hw := hw.drew.trans (hb3.mono hw.drew.size))))
    all_goals
      go_wp2_with fail
      go_meet
      case rel =>
        with_reducible first
        | exact ⟨_, rfl, hA.alloc _, hB.alloc _, RcAt.new _ r, hw.size, hw.alloc hw.size _⟩
        | exact ⟨_, rfl, hA.far4 hg _ _ _ _, hB.far4 hg _ _ _ _, hg.setr r, hgl, below_set4 hw hgl _ _ _ _⟩
        | exact ⟨_, rfl, hA.far4 hg _ _ _ _, hB.far4 hg _ _ _ _, hg.setr r, by omega, below_set4 hw (by omega) _ _ _ _⟩
  case rest =>
    clear hA hB hw
    obtain ⟨g, rfl, hA, hB, hG, hgl, hw⟩ := hcut
    clear hgl
    go_upto_region 3 with fail
    go_cut [6] (fun s6 wx => ∃ g' : Nat, s6 = .pointer (some ⟨g', 0, none⟩) ∧ RcAt wx g r ∧ RcAt wx g' r ∧ Below w.heap.size w wx)
    case first =>
      go_region_held3 (fun w' => (w'.cell? ⟨w.heap.size, 0, none⟩ = some (.int .i64 a.x) ∧ w'.cell? ⟨w.heap.size, 1, none⟩ = some (.int .i64 a.y) ∧ w'.cell? ⟨w.heap.size, 2, none⟩ = some (.int .i64 a.w) ∧ w'.cell? ⟨w.heap.size, 3, none⟩ = some (.int .i64 a.h)) ∧
        (w'.cell? ⟨w.heap.size + 1, 0, none⟩ = some (.int .i64 b.x) ∧ w'.cell? ⟨w.heap.size + 1, 1, none⟩ = some (.int .i64 b.y) ∧ w'.cell? ⟨w.heap.size + 1, 2, none⟩ = some (.int .i64 b.w) ∧ w'.cell? ⟨w.heap.size + 1, 3, none⟩ = some (.int .i64 b.h)))
          (with_reducible first | exact ⟨hA.cells, hB.cells⟩ | exact ⟨(hA.alloc _).cells, (hB.alloc _).cells⟩ | exact ⟨hA.drew.cells, hB.drew.cells⟩ | exact ⟨(hA.alloc _).drew.cells, (hB.alloc _).drew.cells⟩ | exact ⟨(hA.far4 hg _ _ _ _).cells, (hB.far4 hg _ _ _ _).cells⟩ | fail)
          (first | (go_at_call 11; (with_reducible refine (toRect_any a _).mono ?_); rintro e w3 ⟨rfl, hb3⟩; (with_reducible first | have hA := hA.below hb3 hA.lt | have hA := (hA.alloc _).below hb3 (hA.alloc _).lt | have hA := (hA.drew).below hb3 hA.drew.lt | have hA := ((hA.alloc _).drew).below hb3 (hA.alloc _).drew.lt); (with_reducible first | have hB := hB.below hb3 hB.lt | have hB := (hB.alloc _).below hb3 (hB.alloc _).lt | have hB := (hB.drew).below hb3 hB.drew.lt | have hB := ((hB.alloc _).drew).below hb3 (hB.alloc _).drew.lt); (try with_reducible have hg := hg.below hb3 hg.lt); (try (with_reducible first | have hg := rc_born hb3 | have hg := rc_born_drew hb3); have hgl := hw.size; have hgn := hG.lt); (try have hg : RcAt w3 (w.heap.size + 1 + 1) ⟨0, 0, 0, 0⟩ := (by simpa using hg)); (try obtain ⟨g0, g1, g2, g3⟩ := hg.cells); (try have gf := hg.frozen); (with_reducible first | have hG := hG.below hb3 hG.lt | have hG := (hG.alloc _).below hb3 (hG.alloc _).lt | have hG := (hG.drew).below hb3 hG.drew.lt | have hG := ((hG.alloc _).drew).below hb3 (hG.alloc _).drew.lt); (with_reducible first | have hw := hw.trans (hb3.mono hw.size) | have hw := (hw.alloc hw.size _).trans (hb3.mono (hw.alloc hw.size _).size) | have hw := (hw.alloc hw.size _).drew.trans (hb3.mono (hw.alloc hw.size _).drew.size) | have hw := hw.drew.trans (hb3.mono hw.drew.size))) | (go_at_call 11; (with_reducible refine (toRect_any b _).mono ?_); rintro e w3 ⟨rfl, hb3⟩; (with_reducible first | have hA := hA.below hb3 hA.lt | have hA := (hA.alloc _).below hb3 (hA.alloc _).lt | have hA := (hA.drew).below hb3 hA.drew.lt | have hA := ((hA.alloc _).drew).below hb3 (hA.alloc _).drew.lt); (with_reducible first | have hB := hB.below hb3 hB.lt | have hB := (hB.alloc _).below hb3 (hB.alloc _).lt | have hB := (hB.drew).below hb3 hB.drew.lt | have hB := ((hB.alloc _).drew).below hb3 (hB.alloc _).drew.lt); (try with_reducible have hg := hg.below hb3 hg.lt); (try (with_reducible first | have hg := rc_born hb3 | have hg := rc_born_drew hb3); have hgl := hw.size; have hgn := hG.lt); (try have hg : RcAt w3 (w.heap.size + 1 + 1) ⟨0, 0, 0, 0⟩ := (by simpa using hg)); (try obtain ⟨g0, g1, g2, g3⟩ := hg.cells); (try have gf := hg.frozen); (with_reducible first | have hG := hG.below hb3 hG.lt | have hG := (hG.alloc _).below hb3 (hG.alloc _).lt | have hG := (hG.drew).below hb3 hG.drew.lt | have hG := ((hG.alloc _).drew).below hb3 (hG.alloc _).drew.lt); (with_reducible first | have hw := hw.trans (hb3.mono hw.size) | have hw := (hw.alloc hw.size _).trans (hb3.mono (hw.alloc hw.size _).size) | have hw := (hw.alloc hw.size _).drew.trans (hb3.mono (hw.alloc hw.size _).drew.size) | have hw := hw.drew.trans (hb3.mono hw.drew.size))) | (go_at_call 19; (with_reducible refine (HI.out _).mono ?_); rintro e w3 ⟨rfl, hb3⟩; (with_reducible first | have hA := hA.below hb3 hA.lt | have hA := (hA.alloc _).below hb3 (hA.alloc _).lt | have hA := (hA.drew).below hb3 hA.drew.lt | have hA := ((hA.alloc _).drew).below hb3 (hA.alloc _).drew.lt); (with_reducible first | have hB := hB.below hb3 hB.lt | have hB := (hB.alloc _).below hb3 (hB.alloc _).lt | have hB := (hB.drew).below hb3 hB.drew.lt | have hB := ((hB.alloc _).drew).below hb3 (hB.alloc _).drew.lt); (try with_reducible have hg := hg.below hb3 hg.lt); (try (with_reducible first | have hg := rc_born hb3 | have hg := rc_born_drew hb3); have hgl := hw.size; have hgn := hG.lt); (try have hg : RcAt w3 (w.heap.size + 1 + 1) ⟨0, 0, 0, 0⟩ := (by simpa using hg)); (try obtain ⟨g0, g1, g2, g3⟩ := hg.cells); (try have gf := hg.frozen); (with_reducible first | have hG := hG.below hb3 hG.lt | have hG := (hG.alloc _).below hb3 (hG.alloc _).lt | have hG := (hG.drew).below hb3 hG.drew.lt | have hG := ((hG.alloc _).drew).below hb3 (hG.alloc _).drew.lt); (with_reducible first | have hw := hw.trans (hb3.mono hw.size) | have hw := (hw.alloc hw.size _).trans (hb3.mono (hw.alloc hw.size _).size) | have hw := (hw.alloc hw.size _).drew.trans (hb3.mono (hw.alloc hw.size _).drew.size) | have hw := hw.drew.trans (hb3.mono hw.drew.size))))
      all_goals
        go_wp2_with fail
        go_meet
        case rel =>
          with_reducible first
          | exact ⟨_, rfl, hG.alloc _, RcAt.new _ r, hw.alloc hw.size _⟩
          | exact ⟨_, rfl, hG.far4 hgn _ _ _ _, hg.setr r, below_set4 hw hgl _ _ _ _⟩
    case rest =>
      clear hA hB hw hG
      obtain ⟨g', rfl, hG, hH, hw⟩ := hcut
      obtain ⟨a0, a1, a2, a3⟩ := hG.cells
      obtain ⟨b0, b1, b2, b3⟩ := hH.cells
      clear hG hH
      go_wp2_with fail
      refine (eqRect_same r _).mono ?_
      rintro e w4 ⟨rfl, hb4⟩
      go_wp2_with fail
      go_ret
      exact ⟨rfl, hw.trans (hb4.mono hw.size)⟩
end Go.Proofs.Ytfjdknghphmceaa
