/- The contract of spec.Covers, two rectangles with points. No statement is proved here. -/
import Derived.Test.YtaggldhlnjbnhaaBase
import Derived.Test.YtaggldhlnjbnhaaRectC
import Derived.Test.YtaggldhlnjbnhaaBlk4
import Derived.Test.YtaggldhlnjbnhaaIsectP
import Derived.Test.YtaggldhlnjbnhaaIsectS
import Derived.Test.YtaggldhlnjbnhaaCoverC
import Derived.Test.YtaggldhlnjbnhaaCoverS
import Derived.Test.YtaggldhlnjbnhaaProg
import Derived.WalkKit
import Derived.ProofKit
import Derived.OpenShut
import Derived.WalkLawsBesides
import Derived.WalkSpells
import Derived.ShutString
import Derived.ChangeOld
import Derived.Below
import Derived.Lib.Hide
import Derived.Deep.RegionHeld3
import Derived.Deep.DeepCutAuto
namespace Go.Proofs.Ytaggldhlnjbnhaa
open Go.RowKit
set_option maxHeartbeats 4000000 in
theorem coversS_two (a b : Rc) (ha : a.ok) (hb : b.ok) (he : ¬ b.emp) (w : World) :
    Calls Try.prog 75 #[.agg #[.int .i64 a.x, .int .i64 a.y, .int .i64 a.w, .int .i64 a.h], .agg #[.int .i64 b.x, .int .i64 b.y, .int .i64 b.w, .int .i64 b.h]] w
      fun e w' => e = .returned (.bool (covB a b)) ∧ Below w.heap.size w w' := by
  have Ha := Lib.hid ha
  have Hb := Lib.hid hb
  have He := Lib.hid he
  clear ha hb he
  obtain ⟨r, hr⟩ : ∃ r, r = isect a b := ⟨_, rfl⟩
  have hI := isectS_any a b
  rw [← hr] at hI
  have HI := Lib.hid hI
  have Hr := Lib.hid hr
  clear hI hr
  rcases rc_cases r b with ⟨hq, e0, e1, e2, e3⟩ | ⟨hq, hq'⟩
  · have Hq := Lib.hid hq
    clear hq
    go_enter Try.func75, Try.ntmps75
    go_wp2_with fail
    go_region_held3 (fun w' => (w'.cell? ⟨w.heap.size, 0, none⟩ = some (.int .i64 a.x) ∧ w'.cell? ⟨w.heap.size, 1, none⟩ = some (.int .i64 a.y) ∧ w'.cell? ⟨w.heap.size, 2, none⟩ = some (.int .i64 a.w) ∧ w'.cell? ⟨w.heap.size, 3, none⟩ = some (.int .i64 a.h)) ∧
      (w'.cell? ⟨w.heap.size + 1, 0, none⟩ = some (.int .i64 b.x) ∧ w'.cell? ⟨w.heap.size + 1, 1, none⟩ = some (.int .i64 b.y) ∧ w'.cell? ⟨w.heap.size + 1, 2, none⟩ = some (.int .i64 b.w) ∧ w'.cell? ⟨w.heap.size + 1, 3, none⟩ = some (.int .i64 b.h)))
      (first | go_keep | (refine ⟨⟨?_, ?_, ?_, ?_⟩, ?_, ?_, ?_, ?_⟩ <;> (rw [hb3.cell (by first | (simp; done) | (simp; omega))]; go_keep)))
      (first | (go_at_call 73; (with_reducible refine (rectOkS_yes a Ha.out _).mono ?_); rintro e w3 ⟨rfl, hb3⟩; have hzA : w.heap.size + 1 < w3.heap.size := (by have := hb3.size; simp at this; omega); have hbA := hb3) | (go_at_call 73; (with_reducible refine (rectOkS_yes b Hb.out _).mono ?_); rintro e w3 ⟨rfl, hb3⟩; have hzB : w.heap.size + 1 < w3.heap.size := (by have := hb3.size; omega); have hbB := hb3) | (go_at_call 74; (with_reducible refine (empS_no b He.out _).mono ?_); rintro e w' ⟨rfl, rfl⟩) | (go_at_call 95; (with_reducible refine (HI.out _).mono ?_); rintro e w3 ⟨rfl, hb3⟩))
    all_goals
      go_wp2_with fail
      go_ret
      exact ⟨ret_bool (cov_yes ⟨Ha.out, Hb.out, .inr (Hr.out ▸ Hq.out)⟩).symm, ((((((Below.refl _ _).alloc (Nat.le_refl _) _).alloc (by simp) _).drew.trans (hbA.mono (by simp; omega))).trans (hbB.mono (by omega))).alloc (by omega) _).trans (hb3.mono (by simp; omega))⟩
  · have Hq := Lib.hid hq
    clear hq
    rcases hq' with e0 | ⟨e0, e1⟩ | ⟨e0, e1, e2⟩ | ⟨e0, e1, e2, e3⟩
    all_goals
      go_enter Try.func75, Try.ntmps75
      go_wp2_with fail
      go_region_held3 (fun w' => (w'.cell? ⟨w.heap.size, 0, none⟩ = some (.int .i64 a.x) ∧ w'.cell? ⟨w.heap.size, 1, none⟩ = some (.int .i64 a.y) ∧ w'.cell? ⟨w.heap.size, 2, none⟩ = some (.int .i64 a.w) ∧ w'.cell? ⟨w.heap.size, 3, none⟩ = some (.int .i64 a.h)) ∧
        (w'.cell? ⟨w.heap.size + 1, 0, none⟩ = some (.int .i64 b.x) ∧ w'.cell? ⟨w.heap.size + 1, 1, none⟩ = some (.int .i64 b.y) ∧ w'.cell? ⟨w.heap.size + 1, 2, none⟩ = some (.int .i64 b.w) ∧ w'.cell? ⟨w.heap.size + 1, 3, none⟩ = some (.int .i64 b.h)))
        (first | go_keep | (refine ⟨⟨?_, ?_, ?_, ?_⟩, ?_, ?_, ?_, ?_⟩ <;> (rw [hb3.cell (by first | (simp; done) | (simp; omega))]; go_keep)))
        (first | (go_at_call 73; (with_reducible refine (rectOkS_yes a Ha.out _).mono ?_); rintro e w3 ⟨rfl, hb3⟩; have hzA : w.heap.size + 1 < w3.heap.size := (by have := hb3.size; simp at this; omega); have hbA := hb3) | (go_at_call 73; (with_reducible refine (rectOkS_yes b Hb.out _).mono ?_); rintro e w3 ⟨rfl, hb3⟩; have hzB : w.heap.size + 1 < w3.heap.size := (by have := hb3.size; omega); have hbB := hb3) | (go_at_call 74; (with_reducible refine (empS_no b He.out _).mono ?_); rintro e w' ⟨rfl, rfl⟩) | (go_at_call 95; (with_reducible refine (HI.out _).mono ?_); rintro e w3 ⟨rfl, hb3⟩))
      all_goals
        go_wp2_with fail
        go_ret
        exact ⟨ret_bool (cov_no (fun h => h.2.2.elim He.out (fun h => Hq.out (Hr.out.trans h)))).symm, ((((((Below.refl _ _).alloc (Nat.le_refl _) _).alloc (by simp) _).drew.trans (hbA.mono (by simp; omega))).trans (hbB.mono (by omega))).alloc (by omega) _).trans (hb3.mono (by simp; omega))⟩
theorem coversS_any (a b : Rc) (w : World) :
    Calls Try.prog 75 #[.agg #[.int .i64 a.x, .int .i64 a.y, .int .i64 a.w, .int .i64 a.h], .agg #[.int .i64 b.x, .int .i64 b.y, .int .i64 b.w, .int .i64 b.h]] w
      fun e w' => e = .returned (.bool (covB a b)) ∧ Below w.heap.size w w' := by
  by_cases ha : a.ok
  · by_cases hb : b.ok
    · by_cases he : b.emp
      · exact coversS_emp a b ha hb he w
      · exact coversS_two a b ha hb he w
    · exact coversS_bad2 a b ha hb w
  · exact coversS_bad1 a b ha w
end Go.Proofs.Ytaggldhlnjbnhaa
