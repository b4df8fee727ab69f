/- Texts of mine in one file: HasC. No statement is proved here. -/
import Derived.Test.YtokniebejilcbaaMA
import Derived.Test.YtokniebejilcbaaMAv123
import Derived.Test.YtokniebejilcbaaProg
import Derived.WalkKit
import Derived.ProofKit
import Derived.OpenShut
import Derived.WalkLawsBesides
import Derived.WalkSpells
import Derived.ShutString
import Derived.ChangeOld
import Derived.Below
import Derived.Lib.Hide
import Derived.Deep.RegionHeld3
import Derived.Deep.DeepCutAuto
namespace Go.Proofs.Ytokniebejilcbaa
open Go.RowKit
theorem has_yes {r : Rc} {x y : Int} (h : r.ok ∧ r.x ≤ x ∧ x < r.x + r.w ∧ r.y ≤ y ∧ y < r.y + r.h) : hasB r x y = true := decide_eq_true h
theorem has_no {r : Rc} {x y : Int} (h : ¬ (r.ok ∧ r.x ≤ x ∧ x < r.x + r.w ∧ r.y ≤ y ∧ y < r.y + r.h)) : hasB r x y = false := decide_eq_false h
theorem hasI_bad (r : Rc) (hr : ¬ r.ok) (x y : Int) (w : World) :
  Calls Try.prog 64 #[.agg #[.int .i64 r.x, .int .i64 r.y, .int .i64 r.w, .int .i64 r.h], .int .i64 x, .int .i64 y] w fun e w' => e = .returned (.bool (hasB r x y)) ∧ Below w.heap.size w w' := by
 have Hr := Lib.hid hr
 clear hr
 go_enter Try.func64, Try.ntmps64
 go_wp2_with fail
 refine (rectOkI_no r Hr.out _).mono ?_
 rintro e w1 ⟨rfl, hb1⟩
 go_wp2_with fail
 go_ret
 exact ⟨ret_bool (has_no (fun h => Hr.out h.1)).symm, (((Below.refl _ _).alloc (Nat.le_refl _) _)).trans (hb1.mono (by first | (simp; done) | (simp; omega)))⟩
set_option maxHeartbeats 1000000 in
theorem hasI_ok (r : Rc) (hr : r.ok) (x y : Int) (w : World) :
  Calls Try.prog 64 #[.agg #[.int .i64 r.x, .int .i64 r.y, .int .i64 r.w, .int .i64 r.h], .int .i64 x, .int .i64 y] w fun e w' => e = .returned (.bool (hasB r x y)) ∧ Below w.heap.size w w' := by
 have Hr := Lib.hid hr
 obtain ⟨h1, h2, h3, h4, h5, h6, h7, h8⟩ := hr
 obtain hcs | ⟨hcs, hc1⟩ | ⟨hcs, hc1, hc2⟩ | ⟨hcs, hc1, hc2, hc3⟩ | ⟨hcs, hc1, hc2, hc3⟩ : x < r.x ∨ (r.x ≤ x ∧ r.x + r.w ≤ x) ∨ (r.x ≤ x ∧ x < r.x + r.w ∧ y < r.y) ∨ (r.x ≤ x ∧ x < r.x + r.w ∧ r.y ≤ y ∧ r.y + r.h ≤ y) ∨ (r.x ≤ x ∧ x < r.x + r.w ∧ r.y ≤ y ∧ y < r.y + r.h) := by omega
 all_goals
  go_enter Try.func64, Try.ntmps64
  go_wp2_with fail
  refine (rectOkI_yes r Hr.out _).mono ?_
  rintro e w1 ⟨rfl, hb1⟩
  obtain ⟨hc, hf⟩ := bcell hb1
  have hz : w.heap.size < w1.heap.size := by have := hb1.size; simp at this; omega
  have hw : Below w.heap.size w w1 := (((Below.refl _ _).alloc (Nat.le_refl _) _)).trans (hb1.mono (by first | (simp; done) | (simp; omega)))
  go_wp2_with (first | (go_at_call 105; (with_reducible refine (rightOf_any r Hr.out _).mono ?_); rintro e w' ⟨rfl, rfl⟩) | (go_at_call 106; (with_reducible refine (bottomOf_any r Hr.out _).mono ?_); rintro e w' ⟨rfl, rfl⟩))
  go_ret
  first
  | exact ⟨ret_bool (has_yes ⟨Hr.out, by omega, by omega, by omega, by omega⟩).symm, by (first | exact hw | exact hw.alloc hw.size _ | exact (hw.alloc hw.size _).alloc (by have := hw.size; simp; omega) _)⟩
  | exact ⟨ret_bool ((decide_eq_true (by omega)).trans (has_yes ⟨Hr.out, by omega, by omega, by omega, by omega⟩).symm), by (first | exact hw | exact hw.alloc hw.size _ | exact (hw.alloc hw.size _).alloc (by have := hw.size; simp; omega) _)⟩
  | exact ⟨ret_bool (has_no (fun h => by omega)).symm, by (first | exact hw | exact hw.alloc hw.size _ | exact (hw.alloc hw.size _).alloc (by have := hw.size; simp; omega) _)⟩
  | exact ⟨ret_bool ((decide_eq_false (by omega)).trans (has_no (fun h => by omega)).symm), by (first | exact hw | exact hw.alloc hw.size _ | exact (hw.alloc hw.size _).alloc (by have := hw.size; simp; omega) _)⟩
theorem hasI_any (r : Rc) (x y : Int) (w : World) :
  Calls Try.prog 64 #[.agg #[.int .i64 r.x, .int .i64 r.y, .int .i64 r.w, .int .i64 r.h], .int .i64 x, .int .i64 y] w fun e w' => e = .returned (.bool (hasB r x y)) ∧ Below w.heap.size w w' := by
 by_cases hr : r.ok
 ·exact hasI_ok r hr x y w
 ·exact hasI_bad r hr x y w
end Go.Proofs.Ytokniebejilcbaa
