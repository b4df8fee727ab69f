/- The contracts of the small functions over rectangles (impl and spec): inRange, RectOk, rightOf, bottomOf, the test for an empty one. No statement is proved here. -/
import Derived.Test.YtaggldhlnjbnhaaBase
import Derived.Test.YtaggldhlnjbnhaaProg
import Derived.WalkKit
import Derived.ProofKit
import Derived.OpenShut
import Derived.WalkLawsBesides
import Derived.WalkSpells
import Derived.ShutString
import Derived.ChangeOld
import Derived.Below
import Derived.Lib.Hide
namespace Go.Proofs.Ytaggldhlnjbnhaa
open Go.RowKit
/-- A rectangle of four numbers. -/
structure Rc where
  x : Int
  y : Int
  w : Int
  h : Int
def Rc.ok (r : Rc) : Prop := -1000 ≤ r.x ∧ r.x ≤ 1000 ∧ -1000 ≤ r.y ∧ r.y ≤ 1000 ∧ 0 ≤ r.w ∧ r.w ≤ 1000 ∧ 0 ≤ r.h ∧ r.h ≤ 1000
theorem inI_yes (n lo hi : Int) (w : World) (h1 : lo ≤ n) (h2 : n ≤ hi) :
    Calls Try.prog 53 #[.int .i64 n, .int .i64 lo, .int .i64 hi] w fun e w' => e = .returned (.bool true) ∧ w = w' := by
  go_enter Try.func53, Try.ntmps53
  go_wp2
  go_ret
  exact ⟨rfl, rfl⟩
theorem inI_no (n lo hi : Int) (w : World) (h : n < lo ∨ hi < n) :
    Calls Try.prog 53 #[.int .i64 n, .int .i64 lo, .int .i64 hi] w fun e w' => e = .returned (.bool false) ∧ w = w' := by
  by_cases h1 : n < lo
  · clear h
    go_enter Try.func53, Try.ntmps53
    go_wp2
    go_ret
    exact ⟨rfl, rfl⟩
  · have h2 : hi < n := by omega
    have h3 : lo ≤ n := by omega
    clear h h1
    go_enter Try.func53, Try.ntmps53
    go_wp2
    go_ret
    exact ⟨ret_bool (decide_eq_false (by omega)), rfl⟩
theorem inS_yes (n lo hi : Int) (w : World) (h1 : lo ≤ n) (h2 : n ≤ hi) :
    Calls Try.prog 60 #[.int .i64 n, .int .i64 lo, .int .i64 hi] w fun e w' => e = .returned (.bool true) ∧ w = w' := by
  go_enter Try.func60, Try.ntmps60
  go_wp2
  go_ret
  exact ⟨rfl, rfl⟩
theorem inS_no (n lo hi : Int) (w : World) (h : n < lo ∨ hi < n) :
    Calls Try.prog 60 #[.int .i64 n, .int .i64 lo, .int .i64 hi] w fun e w' => e = .returned (.bool false) ∧ w = w' := by
  by_cases h1 : n < lo
  · clear h
    go_enter Try.func60, Try.ntmps60
    go_wp2
    go_ret
    exact ⟨rfl, rfl⟩
  · have h2 : hi < n := by omega
    have h3 : lo ≤ n := by omega
    clear h h1
    go_enter Try.func60, Try.ntmps60
    go_wp2
    go_ret
    exact ⟨ret_bool (decide_eq_false (by omega)), rfl⟩
theorem rectOkI_yes (r : Rc) (hr : r.ok) (w : World) :
    Calls Try.prog 93 #[.agg #[.int .i64 r.x, .int .i64 r.y, .int .i64 r.w, .int .i64 r.h]] w fun e w' => e = .returned (.bool true) ∧ Below w.heap.size w w' := by
  obtain ⟨h1, h2, h3, h4, h5, h6, h7, h8⟩ := hr
  go_enter Try.func93, Try.ntmps93
  go_wp2_with ((go_at_call 53; (with_reducible refine (inI_yes _ _ _ _ (by omega) (by omega)).mono ?_); rintro e w' ⟨rfl, rfl⟩))
  go_ret
  exact ⟨rfl, (Below.refl _ _).alloc (Nat.le_refl _) _⟩
theorem rectOkI_no (r : Rc) (hr : ¬ r.ok) (w : World) :
    Calls Try.prog 93 #[.agg #[.int .i64 r.x, .int .i64 r.y, .int .i64 r.w, .int .i64 r.h]] w fun e w' => e = .returned (.bool false) ∧ Below w.heap.size w w' := by
  unfold Rc.ok at hr
  by_cases h1 : -1000 ≤ r.x ∧ r.x ≤ 1000
  · obtain ⟨h1, h2⟩ := h1
    by_cases h3 : -1000 ≤ r.y ∧ r.y ≤ 1000
    · obtain ⟨h3, h4⟩ := h3
      by_cases h5 : 0 ≤ r.w ∧ r.w ≤ 1000
      · obtain ⟨h5, h6⟩ := h5
        have h7 : r.h < 0 ∨ 1000 < r.h := by omega
        have H7 := Lib.hid h7
        clear h7 hr
        go_enter Try.func93, Try.ntmps93
        go_wp2_with (first | (go_at_call 53; (with_reducible refine (inI_yes _ _ _ _ (by omega) (by omega)).mono ?_); rintro e w' ⟨rfl, rfl⟩) | (go_at_call 53; (with_reducible refine (inI_no _ _ _ _ H7.out).mono ?_); rintro e w' ⟨rfl, rfl⟩))
        go_ret
        exact ⟨rfl, (Below.refl _ _).alloc (Nat.le_refl _) _⟩
      · have h7 : r.w < 0 ∨ 1000 < r.w := by omega
        have H7 := Lib.hid h7
        clear h7 hr h5
        go_enter Try.func93, Try.ntmps93
        go_wp2_with (first | (go_at_call 53; (with_reducible refine (inI_yes _ _ _ _ (by omega) (by omega)).mono ?_); rintro e w' ⟨rfl, rfl⟩) | (go_at_call 53; (with_reducible refine (inI_no _ _ _ _ H7.out).mono ?_); rintro e w' ⟨rfl, rfl⟩))
        go_ret
        exact ⟨rfl, (Below.refl _ _).alloc (Nat.le_refl _) _⟩
    · have h7 : r.y < -1000 ∨ 1000 < r.y := by omega
      have H7 := Lib.hid h7
      clear h7 hr h3
      go_enter Try.func93, Try.ntmps93
      go_wp2_with (first | (go_at_call 53; (with_reducible refine (inI_yes _ _ _ _ (by omega) (by omega)).mono ?_); rintro e w' ⟨rfl, rfl⟩) | (go_at_call 53; (with_reducible refine (inI_no _ _ _ _ H7.out).mono ?_); rintro e w' ⟨rfl, rfl⟩))
      go_ret
      exact ⟨rfl, (Below.refl _ _).alloc (Nat.le_refl _) _⟩
  · have h7 : r.x < -1000 ∨ 1000 < r.x := by omega
    have H7 := Lib.hid h7
    clear h7 hr h1
    go_enter Try.func93, Try.ntmps93
    go_wp2_with (first | (go_at_call 53; (with_reducible refine (inI_no _ _ _ _ H7.out).mono ?_); rintro e w' ⟨rfl, rfl⟩))
    go_ret
    exact ⟨rfl, (Below.refl _ _).alloc (Nat.le_refl _) _⟩
theorem rectOkS_yes (r : Rc) (hr : r.ok) (w : World) :
    Calls Try.prog 73 #[.agg #[.int .i64 r.x, .int .i64 r.y, .int .i64 r.w, .int .i64 r.h]] w fun e w' => e = .returned (.bool true) ∧ Below w.heap.size w w' := by
  obtain ⟨h1, h2, h3, h4, h5, h6, h7, h8⟩ := hr
  go_enter Try.func73, Try.ntmps73
  go_wp2_with ((go_at_call 60; (with_reducible refine (inS_yes _ _ _ _ (by omega) (by omega)).mono ?_); rintro e w' ⟨rfl, rfl⟩))
  go_ret
  exact ⟨rfl, (Below.refl _ _).alloc (Nat.le_refl _) _⟩
theorem rectOkS_no (r : Rc) (hr : ¬ r.ok) (w : World) :
    Calls Try.prog 73 #[.agg #[.int .i64 r.x, .int .i64 r.y, .int .i64 r.w, .int .i64 r.h]] w fun e w' => e = .returned (.bool false) ∧ Below w.heap.size w w' := by
  unfold Rc.ok at hr
  by_cases h1 : -1000 ≤ r.x ∧ r.x ≤ 1000
  · obtain ⟨h1, h2⟩ := h1
    by_cases h3 : -1000 ≤ r.y ∧ r.y ≤ 1000
    · obtain ⟨h3, h4⟩ := h3
      by_cases h5 : 0 ≤ r.w ∧ r.w ≤ 1000
      · obtain ⟨h5, h6⟩ := h5
        have h7 : r.h < 0 ∨ 1000 < r.h := by omega
        have H7 := Lib.hid h7
        clear h7 hr
        go_enter Try.func73, Try.ntmps73
        go_wp2_with (first | (go_at_call 60; (with_reducible refine (inS_yes _ _ _ _ (by omega) (by omega)).mono ?_); rintro e w' ⟨rfl, rfl⟩) | (go_at_call 60; (with_reducible refine (inS_no _ _ _ _ H7.out).mono ?_); rintro e w' ⟨rfl, rfl⟩))
        go_ret
        exact ⟨rfl, (Below.refl _ _).alloc (Nat.le_refl _) _⟩
      · have h7 : r.w < 0 ∨ 1000 < r.w := by omega
        have H7 := Lib.hid h7
        clear h7 hr h5
        go_enter Try.func73, Try.ntmps73
        go_wp2_with (first | (go_at_call 60; (with_reducible refine (inS_yes _ _ _ _ (by omega) (by omega)).mono ?_); rintro e w' ⟨rfl, rfl⟩) | (go_at_call 60; (with_reducible refine (inS_no _ _ _ _ H7.out).mono ?_); rintro e w' ⟨rfl, rfl⟩))
        go_ret
        exact ⟨rfl, (Below.refl _ _).alloc (Nat.le_refl _) _⟩
    · have h7 : r.y < -1000 ∨ 1000 < r.y := by omega
      have H7 := Lib.hid h7
      clear h7 hr h3
      go_enter Try.func73, Try.ntmps73
      go_wp2_with (first | (go_at_call 60; (with_reducible refine (inS_yes _ _ _ _ (by omega) (by omega)).mono ?_); rintro e w' ⟨rfl, rfl⟩) | (go_at_call 60; (with_reducible refine (inS_no _ _ _ _ H7.out).mono ?_); rintro e w' ⟨rfl, rfl⟩))
      go_ret
      exact ⟨rfl, (Below.refl _ _).alloc (Nat.le_refl _) _⟩
  · have h7 : r.x < -1000 ∨ 1000 < r.x := by omega
    have H7 := Lib.hid h7
    clear h7 hr h1
    go_enter Try.func73, Try.ntmps73
    go_wp2_with (first | (go_at_call 60; (with_reducible refine (inS_no _ _ _ _ H7.out).mono ?_); rintro e w' ⟨rfl, rfl⟩))
    go_ret
    exact ⟨rfl, (Below.refl _ _).alloc (Nat.le_refl _) _⟩
end Go.Proofs.Ytaggldhlnjbnhaa
