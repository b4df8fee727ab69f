/- Texts of mine in one file: RectC, IsectI, HasC. No statement is proved here. -/
import Derived.Test.YtokniebejilcbaaMA
import Derived.Test.YtokniebejilcbaaProg
import Derived.WalkKit
import Derived.ProofKit
import Derived.OpenShut
import Derived.WalkLawsBesides
import Derived.WalkSpells
import Derived.ShutString
import Derived.ChangeOld
import Derived.Below
import Derived.Lib.Hide
import Derived.Deep.RegionHeld3
import Derived.Deep.DeepCutAuto
namespace Go.Proofs.Ytokniebejilcbaa
open Go.RowKit
structure Rc where
 x : Int
 y : Int
 w : Int
 h : Int
def Rc.ok (r : Rc) : Prop := -1000 ≤ r.x ∧ r.x ≤ 1000 ∧ -1000 ≤ r.y ∧ r.y ≤ 1000 ∧ 0 ≤ r.w ∧ r.w ≤ 1000 ∧ 0 ≤ r.h ∧ r.h ≤ 1000
theorem rectOkI_yes (r : Rc) (hr : r.ok) (w : World) :
  Calls Try.prog 104 #[.agg #[.int .i64 r.x, .int .i64 r.y, .int .i64 r.w, .int .i64 r.h]] w fun e w' => e = .returned (.bool true) ∧ Below w.heap.size w w' := by
 obtain ⟨h1, h2, h3, h4, h5, h6, h7, h8⟩ := hr
 go_enter Try.func104, Try.ntmps104
 go_wp2_with ((go_at_call 103; (with_reducible refine (inI_yes _ _ _ _ (by omega) (by omega)).mono ?_); rintro e w' ⟨rfl, rfl⟩))
 go_ret
 exact ⟨rfl, (Below.refl _ _).alloc (Nat.le_refl _) _⟩
theorem rectOkI_no (r : Rc) (hr : ¬ r.ok) (w : World) :
  Calls Try.prog 104 #[.agg #[.int .i64 r.x, .int .i64 r.y, .int .i64 r.w, .int .i64 r.h]] w fun e w' => e = .returned (.bool false) ∧ Below w.heap.size w w' := by
 unfold Rc.ok at hr
 by_cases h1 : -1000 ≤ r.x ∧ r.x ≤ 1000
 ·obtain ⟨h1, h2⟩ := h1
  by_cases h3 : -1000 ≤ r.y ∧ r.y ≤ 1000
  ·obtain ⟨h3, h4⟩ := h3
   by_cases h5 : 0 ≤ r.w ∧ r.w ≤ 1000
   ·obtain ⟨h5, h6⟩ := h5
    have h7 : r.h < 0 ∨ 1000 < r.h := by omega
    have H7 := Lib.hid h7
    clear h7 hr
    go_enter Try.func104, Try.ntmps104
    go_wp2_with (first | (go_at_call 103; (with_reducible refine (inI_yes _ _ _ _ (by omega) (by omega)).mono ?_); rintro e w' ⟨rfl, rfl⟩) | (go_at_call 103; (with_reducible refine (inI_no _ _ _ _ H7.out).mono ?_); rintro e w' ⟨rfl, rfl⟩))
    go_ret
    exact ⟨rfl, (Below.refl _ _).alloc (Nat.le_refl _) _⟩
   ·have h7 : r.w < 0 ∨ 1000 < r.w := by omega
    have H7 := Lib.hid h7
    clear h7 hr h5
    go_enter Try.func104, Try.ntmps104
    go_wp2_with (first | (go_at_call 103; (with_reducible refine (inI_yes _ _ _ _ (by omega) (by omega)).mono ?_); rintro e w' ⟨rfl, rfl⟩) | (go_at_call 103; (with_reducible refine (inI_no _ _ _ _ H7.out).mono ?_); rintro e w' ⟨rfl, rfl⟩))
    go_ret
    exact ⟨rfl, (Below.refl _ _).alloc (Nat.le_refl _) _⟩
  ·have h7 : r.y < -1000 ∨ 1000 < r.y := by omega
   have H7 := Lib.hid h7
   clear h7 hr h3
   go_enter Try.func104, Try.ntmps104
   go_wp2_with (first | (go_at_call 103; (with_reducible refine (inI_yes _ _ _ _ (by omega) (by omega)).mono ?_); rintro e w' ⟨rfl, rfl⟩) | (go_at_call 103; (with_reducible refine (inI_no _ _ _ _ H7.out).mono ?_); rintro e w' ⟨rfl, rfl⟩))
   go_ret
   exact ⟨rfl, (Below.refl _ _).alloc (Nat.le_refl _) _⟩
 ·have h7 : r.x < -1000 ∨ 1000 < r.x := by omega
  have H7 := Lib.hid h7
  clear h7 hr h1
  go_enter Try.func104, Try.ntmps104
  go_wp2_with (first | (go_at_call 103; (with_reducible refine (inI_no _ _ _ _ H7.out).mono ?_); rintro e w' ⟨rfl, rfl⟩))
  go_ret
  exact ⟨rfl, (Below.refl _ _).alloc (Nat.le_refl _) _⟩
end Go.Proofs.Ytokniebejilcbaa
namespace Go.Proofs.Ytokniebejilcbaa
open Go.RowKit
theorem bcell {W w1 : World} (hb : Below W.heap.size W w1) : (∀ b o, b < W.heap.size → w1.cell? ⟨b, o, none⟩ = W.cell? ⟨b, o, none⟩) ∧ (∀ b o, b < W.heap.size → w1.frozen? ⟨b, o, none⟩ = W.frozen? ⟨b, o, none⟩) :=
 ⟨fun b o h => hb.cell (p := ⟨b, o, none⟩) h, fun b o h => hb.frozen (p := ⟨b, o, none⟩) h⟩
theorem rightOf_any (r : Rc) (hr : r.ok) (w : World) :
  Calls Try.prog 105 #[.agg #[.int .i64 r.x, .int .i64 r.y, .int .i64 r.w, .int .i64 r.h]] w fun e w' => e = .returned (.int .i64 (r.x + r.w)) ∧ w.alloc (.cells #[.int .i64 r.x, .int .i64 r.y, .int .i64 r.w, .int .i64 r.h] 94) = w' := by
 obtain ⟨h1, h2, h3, h4, h5, h6, h7, h8⟩ := hr
 go_enter Try.func105, Try.ntmps105
 go_wp2
 go_ret
 exact ⟨rfl, rfl⟩
theorem bottomOf_any (r : Rc) (hr : r.ok) (w : World) :
  Calls Try.prog 106 #[.agg #[.int .i64 r.x, .int .i64 r.y, .int .i64 r.w, .int .i64 r.h]] w fun e w' => e = .returned (.int .i64 (r.y + r.h)) ∧ w.alloc (.cells #[.int .i64 r.x, .int .i64 r.y, .int .i64 r.w, .int .i64 r.h] 94) = w' := by
 obtain ⟨h1, h2, h3, h4, h5, h6, h7, h8⟩ := hr
 go_enter Try.func106, Try.ntmps106
 go_wp2
 go_ret
 exact ⟨rfl, rfl⟩
end Go.Proofs.Ytokniebejilcbaa
namespace Go.Proofs.Ytokniebejilcbaa
open Go.RowKit
instance (r : Rc) : Decidable r.ok := by unfold Rc.ok; infer_instance
def hasB (r : Rc) (x y : Int) : Bool := decide (r.ok ∧ r.x ≤ x ∧ x < r.x + r.w ∧ r.y ≤ y ∧ y < r.y + r.h)
end Go.Proofs.Ytokniebejilcbaa
