/- Plain mathematics of the rectangle around two rectangles; contracts of the test for an empty one that speak of what is kept. No statement is proved here. -/
import Derived.Test.YtaggldhlnjbnhaaRectC
import Derived.Test.YtaggldhlnjbnhaaBlk4
import Derived.Test.YtaggldhlnjbnhaaCoverC
import Derived.Test.YtaggldhlnjbnhaaProg
import Derived.WalkKit
import Derived.ProofKit
import Derived.OpenShut
import Derived.WalkLawsBesides
import Derived.WalkSpells
import Derived.ShutString
import Derived.ChangeOld
import Derived.Below
import Derived.Lib.Hide
import Derived.Deep.RegionHeld3
import Derived.Deep.DeepCutAuto
namespace Go.Proofs.Ytaggldhlnjbnhaa
open Go.RowKit
theorem empI_yes' (r : Rc) (hr : r.emp) (w : World) :
    Calls Try.prog 77 #[.agg #[.int .i64 r.x, .int .i64 r.y, .int .i64 r.w, .int .i64 r.h]] w fun e w' => e = .returned (.bool true) ∧ Below w.heap.size w w' :=
  (empI_yes r hr w).mono (by rintro e w' ⟨rfl, rfl⟩; exact ⟨rfl, (Below.refl _ _).alloc (Nat.le_refl _) _⟩)
theorem empI_no' (r : Rc) (hr : ¬ r.emp) (w : World) :
    Calls Try.prog 77 #[.agg #[.int .i64 r.x, .int .i64 r.y, .int .i64 r.w, .int .i64 r.h]] w fun e w' => e = .returned (.bool false) ∧ Below w.heap.size w w' :=
  (empI_no r hr w).mono (by rintro e w' ⟨rfl, rfl⟩; exact ⟨rfl, (Below.refl _ _).alloc (Nat.le_refl _) _⟩)
theorem empS_yes' (r : Rc) (hr : r.emp) (w : World) :
    Calls Try.prog 74 #[.agg #[.int .i64 r.x, .int .i64 r.y, .int .i64 r.w, .int .i64 r.h]] w fun e w' => e = .returned (.bool true) ∧ Below w.heap.size w w' :=
  (empS_yes r hr w).mono (by rintro e w' ⟨rfl, rfl⟩; exact ⟨rfl, (Below.refl _ _).alloc (Nat.le_refl _) _⟩)
theorem empS_no' (r : Rc) (hr : ¬ r.emp) (w : World) :
    Calls Try.prog 74 #[.agg #[.int .i64 r.x, .int .i64 r.y, .int .i64 r.w, .int .i64 r.h]] w fun e w' => e = .returned (.bool false) ∧ Below w.heap.size w w' :=
  (empS_no r hr w).mono (by rintro e w' ⟨rfl, rfl⟩; exact ⟨rfl, (Below.refl _ _).alloc (Nat.le_refl _) _⟩)
end Go.Proofs.Ytaggldhlnjbnhaa
