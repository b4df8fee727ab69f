/- Plain mathematics of rectangles. No statement is proved here. -/
import Derived.Test.YtaggldhlnjbnhaaRectC
import Derived.Test.YtaggldhlnjbnhaaProg
import Derived.WalkKit
import Derived.ProofKit
import Derived.OpenShut
import Derived.WalkLawsBesides
import Derived.WalkSpells
import Derived.ShutString
import Derived.ChangeOld
import Derived.Below
import Derived.Lib.Hide
namespace Go.Proofs.Ytaggldhlnjbnhaa
/-- The numbers of the common part, as the code computes them. -/
def isectIn (a b : Rc) : Prop := max a.x b.x < min (a.x + a.w) (b.x + b.w) ∧ max a.y b.y < min (a.y + a.h) (b.y + b.h)
def isectRaw (a b : Rc) : Rc := ⟨max a.x b.x, max a.y b.y, min (a.x + a.w) (b.x + b.w) - max a.x b.x, min (a.y + a.h) (b.y + b.h) - max a.y b.y⟩
open Classical in
/-- The rectangle of the common points; the zero rectangle if there are none or one of both is not valid. -/
noncomputable def isect (a b : Rc) : Rc := if a.ok ∧ b.ok ∧ isectIn a b then isectRaw a b else ⟨0, 0, 0, 0⟩
theorem isect_yes {a b : Rc} (h1 : a.ok) (h2 : b.ok) (h3 : isectIn a b) : isect a b = isectRaw a b := if_pos ⟨h1, h2, h3⟩
theorem isect_no {a b : Rc} (h : ¬ (a.ok ∧ b.ok ∧ isectIn a b)) : isect a b = ⟨0, 0, 0, 0⟩ := if_neg h
theorem ret_rc {r : Rc} {x y u v : Int} (h : r = ⟨x, y, u, v⟩) : Ending.returned (.agg #[.int .i64 x, .int .i64 y, .int .i64 u, .int .i64 v]) = .returned (.agg #[.int .i64 r.x, .int .i64 r.y, .int .i64 r.w, .int .i64 r.h]) := by
  subst h; rfl
theorem isect_bd (a b : Rc) (h1 : a.ok) (h2 : b.ok) : 
    (-1000 ≤ max a.x b.x ∧ max a.x b.x ≤ 1000) ∧ (-1000 ≤ max a.y b.y ∧ max a.y b.y ≤ 1000) ∧ (-1000 ≤ min (a.x + a.w) (b.x + b.w) ∧ min (a.x + a.w) (b.x + b.w) ≤ 2000) ∧ (-1000 ≤ min (a.y + a.h) (b.y + b.h) ∧ min (a.y + a.h) (b.y + b.h) ≤ 2000) := by
  unfold Rc.ok at h1 h2
  omega
end Go.Proofs.Ytaggldhlnjbnhaa
