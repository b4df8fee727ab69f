/- Orientations: what becomes of a pixel of a picture, in numbers. No statement is proved here. -/
import Derived.Test.YtflehkbalnikiaaProg
import Derived.WalkKit
import Derived.ProofKit
import Derived.OpenShut
import Derived.WalkLawsBesides
import Derived.WalkSpells
import Derived.ShutString
import Derived.ChangeOld
import Derived.Below
import Derived.Lib.Hide
namespace Go.Proofs.Ytflehkbalnikiaa
open Go.RowKit
/-- Pixel (x, y) of a picture of w by h pixels. -/
structure Pp where
  w : Int
  h : Int
  x : Int
  y : Int
def Pp.ok (p : Pp) : Prop := 1 ≤ p.w ∧ p.w ≤ 16 ∧ 1 ≤ p.h ∧ p.h ≤ 16 ∧ 0 ≤ p.x ∧ p.x < p.w ∧ 0 ≤ p.y ∧ p.y < p.h
def Pp.mir (p : Pp) : Pp := ⟨p.w, p.h, p.w - 1 - p.x, p.y⟩
def Pp.qt (p : Pp) : Pp := ⟨p.h, p.w, p.h - 1 - p.y, p.x⟩
def Pp.rep (f : Pp → Pp) : Nat → Pp → Pp
  | 0, p => p
  | n + 1, p => f (Pp.rep f n p)
def Pp.ori (o : Int) (p : Pp) : Pp := Pp.rep Pp.qt (o % 4).toNat (Pp.rep Pp.mir (o / 4).toNat p)
theorem Pp.mir_ok {p : Pp} (h : p.ok) : p.mir.ok := by
  unfold Pp.ok at h; unfold Pp.ok Pp.mir; dsimp only; omega
theorem Pp.qt_ok {p : Pp} (h : p.ok) : p.qt.ok := by
  unfold Pp.ok at h; unfold Pp.ok Pp.qt; dsimp only; omega
theorem Pp.rep_ok {f : Pp → Pp} (hf : ∀ p : Pp, p.ok → (f p).ok) (n : Nat) {p : Pp} (h : p.ok) : (Pp.rep f n p).ok := by
  induction n with
  | zero => exact h
  | succ n ih => exact hf _ ih
theorem Pp.ori_ok {p : Pp} (o : Int) (h : p.ok) : (Pp.ori o p).ok := Pp.rep_ok (fun _ => Pp.qt_ok) _ (Pp.rep_ok (fun _ => Pp.mir_ok) _ h)
def orOk (o : Int) : Prop := 0 ≤ o ∧ o ≤ 7
theorem orOk.cases {o : Int} (h : orOk o) : o = 0 ∨ o = 1 ∨ o = 2 ∨ o = 3 ∨ o = 4 ∨ o = 5 ∨ o = 6 ∨ o = 7 := by unfold orOk at h; omega
def undoO (o : Int) : Int := if 4 ≤ o then o else (4 - o) % 4
theorem undoO_ok {o : Int} (h : orOk o) : orOk (undoO o) := by
  rcases h.cases with rfl | rfl | rfl | rfl | rfl | rfl | rfl | rfl <;> (unfold orOk undoO; decide)
theorem ori_undo {a : Int} (ha : orOk a) (p : Pp) : Pp.ori (undoO a) (Pp.ori a p) = p := by
  obtain ⟨w, h, x, y⟩ := p
  rcases ha.cases with rfl | rfl | rfl | rfl | rfl | rfl | rfl | rfl <;>
    (simp [Pp.ori, Pp.rep, Pp.mir, Pp.qt, undoO]; try omega)
theorem undo_undo {a : Int} (ha : orOk a) (p : Pp) : Pp.ori a (Pp.ori (undoO a) p) = p := by
  obtain ⟨w, h, x, y⟩ := p
  rcases ha.cases with rfl | rfl | rfl | rfl | rfl | rfl | rfl | rfl <;>
    (simp [Pp.ori, Pp.rep, Pp.mir, Pp.qt, undoO]; try omega)
/-- The size of a picture in an orientation. -/
def orW (w h o : Int) : Int := if o % 2 = 1 then h else w
def orH (w h o : Int) : Int := if o % 2 = 1 then w else h
theorem ori_w {o : Int} (ho : orOk o) (p : Pp) : (Pp.ori o p).w = orW p.w p.h o := by
  rcases ho.cases with rfl | rfl | rfl | rfl | rfl | rfl | rfl | rfl <;> rfl
theorem ori_h {o : Int} (ho : orOk o) (p : Pp) : (Pp.ori o p).h = orH p.w p.h o := by
  rcases ho.cases with rfl | rfl | rfl | rfl | rfl | rfl | rfl | rfl <;> rfl
end Go.Proofs.Ytflehkbalnikiaa
