/- Texts of mine in one file: Base, Frame, RectC, OriM, HasC, ImC, RectEq, AppN. No statement is proved here. -/
import Derived.Test.YtflehkbalnikiaaProg
import Derived.WalkKit
import Derived.ProofKit
import Derived.OpenShut
import Derived.WalkLawsBesides
import Derived.WalkSpells
import Derived.ShutString
import Derived.ChangeOld
import Derived.Below
import Derived.Lib.Hide
import Derived.Maps.AppendAt
import Derived.Deep.Draws
import Derived.Deep.RegionHeld3
import Derived.Deep.DeepCutAuto
import Derived.BigQuiet
import Derived.Deep.QuietTactic
import Derived.Deep.OwnRows
import Derived.Handy
import Derived.OwnWalk
import Derived.Deep.AppendLies
import Derived.Deep.LoopGhost
import Derived.Deep.Onto
import Derived.Test.YtflehkbalnikiaaShelf
import Derived.Laws.CopyOwn
import Derived.Deep.RegionLaw
import Derived.Great.BuildSlice
import Derived.Laws.AppendOwn
namespace Go.Proofs.Ytflehkbalnikiaa
open Go.RowKit
theorem ret_int {k : IntKind} {a b : Int} (h : a = b) : Ending.returned (.int k a) = .returned (.int k b) := by rw [h]
theorem ret_bool {a b : Bool} (h : a = b) : Ending.returned (.bool a) = .returned (.bool b) := by rw [h]
theorem wf_bd {a : Int} (h : (Lit.int .i64 a).wf = true) : -9223372036854775808 ≤ a ∧ a ≤ 9223372036854775807 := by
  simpa [Lit.wf, IntKind.min, IntKind.max, IntKind.signed, IntKind.bits] using h
/-- A slice of integers that came in: it is nil, or it leads to a row of 'cap' cells, the numbers 'zs' (the first 'len' are its elements), each fitting its kind. -/
def IsRow (k : IntKind) (w : World) (a : Option Addr) (len cap : Nat) (zs : List Int) : Prop :=
  (a = none ∧ len = 0 ∧ cap = 0 ∧ zs = []) ∨
  ∃ x, a = some x ∧ len ≤ cap ∧ cap ≤ maxLen ∧ zs.length = cap ∧ (∀ i, i < zs.length → w.cell? (x.add i) = some (.int k (zs.getD i 0))) ∧ ∀ n ∈ zs, (Lit.int k n).wf = true
end Go.Proofs.Ytflehkbalnikiaa
namespace Go.Proofs.Ytflehkbalnikiaa
open Go.RowKit
theorem own_below {w w' : World} {B B' : Nat} {e : TypeId} {size : Nat} {v : Value} {n : Nat} {xs : List Value} (h : w.ownsRow B e size v n xs) (hb : Below B' w w') (hB : w.heap.size ≤ B') : w'.ownsRow B e size v n xs :=
  h.kept (row := none) ⟨hb.os, hb.tape, hb.output, hb.size, fun k hk _ => hb.block k (by omega)⟩ (by cases hv : v.ownBlock <;> simp)
theorem grown_below {a w w' : World} {row : Option Nat} (h : a.grownBy w row) (hb : Below w.heap.size w w') : a.grownBy w' row :=
  h.trans ⟨hb.os, hb.tape, hb.output, hb.size, fun k hk _ => hb.block k hk⟩
theorem own_drewN {w : World} {B : Nat} {e : TypeId} {size : Nat} {v : Value} {n : Nat} {xs : List Value} (h : w.ownsRow B e size v n xs) (q : Nat) : (w.drewN q).ownsRow B e size v n xs := h
theorem below_drewN {B : Nat} {a w : World} (h : Below B a w) (q : Nat) : Below B a (w.drewN q) := ⟨h.os, h.tape, h.output, h.size, h.block⟩
end Go.Proofs.Ytflehkbalnikiaa
namespace Go.Proofs.Ytflehkbalnikiaa
open Go.RowKit
/-- A rectangle of four numbers. -/
structure Rc where
  x : Int
  y : Int
  w : Int
  h : Int
def Rc.ok (r : Rc) : Prop := -1000 ≤ r.x ∧ r.x ≤ 1000 ∧ -1000 ≤ r.y ∧ r.y ≤ 1000 ∧ 0 ≤ r.w ∧ r.w ≤ 1000 ∧ 0 ≤ r.h ∧ r.h ≤ 1000
theorem inI_yes (n lo hi : Int) (w : World) (h1 : lo ≤ n) (h2 : n ≤ hi) :
    Calls Try.prog 67 #[.int .i64 n, .int .i64 lo, .int .i64 hi] w fun e w' => e = .returned (.bool true) ∧ w = w' := by
  go_enter Try.func67, Try.ntmps67
  go_wp2
  go_ret
  exact ⟨rfl, rfl⟩
theorem inI_no (n lo hi : Int) (w : World) (h : n < lo ∨ hi < n) :
    Calls Try.prog 67 #[.int .i64 n, .int .i64 lo, .int .i64 hi] w fun e w' => e = .returned (.bool false) ∧ w = w' := by
  by_cases h1 : n < lo
  · clear h
    go_enter Try.func67, Try.ntmps67
    go_wp2
    go_ret
    exact ⟨rfl, rfl⟩
  · have h2 : hi < n := by omega
    have h3 : lo ≤ n := by omega
    clear h h1
    go_enter Try.func67, Try.ntmps67
    go_wp2
    go_ret
    exact ⟨ret_bool (decide_eq_false (by omega)), rfl⟩
theorem inS_yes (n lo hi : Int) (w : World) (h1 : lo ≤ n) (h2 : n ≤ hi) :
    Calls Try.prog 64 #[.int .i64 n, .int .i64 lo, .int .i64 hi] w fun e w' => e = .returned (.bool true) ∧ w = w' := by
  go_enter Try.func64, Try.ntmps64
  go_wp2
  go_ret
  exact ⟨rfl, rfl⟩
theorem inS_no (n lo hi : Int) (w : World) (h : n < lo ∨ hi < n) :
    Calls Try.prog 64 #[.int .i64 n, .int .i64 lo, .int .i64 hi] w fun e w' => e = .returned (.bool false) ∧ w = w' := by
  by_cases h1 : n < lo
  · clear h
    go_enter Try.func64, Try.ntmps64
    go_wp2
    go_ret
    exact ⟨rfl, rfl⟩
  · have h2 : hi < n := by omega
    have h3 : lo ≤ n := by omega
    clear h h1
    go_enter Try.func64, Try.ntmps64
    go_wp2
    go_ret
    exact ⟨ret_bool (decide_eq_false (by omega)), rfl⟩
end Go.Proofs.Ytflehkbalnikiaa
namespace Go.Proofs.Ytflehkbalnikiaa
open Go.RowKit
/-- Pixel (x, y) of a picture of w by h pixels. -/
structure Pp where
  w : Int
  h : Int
  x : Int
  y : Int
def Pp.ok (p : Pp) : Prop := 1 ≤ p.w ∧ p.w ≤ 16 ∧ 1 ≤ p.h ∧ p.h ≤ 16 ∧ 0 ≤ p.x ∧ p.x < p.w ∧ 0 ≤ p.y ∧ p.y < p.h
def Pp.mir (p : Pp) : Pp := ⟨p.w, p.h, p.w - 1 - p.x, p.y⟩
def Pp.qt (p : Pp) : Pp := ⟨p.h, p.w, p.h - 1 - p.y, p.x⟩
def Pp.rep (f : Pp → Pp) : Nat → Pp → Pp
  | 0, p => p
  | n + 1, p => f (Pp.rep f n p)
def Pp.ori (o : Int) (p : Pp) : Pp := Pp.rep Pp.qt (o % 4).toNat (Pp.rep Pp.mir (o / 4).toNat p)
theorem Pp.mir_ok {p : Pp} (h : p.ok) : p.mir.ok := by
  unfold Pp.ok at h; unfold Pp.ok Pp.mir; dsimp only; omega
theorem Pp.qt_ok {p : Pp} (h : p.ok) : p.qt.ok := by
  unfold Pp.ok at h; unfold Pp.ok Pp.qt; dsimp only; omega
theorem Pp.rep_ok {f : Pp → Pp} (hf : ∀ p : Pp, p.ok → (f p).ok) (n : Nat) {p : Pp} (h : p.ok) : (Pp.rep f n p).ok := by
  induction n with
  | zero => exact h
  | succ n ih => exact hf _ ih
theorem Pp.ori_ok {p : Pp} (o : Int) (h : p.ok) : (Pp.ori o p).ok := Pp.rep_ok (fun _ => Pp.qt_ok) _ (Pp.rep_ok (fun _ => Pp.mir_ok) _ h)
def orOk (o : Int) : Prop := 0 ≤ o ∧ o ≤ 7
theorem orOk.cases {o : Int} (h : orOk o) : o = 0 ∨ o = 1 ∨ o = 2 ∨ o = 3 ∨ o = 4 ∨ o = 5 ∨ o = 6 ∨ o = 7 := by unfold orOk at h; omega
def undoO (o : Int) : Int := if 4 ≤ o then o else (4 - o) % 4
theorem undoO_ok {o : Int} (h : orOk o) : orOk (undoO o) := by
  rcases h.cases with rfl | rfl | rfl | rfl | rfl | rfl | rfl | rfl <;> (unfold orOk undoO; decide)
theorem ori_undo {a : Int} (ha : orOk a) (p : Pp) : Pp.ori (undoO a) (Pp.ori a p) = p := by
  obtain ⟨w, h, x, y⟩ := p
  rcases ha.cases with rfl | rfl | rfl | rfl | rfl | rfl | rfl | rfl <;>
    (simp [Pp.ori, Pp.rep, Pp.mir, Pp.qt, undoO]; try omega)
theorem undo_undo {a : Int} (ha : orOk a) (p : Pp) : Pp.ori a (Pp.ori (undoO a) p) = p := by
  obtain ⟨w, h, x, y⟩ := p
  rcases ha.cases with rfl | rfl | rfl | rfl | rfl | rfl | rfl | rfl <;>
    (simp [Pp.ori, Pp.rep, Pp.mir, Pp.qt, undoO]; try omega)
/-- The size of a picture in an orientation. -/
def orW (w h o : Int) : Int := if o % 2 = 1 then h else w
def orH (w h o : Int) : Int := if o % 2 = 1 then w else h
theorem ori_w {o : Int} (ho : orOk o) (p : Pp) : (Pp.ori o p).w = orW p.w p.h o := by
  rcases ho.cases with rfl | rfl | rfl | rfl | rfl | rfl | rfl | rfl <;> rfl
theorem ori_h {o : Int} (ho : orOk o) (p : Pp) : (Pp.ori o p).h = orH p.w p.h o := by
  rcases ho.cases with rfl | rfl | rfl | rfl | rfl | rfl | rfl | rfl <;> rfl
end Go.Proofs.Ytflehkbalnikiaa
namespace Go.Proofs.Ytflehkbalnikiaa
open Go.RowKit
instance (r : Rc) : Decidable r.ok := by unfold Rc.ok; infer_instance
end Go.Proofs.Ytflehkbalnikiaa
namespace Go.Proofs.Ytflehkbalnikiaa
open Go.RowKit
theorem wrap_in (x : Int) (h0 : -9223372036854775808 ≤ x) (h1 : x ≤ 9223372036854775807) : IntKind.i64.wrap x = x := by
  simp [IntKind.wrap, IntKind.bits, IntKind.signed]; omega
end Go.Proofs.Ytflehkbalnikiaa
namespace Go.Proofs.Ytflehkbalnikiaa
open Go.RowKit
theorem eqRect_same (r : Rc) (w : World) :
    Calls Try.prog 38 #[.agg #[.int .i64 r.x, .int .i64 r.y, .int .i64 r.w, .int .i64 r.h], .agg #[.int .i64 r.x, .int .i64 r.y, .int .i64 r.w, .int .i64 r.h]] w fun e w' => e = .returned (.bool true) ∧ Below w.heap.size w w' := by
  go_enter Try.func38, Try.ntmps38
  go_wp2
  go_ret
  exact ⟨rfl, ((Below.refl _ _).alloc (Nat.le_refl _) _).alloc (by simp) _⟩
end Go.Proofs.Ytflehkbalnikiaa
namespace Go.Proofs.Ytflehkbalnikiaa
theorem run_append_none {P : Program} (w : World) (base : Nat) (t ty e : TypeId) (i : TypeInfo) (size : Nat) (ht : P.underlying t = some (.slice e)) (hi : P.info? e = some i)
    (v : Value) (n : Nat) (xs : List Value) (hown : w.ownsRow base e size v n xs) :
    (Builtin.append_ #[t, t] ty #[v, .slice none 0 0]).run P w = .ok v w := by
  rcases hown.2 with ⟨rfl, rfl⟩ | ⟨g, cap, cur, rfl, _, _, hn, _, _, _⟩
  · simp [Builtin.append_, run_underlying ht, sizeOf, typeInfo, hi, Builtin.lenOf, Builtin.firstCells]
  · simp [Builtin.append_, run_underlying ht, sizeOf, typeInfo, hi, Builtin.lenOf, Builtin.firstCells, loadCells, storeCells, hn]
theorem wpList_append_row {P : Program} {ops : Array Oper} {rest : List Oper} {o : Oper} {a : Act} {w : World} {Q : Exit → Act → World → Prop} (hgd : o.guard = none) (s x : Operand) (t : TypeId)
    (ho : o.op = .call { callee := .builtin .append, args := #[s, x], argTypes := #[t, t] })
    (base base' : Nat) (e : TypeId) (i : TypeInfo) (z : Value) (size bytes : Nat) (ht : P.underlying t = some (.slice e)) (hi : P.info? e = some i) (hz : i.zero = some z)
    (hsize : i.size = size) (hby : i.bytes = bytes) (hzs : z.cells.size = size) (hsz : 0 < size)
    (v : Value) (n : Nat) (xs : List Value) (hs : a.eval s = v) (hown : w.ownsRow base e size v n xs)
    (u : Value) (m : Nat) (news : List Value) (hx : a.eval x = u) (hu : w.ownsRow base' e size u m news) (h1 : ∀ u ∈ news, u.oneCell' = true)
    (h63 : n + m ≤ maxLen) (hbytes : (n + m) * bytes ≤ 140737488355328) (hbase : base ≤ w.heap.size)
    (h : ∀ v' w', w'.ownsRow base e size v' (n + m) (xs ++ news) → w.grownBy w' v.ownBlock → wpList P ops Q rest (a.put o.dst v') w') : wpList P ops Q (o :: rest) a w := by
  rcases hu.2 with ⟨rfl, rfl⟩ | ⟨g, cap, cur, rfl, _, _, hn, _, _, _⟩
  · have hnil : news = [] := List.eq_nil_of_length_eq_zero (by have := hu.1; omega)
    subst hnil
    refine wpList_plain hgd fun K hK => ?_
    have hr := run_append_none w base t o.type e i size ht hi v n xs hown
    unfold Oper.wp execOp
    simp only [ho, resolve, invoke, builtin, Sem.run_bind, Sem.run_pure, Result.andThen_ok, List.map_toArray, List.map_cons, List.map_nil, hs, hx, hr]
    refine hK _ _ (h v w (by simpa using hown) ⟨rfl, rfl, rfl, Nat.le_refl _, fun _ _ _ => rfl⟩)
  · exact wpList_append_own w hgd s x t ho base e i z size bytes ht hi hz hsize hby hzs hsz v n xs hs hown ⟨g, 0, none⟩ m cap news hx hu.1 (hu.cells rfl) h1 h63 hbytes hbase (fun v' w' h2 h3 _ => h v' w' h2 h3)
end Go.Proofs.Ytflehkbalnikiaa
