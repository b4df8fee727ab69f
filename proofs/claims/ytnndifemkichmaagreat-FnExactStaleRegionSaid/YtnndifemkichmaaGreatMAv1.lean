/- Texts of mine in one file: Frame, Bk, Var, SfM, Blk4, CoverC, RectEq, RegM, Grid, RectM, RegN, Mark, Rds, GridS, Arr, GridI, RowS, RegP, CanS, RunP, RunI, SrB, AppN, CanI, SameI, SameS, RgnC, Rok, EqR, MarkR, ToR, ComP. No statement is proved here. -/
import Derived.Test.YtnndifemkichmaaGreatMA
import Derived.Test.YtnndifemkichmaaGreatProg
import Derived.WalkKit
import Derived.ProofKit
import Derived.OpenShut
import Derived.WalkLawsBesides
import Derived.WalkSpells
import Derived.ShutString
import Derived.ChangeOld
import Derived.Below
import Derived.Lib.Hide
import Derived.Maps.AppendAt
import Derived.Deep.Draws
import Derived.Deep.MidRow
import Derived.Deep.WholeRow
import Derived.BigQuiet
import Derived.Deep.QuietTactic
import Derived.Deep.OwnRows
import Derived.Handy
import Derived.OwnWalk
import Derived.Deep.AppendLies
import Derived.Deep.LoopGhost
import Derived.Deep.Onto
import Derived.Laws.BitsAllLaws
import Derived.Lib.QuoteBits
import Derived.Deep.RegionHeld3
import Derived.Deep.DeepCutAuto
import Derived.Laws.AppendOwn
import Derived.Deep.RegionWith
namespace Go.Proofs.YtnndifemkichmaaGreat
open Go.RowKit
theorem own_drewN {w : World} {B : Nat} {e : TypeId} {size : Nat} {v : Value} {n : Nat} {xs : List Value} (h : w.ownsRow B e size v n xs) (q : Nat) : (w.drewN q).ownsRow B e size v n xs := h
end Go.Proofs.YtnndifemkichmaaGreat
namespace Go.Proofs.YtnndifemkichmaaGreat
open Go.RowKit
theorem grown_setB (w : World) (g o : Nat) (v : Value) : w.grownBy (w.setCell ⟨g, o, none⟩ v) (some g) :=
 ⟨rfl, rfl, rfl, by simp, fun k _ hk => Below.heap_setCell w ⟨g, o, none⟩ v k (fun e => hk (by rw [e]))⟩
theorem wp_alloc_bk {op : Oper} {a : Act} {w : World} {K : Act → World → Prop} {Q : Exit → Act → World → Prop} (t : TypeId) (cs : Array Value) (hz : ∀ w, (zeroValue t).run Tryz.prog w = .ok (.agg cs) w) (ho : op.op = .alloc t) (d : Nat) (hd : op.dst = some d)
  (h : ∀ b W', Below w.heap.size w W' → BkAt W' b t cs → w.heap.size ≤ b → K (a.put (some d) (.pointer (some ⟨b, 0, none⟩))) W') : op.wp Tryz.prog a w K Q := by
 have h1 := h w.heap.size (w.alloc (.cells cs t)) ((Below.refl _ _).alloc (Nat.le_refl _) _) (BkAt.new w _ _) (Nat.le_refl _)
 have hz := hz w
 unfold Oper.wp execOp
 simp only [ho, Instr.alloc, Sem.run_bind, hz, Result.andThen_ok, Sem.run_pure]
 rw [← hd] at h1
 exact h1
theorem wp_load_bk {op : Oper} {a : Act} {w : World} {K : Act → World → Prop} {Q : Exit → Act → World → Prop} (t : TypeId) (x : Operand) (ho : op.op = .load t x) (b : Nat) (t0 : TypeId) (cs : Array Value) (fs : Array Field) (hu : Tryz.prog.underlying t = some (.struct fs))
  (hsz : (Tryz.prog.info? t).map (·.size) = some cs.size) (hx : a.eval x = .pointer (some ⟨b, 0, none⟩)) (hI : BkAt w b t0 cs) (h : K (a.put op.dst (.agg cs)) w) : op.wp Tryz.prog a w K Q :=
 wp_load_row t x ho b hx _ cs _ _ hI hu rfl hsz h
end Go.Proofs.YtnndifemkichmaaGreat
namespace Go.Proofs.YtnndifemkichmaaGreat
open Go.RowKit
def wkInts : Wk (List Int) where
 R := fun w L vs => ∃ v, vs = [v] ∧ Rd w v L.length (intCells L)
 call := by rintro w w' a vs ⟨v, rfl, h⟩ hb; exact ⟨v, rfl, h.call hb⟩
section
variable {α : Type} {F : Wk α} {t : TypeId} {b : Nat} {a : α} {vs : List Value} {W W' : World}
end
section
variable {α : Type} {E : Rep α} {t : TypeId} {lo hi b : Nat} {a a' : α} {vs : List Value} {bs cs : List Nat} {W W' : World}
theorem VarB.made {w : World} (hat : BkAt W b t vs.toArray) (ho : E.Own w.heap.size W a vs bs) (hb : w.heap.size ≤ b) (hn : b ∉ bs) : VarB E t w.heap.size W.heap.size b a vs bs W :=
 ⟨hat, ho, hb, hat.lt, fun k hk => ⟨E.ex ho.r k hk, fun e => hn (e ▸ hk)⟩, Nat.le_refl _⟩
end
end Go.Proofs.YtnndifemkichmaaGreat
namespace Go.Proofs.YtnndifemkichmaaGreat
open Go.RowKit
theorem idxF_is {L : List Sf} {i : Int} : (idxF L i = -1 ∧ ∀ (j : Nat) (g : Sf), L[j]? = some g → g.id ≠ i) ∨ ∃ (k : Nat) (f : Sf), idxF L i = k ∧ L[k]? = some f ∧ f.id = i ∧ ∀ (j : Nat) (g : Sf), j < k → L[j]? = some g → g.id ≠ i := by
  induction L with
  | nil => exact .inl ⟨rfl, fun j g h => by simp at h⟩
  | cons g L ih =>
    by_cases hg : g.id = i
    · exact .inr ⟨0, g, by simp [idxF, hg], rfl, hg, fun j e hj _ => by omega⟩
    · rcases ih with ⟨h1, h2⟩ | ⟨k, f, h1, h2, h3, h4⟩
      · refine .inl ⟨by unfold idxF; rw [if_neg hg, h1, if_pos (by omega)], fun j e he => ?_⟩
        cases j with
        | zero => obtain rfl : g = e := by simpa using he
                  exact hg
        | succ j => exact h2 j e (by simpa using he)
      · refine .inr ⟨k + 1, f, by unfold idxF; rw [if_neg hg, h1, if_neg (by omega)]; push_cast; rfl, by simpa using h2, h3, fun j e hj he => ?_⟩
        cases j with
        | zero => obtain rfl : g = e := by simpa using he
                  exact hg
        | succ j => exact h4 j e (by omega) (by simpa using he)
end Go.Proofs.YtnndifemkichmaaGreat
namespace Go.Proofs.YtnndifemkichmaaGreat
open Go.RowKit
theorem RcAt.set0 {w : World} {g : Nat} {r : Rc} (h : RcAt w g r) (a b c d : Int) :
  RcAt ((((w.setCell ⟨g, 0, none⟩ (.int .i64 a)).setCell ⟨g, 1, none⟩ (.int .i64 b)).setCell ⟨g, 2, none⟩ (.int .i64 c)).setCell ⟨g, 3, none⟩ (.int .i64 d)) g ⟨a, b, c, d⟩ := by
 unfold RcAt at *
 simp [World.setCell, Array.getElem?_modify, h]
end Go.Proofs.YtnndifemkichmaaGreat
namespace Go.Proofs.YtnndifemkichmaaGreat
open Go.RowKit
theorem rc_ext {a b : Rc} (h : a.x = b.x ∧ a.y = b.y ∧ a.w = b.w ∧ a.h = b.h) : a = b := by
 cases a; cases b; simp_all
theorem rc_cases (r b : Rc) : (r = b ∧ (r.x == b.x) = true ∧ (r.y == b.y) = true ∧ (r.w == b.w) = true ∧ (r.h == b.h) = true) ∨
  (r ≠ b ∧ ((r.x == b.x) = false ∨ ((r.x == b.x) = true ∧ (r.y == b.y) = false) ∨ ((r.x == b.x) = true ∧ (r.y == b.y) = true ∧ (r.w == b.w) = false) ∨ ((r.x == b.x) = true ∧ (r.y == b.y) = true ∧ (r.w == b.w) = true ∧ (r.h == b.h) = false))) := by
 by_cases h0 : r.x = b.x
 ·by_cases h1 : r.y = b.y
  ·by_cases h2 : r.w = b.w
   ·by_cases h3 : r.h = b.h
    ·exact .inl ⟨rc_ext ⟨h0, h1, h2, h3⟩, by simpa using h0, by simpa using h1, by simpa using h2, by simpa using h3⟩
    ·exact .inr ⟨fun h => h3 (by rw [h]), .inr (.inr (.inr ⟨by simpa using h0, by simpa using h1, by simpa using h2, by simpa using h3⟩))⟩
   ·exact .inr ⟨fun h => h2 (by rw [h]), .inr (.inr (.inl ⟨by simpa using h0, by simpa using h1, by simpa using h2⟩))⟩
  ·exact .inr ⟨fun h => h1 (by rw [h]), .inr (.inl ⟨by simpa using h0, by simpa using h1⟩)⟩
 ·exact .inr ⟨fun h => h0 (by rw [h]), .inl (by simpa using h0)⟩
end Go.Proofs.YtnndifemkichmaaGreat
namespace Go.Proofs.YtnndifemkichmaaGreat
open Go.RowKit
theorem below_set4 {B : Nat} {w0 w : World} {g : Nat} (h : Below B w0 w) (hg : B ≤ g) (v0 v1 v2 v3 : Value) :
  Below B w0 ((((w.setCell ⟨g, 0, none⟩ v0).setCell ⟨g, 1, none⟩ v1).setCell ⟨g, 2, none⟩ v2).setCell ⟨g, 3, none⟩ v3) :=
 (((h.setCell (p := ⟨g, 0, none⟩) hg _).setCell (p := ⟨g, 1, none⟩) hg _).setCell (p := ⟨g, 2, none⟩) hg _).setCell (p := ⟨g, 3, none⟩) hg _
theorem rc_born {w w' : World} (hb : Below (w.alloc (.cells #[.int .i64 0, .int .i64 0, .int .i64 0, .int .i64 0] 131)).heap.size (w.alloc (.cells #[.int .i64 0, .int .i64 0, .int .i64 0, .int .i64 0] 131)) w') : RcAt w' w.heap.size ⟨0, 0, 0, 0⟩ :=
 (RcAt.new w ⟨0, 0, 0, 0⟩).below hb (RcAt.new w ⟨0, 0, 0, 0⟩).lt
theorem rc_born_drew {w w' : World} (hb : Below (w.alloc (.cells #[.int .i64 0, .int .i64 0, .int .i64 0, .int .i64 0] 131)).drew.heap.size (w.alloc (.cells #[.int .i64 0, .int .i64 0, .int .i64 0, .int .i64 0] 131)).drew w') : RcAt w' w.heap.size ⟨0, 0, 0, 0⟩ :=
 RcAt.below (w := (w.alloc (.cells #[.int .i64 0, .int .i64 0, .int .i64 0, .int .i64 0] 131)).drew) (RcAt.new w ⟨0, 0, 0, 0⟩) hb (RcAt.new w ⟨0, 0, 0, 0⟩).lt
theorem RcAt.setr {w : World} {g : Nat} {s : Rc} (h : RcAt w g s) (r : Rc) :
  RcAt ((((w.setCell ⟨g, 0, none⟩ (.int .i64 r.x)).setCell ⟨g, 1, none⟩ (.int .i64 r.y)).setCell ⟨g, 2, none⟩ (.int .i64 r.w)).setCell ⟨g, 3, none⟩ (.int .i64 r.h)) g r := h.set0 _ _ _ _
theorem RcAt.far4 {w : World} {g g' : Nat} {r : Rc} (h : RcAt w g r) (hg : g < g') (v0 v1 v2 v3 : Value) :
  RcAt ((((w.setCell ⟨g', 0, none⟩ v0).setCell ⟨g', 1, none⟩ v1).setCell ⟨g', 2, none⟩ v2).setCell ⟨g', 3, none⟩ v3) g r :=
 (((h.far (p := ⟨g', 0, none⟩) (Nat.ne_of_lt hg) _).far (p := ⟨g', 1, none⟩) (Nat.ne_of_lt hg) _).far (p := ⟨g', 2, none⟩) (Nat.ne_of_lt hg) _).far (p := ⟨g', 3, none⟩) (Nat.ne_of_lt hg) _
theorem toRect_any (r : Rc) (w : World) :
  Calls Tryz.prog 243 #[.agg #[.int .i64 r.x, .int .i64 r.y, .int .i64 r.w, .int .i64 r.h]] w fun e w' => e = .returned (.agg #[.int .i64 r.x, .int .i64 r.y, .int .i64 r.w, .int .i64 r.h]) ∧ Below w.heap.size w w' := by
 go_enter Tryz.func243, Tryz.ntmps243
 go_wp2
 exact bodyPost_ret (v := .agg #[.int .i64 r.x, .int .i64 r.y, .int .i64 r.w, .int .i64 r.h]) (by simp [results, Tryz.results243, go_sem]) rfl ⟨rfl, by
  repeat first | exact Below.refl _ _ | refine Below.setCell ?_ (by first | (simp; done) | (simp; omega)) _ | refine Below.alloc ?_ (by first | (simp; done) | (simp; omega)) _⟩
theorem eqRect_same (r : Rc) (w : World) :
  Calls Tryz.prog 171 #[.agg #[.int .i64 r.x, .int .i64 r.y, .int .i64 r.w, .int .i64 r.h], .agg #[.int .i64 r.x, .int .i64 r.y, .int .i64 r.w, .int .i64 r.h]] w fun e w' => e = .returned (.bool true) ∧ Below w.heap.size w w' := by
 go_enter Tryz.func171, Tryz.ntmps171
 go_wp2
 go_ret
 exact ⟨rfl, ((Below.refl _ _).alloc (Nat.le_refl _) _).alloc (by simp) _⟩
end Go.Proofs.YtnndifemkichmaaGreat
namespace Go.Proofs.YtnndifemkichmaaGreat
def RowSame (g : Nat → Bool) (y z : Nat) : Prop := ∀ x, x < 16 → g (y * 16 + x) = g (z * 16 + x)
open Classical in
noncomputable def rowEq (g : Nat → Bool) (y z : Nat) : Bool := decide (RowSame g y z)
open Classical in
theorem rowEq_same (g : Nat → Bool) (y z : Nat) : rowEq g y z = true ↔ RowSame g y z := by
 unfold rowEq; exact decide_eq_true_iff
theorem rowEq_iff (g : Nat → Bool) (y z : Nat) : rowEq g y z = true ↔ ∀ x, x < 16 → g (y * 16 + x) = g (z * 16 + x) := rowEq_same g y z
noncomputable def bandFrom (g : Nat → Bool) (y h : Nat) : Nat := if y + h < 16 ∧ rowEq g y (y + h) = true then bandFrom g y (h + 1) else h
termination_by 16 - (y + h)
noncomputable def bandH (g : Nat → Bool) (y : Nat) : Nat := bandFrom g y 1
def runFrom (g : Nat → Bool) (y x w : Nat) : Nat := if x + w < 16 ∧ g (y * 16 + (x + w)) = true then runFrom g y x (w + 1) else w
termination_by 16 - (x + w)
def runW (g : Nat → Bool) (y x : Nat) : Nat := runFrom g y x 0
def runs (g : Nat → Bool) (y h x : Nat) : List Rc :=
 if x < 16 then (if 0 < runW g y x then [⟨x, y, runW g y x, h⟩] else []) ++ runs g y h (x + runW g y x + 1) else []
termination_by 16 - x
theorem bandFrom_le (g : Nat → Bool) (y h : Nat) : h ≤ bandFrom g y h := by
 fun_induction bandFrom g y h <;> omega
theorem bandH_pos (g : Nat → Bool) (y : Nat) : 1 ≤ bandH g y := bandFrom_le g y 1
noncomputable def bands (g : Nat → Bool) (y : Nat) : List Rc :=
 if y < 16 then runs g y (bandH g y) 0 ++ bands g (y + bandH g y) else []
termination_by 16 - y
decreasing_by have := bandH_pos g y; omega
noncomputable def canon (g : Nat → Bool) : List Rc := bands g 0
theorem bandFrom_top (g : Nat → Bool) (y h : Nat) (hh : y + h ≤ 16) : y + bandFrom g y h ≤ 16 := by
 fun_induction bandFrom g y h with
 | case1 h hc ih => exact ih (by omega)
 | case2 h hc => exact hh
theorem bandFrom_eq (g : Nat → Bool) (y h : Nat) : ∀ j, h ≤ j → j < bandFrom g y h → rowEq g y (y + j) = true := by
  fun_induction bandFrom g y h with
  | case1 h hc ih =>
    intro j h1 h2
    by_cases hj : j = h
    · subst hj; exact hc.2
    · exact ih j (by omega) h2
  | case2 h hc => intro j h1 h2; omega
theorem bandH_top (g : Nat → Bool) (y : Nat) (hy : y < 16) : y + bandH g y ≤ 16 := bandFrom_top g y 1 (by omega)
theorem bandH_eq (g : Nat → Bool) (y z x : Nat) (h1 : y ≤ z) (h2 : z < y + bandH g y) (hx : x < 16) : g (z * 16 + x) = g (y * 16 + x) := by
 by_cases hz : z = y
 ·subst hz; rfl
 ·have := bandFrom_eq g y 1 (z - y) (by omega) (by unfold bandH at h2; omega)
  rw [rowEq_iff] at this
  have h := this x hx
  rw [show y + (z - y) = z by omega] at h
  exact h.symm
theorem runFrom_top (g : Nat → Bool) (y x w : Nat) (hh : x + w ≤ 16) : x + runFrom g y x w ≤ 16 := by
 fun_induction runFrom g y x w with
 | case1 w hc ih => exact ih (by omega)
 | case2 w hc => exact hh
theorem runFrom_in (g : Nat → Bool) (y x w : Nat) : ∀ j, w ≤ j → j < runFrom g y x w → g (y * 16 + (x + j)) = true := by
  fun_induction runFrom g y x w with
  | case1 w hc ih =>
    intro j h1 h2
    by_cases hj : j = w
    · subst hj; exact hc.2
    · exact ih j (by omega) h2
  | case2 w hc => intro j h1 h2; omega
theorem runFrom_out (g : Nat → Bool) (y x w : Nat) (h : x + runFrom g y x w < 16) : g (y * 16 + (x + runFrom g y x w)) = false := by
  fun_induction runFrom g y x w with
  | case1 w hc ih => exact ih h
  | case2 w hc =>
    rcases hb : g (y * 16 + (x + w)) with _ | _
    · rfl
    · exact absurd ⟨h, hb⟩ hc
theorem runW_top (g : Nat → Bool) (y x : Nat) (hx : x ≤ 16) : x + runW g y x ≤ 16 := runFrom_top g y x 0 (by omega)
theorem runW_in (g : Nat → Bool) (y x p : Nat) (h1 : x ≤ p) (h2 : p < x + runW g y x) : g (y * 16 + p) = true := by
 have := runFrom_in g y x 0 (p - x) (by omega) (by unfold runW at h2; omega)
 rwa [show x + (p - x) = p by omega] at this
theorem runW_out (g : Nat → Bool) (y x : Nat) (h : x + runW g y x < 16) : g (y * 16 + (x + runW g y x)) = false := runFrom_out g y x 0 h
def OnScreen (r : Rc) : Prop := 0 ≤ r.x ∧ 1 ≤ r.w ∧ r.x + r.w ≤ 16 ∧ 0 ≤ r.y ∧ 1 ≤ r.h ∧ r.y + r.h ≤ 16
theorem runs_on (g : Nat → Bool) (y h x : Nat) (hh : 1 ≤ h) (hy : y + h ≤ 16) : ∀ r ∈ runs g y h x, OnScreen r := by
  fun_induction runs g y h x with
  | case1 x hx ih =>
    intro r hr
    rcases List.mem_append.1 hr with hr | hr
    · split at hr
      · rename_i hw
        have ht := runW_top g y x (by omega)
        obtain rfl : r = _ := List.mem_singleton.1 hr
        unfold OnScreen; dsimp only; omega
      · cases hr
    · exact ih r hr
  | case2 x hx => intro r hr; cases hr
theorem bands_on (g : Nat → Bool) (y : Nat) : ∀ r ∈ bands g y, OnScreen r := by
  fun_induction bands g y with
  | case1 y hy ih =>
    intro r hr
    rcases List.mem_append.1 hr with hr | hr
    · exact runs_on g y _ 0 (bandH_pos g y) (bandH_top g y hy) r hr
    · exact ih r hr
  | case2 y hy => intro r hr; cases hr
theorem OnScreen.ok {r : Rc} (h : OnScreen r) : r.ok := by unfold OnScreen at h; unfold Rc.ok; omega
theorem rowEq_congr {g g' : Nat → Bool} (h : ∀ k, k < 256 → g k = g' k) (y z : Nat) (hy : y < 16) (hz : z < 16) : rowEq g y z = rowEq g' y z := by
 rw [Bool.eq_iff_iff, rowEq_iff, rowEq_iff]
 constructor
 ·intro k x hx; rw [← h _ (by omega), ← h _ (by omega)]; exact k x hx
 ·intro k x hx; rw [h _ (by omega), h _ (by omega)]; exact k x hx
theorem bandFrom_congr {g g' : Nat → Bool} (h : ∀ k, k < 256 → g k = g' k) (y n : Nat) (hy : y < 16) : bandFrom g y n = bandFrom g' y n := by
  fun_induction bandFrom g y n with
  | case1 n hc ih => rw [ih]; conv => rhs; rw [bandFrom, if_pos ⟨hc.1, by rw [← rowEq_congr h y (y + n) hy hc.1]; exact hc.2⟩]
  | case2 n hc =>
    rw [bandFrom, if_neg]
    rintro ⟨h1, h2⟩
    exact hc ⟨h1, by rw [rowEq_congr h y (y + n) hy h1]; exact h2⟩
theorem runFrom_congr {g g' : Nat → Bool} (h : ∀ k, k < 256 → g k = g' k) (y x n : Nat) (hy : y < 16) : runFrom g y x n = runFrom g' y x n := by
  fun_induction runFrom g y x n with
  | case1 n hc ih => rw [ih]; conv => rhs; rw [runFrom, if_pos ⟨hc.1, by rw [← h _ (by omega)]; exact hc.2⟩]
  | case2 n hc =>
    rw [runFrom, if_neg]
    rintro ⟨h1, h2⟩
    exact hc ⟨h1, by rw [h _ (by omega)]; exact h2⟩
theorem runs_congr {g g' : Nat → Bool} (h : ∀ k, k < 256 → g k = g' k) (y n x : Nat) (hy : y < 16) : runs g y n x = runs g' y n x := by
  fun_induction runs g y n x with
  | case1 x hx ih =>
    have e : runW g y x = runW g' y x := runFrom_congr h y x 0 hy
    rw [ih]
    conv => rhs; rw [runs, if_pos hx]
    rw [e]
  | case2 x hx => rw [runs, if_neg hx]
theorem bands_congr {g g' : Nat → Bool} (h : ∀ k, k < 256 → g k = g' k) (y : Nat) : bands g y = bands g' y := by
  fun_induction bands g y with
  | case1 y hy ih =>
    have e : bandH g y = bandH g' y := bandFrom_congr h y 1 hy
    rw [ih]
    conv => rhs; rw [bands, if_pos hy]
    rw [← e, runs_congr h y (bandH g y) 0 hy]
  | case2 y hy => rw [bands, if_neg hy]
theorem canon_congr {g g' : Nat → Bool} (h : ∀ k, k < 256 → g k = g' k) : canon g = canon g' := bands_congr h 0
def rowCnt (g : Nat → Bool) (y x : Nat) : Int := if x < 16 then (if g (y * 16 + x) = true then 1 else 0) + rowCnt g y (x + 1) else 0
termination_by 16 - x
def cntRows (g : Nat → Bool) (y : Nat) : Int := if y < 16 then rowCnt g y 0 + cntRows g (y + 1) else 0
termination_by 16 - y
def areaL (L : List Rc) : Int := (L.map fun r => r.w * r.h).sum
theorem areaL_append (L M : List Rc) : areaL (L ++ M) = areaL L + areaL M := by unfold areaL; rw [List.map_append, List.sum_append]
theorem rowCnt_run (g : Nat → Bool) (y x n : Nat) (h : ∀ p, x ≤ p → p < x + n → g (y * 16 + p) = true) (ht : x + n ≤ 16) : rowCnt g y x = n + rowCnt g y (x + n) := by
  induction n with
  | zero => simp
  | succ n ih =>
    rw [ih (fun p h1 h2 => h p h1 (by omega)) (by omega)]
    conv => lhs; rw [rowCnt, if_pos (show x + n < 16 by omega), if_pos (h (x + n) (by omega) (by omega))]
    rw [show x + (n + 1) = x + n + 1 by omega]; push_cast; omega
theorem rowCnt_skip (g : Nat → Bool) (y x : Nat) (h : x < 16 → g (y * 16 + x) = false) : rowCnt g y x = rowCnt g y (x + 1) := by
 by_cases hx : x < 16
 ·conv => lhs; rw [rowCnt, if_pos hx, if_neg (by rw [h hx]; simp)]
  omega
 ·rw [rowCnt, if_neg hx, rowCnt, if_neg (by omega)]
theorem area_runs (g : Nat → Bool) (y h x : Nat) : areaL (runs g y h x) = rowCnt g y x * h := by
  fun_induction runs g y h x with
  | case1 x hx ih =>
    have ht := runW_top g y x (by omega)
    have h1 := rowCnt_run g y x (runW g y x) (fun p a b => runW_in g y x p a b) ht
    have h2 := rowCnt_skip g y (x + runW g y x) (fun k => runW_out g y x k)
    rw [areaL_append, ih, h1, h2, Int.add_mul]
    congr 1
    split
    · simp [areaL]
    · have : runW g y x = 0 := by omega
      simp [areaL, this]
  | case2 x hx => rw [rowCnt, if_neg hx]; simp [areaL]
theorem rowCnt_congr (g : Nat → Bool) (y z x : Nat) (h : ∀ p, p < 16 → g (z * 16 + p) = g (y * 16 + p)) : rowCnt g z x = rowCnt g y x := by
  fun_induction rowCnt g z x with
  | case1 x hx ih => conv => rhs; rw [rowCnt, if_pos hx]
                     rw [ih, h x hx]
  | case2 x hx => rw [rowCnt, if_neg hx]
theorem cntRows_band (g : Nat → Bool) (y n : Nat) (h : ∀ z, y ≤ z → z < y + n → rowCnt g z 0 = rowCnt g y 0) (ht : y + n ≤ 16) : cntRows g y = rowCnt g y 0 * n + cntRows g (y + n) := by
  induction n with
  | zero => simp
  | succ n ih =>
    rw [ih (fun z h1 h2 => h z h1 (by omega)) (by omega)]
    conv => lhs; rw [cntRows, if_pos (show y + n < 16 by omega), h (y + n) (by omega) (by omega)]
    rw [show y + (n + 1) = y + n + 1 by omega]; push_cast; rw [Int.mul_add]; omega
theorem area_bands (g : Nat → Bool) (y : Nat) : areaL (bands g y) = cntRows g y := by
  fun_induction bands g y with
  | case1 y hy ih =>
    have ht := bandH_top g y hy
    rw [areaL_append, ih, area_runs, cntRows_band g y (bandH g y) (fun z h1 h2 => rowCnt_congr g y z 0 (fun p hp => bandH_eq g y z p h1 h2 hp)) ht]
  | case2 y hy => rw [cntRows, if_neg hy]; simp [areaL]
end Go.Proofs.YtnndifemkichmaaGreat
namespace Go.Proofs.YtnndifemkichmaaGreat
open Go.RowKit
def gCells0 (g : Nat → Bool) : Array Value := Array.ofFn (n := 256) fun i => .bool (g i.val)
theorem gCells_ex (g : Nat → Bool) : ∃ c : Array Value, c = gCells0 g := ⟨_, rfl⟩
noncomputable def gCells (g : Nat → Bool) : Array Value := Classical.choose (gCells_ex g)
theorem gCells_eq (g : Nat → Bool) : gCells g = gCells0 g := Classical.choose_spec (gCells_ex g)
theorem gCells_size (g : Nat → Bool) : (gCells g).size = 256 := by rw [gCells_eq]; simp [gCells0]
theorem gCells_get (g : Nat → Bool) (k : Nat) (h : k < 256) : (gCells g)[k]? = some (.bool (g k)) := by rw [gCells_eq]; simp [gCells0, h]
theorem gCells_ext {c : Array Value} {g : Nat → Bool} (hs : c.size = 256) (h : ∀ k, k < 256 → c[k]? = some (.bool (g k))) : c = gCells g := by
 apply Array.ext_getElem?
 intro i
 by_cases hi : i < 256
 ·rw [h i hi, gCells_get g i hi]
 ·rw [Array.getElem?_eq_none (by omega), Array.getElem?_eq_none (by rw [gCells_size]; omega)]
theorem gCells_congr {g g' : Nat → Bool} (h : ∀ k, k < 256 → g k = g' k) : gCells g = gCells g' :=
 gCells_ext (gCells_size g) fun k hk => by rw [gCells_get g k hk, h k hk]
theorem gCells_one (g : Nat → Bool) : (gCells g).all (·.oneCell') = true := by
 rw [Array.all_eq_true_iff_forall_mem]
 intro v hv
 rw [gCells_eq] at hv
 simp only [gCells0, Array.mem_ofFn] at hv
 obtain ⟨i, rfl⟩ := hv
 rfl
def gSet (g : Nat → Bool) (k : Nat) (b : Bool) : Nat → Bool := fun i => if i = k then b else g i
theorem gCells_set (g : Nat → Bool) (k : Nat) (b : Bool) : (gCells g).setIfInBounds k (.bool b) = gCells (gSet g k b) := by
 refine gCells_ext (by rw [Array.size_setIfInBounds, gCells_size]) fun i hi => ?_
 rw [Array.getElem?_setIfInBounds]
 unfold gSet
 by_cases e : k = i
 ·subst e; simp [gCells_size, hi]
 ·rw [if_neg e, if_neg (Ne.symm e), gCells_get g i hi]
def GrAt (w : World) (b : Nat) (t : TypeId) (g : Nat → Bool) : Prop := w.heap[b]? = some (.cells (gCells g) t (0, 0))
theorem GrAt.lt {w : World} {b : Nat} {t : TypeId} {g : Nat → Bool} (h : GrAt w b t g) : b < w.heap.size := (Array.getElem?_eq_some_iff.1 h).1
theorem GrAt.cell {w : World} {b : Nat} {t : TypeId} {g : Nat → Bool} (h : GrAt w b t g) (k : Nat) (hk : k < 256) : w.cell? ⟨b, k, none⟩ = some (.bool (g k)) := by
 rw [cell_of_row w b k _ t _ h, gCells_get g k hk]
theorem GrAt.frozen {w : World} {b : Nat} {t : TypeId} {g : Nat → Bool} (h : GrAt w b t g) (o : Nat) : w.frozen? ⟨b, o, none⟩ = false := by
 unfold GrAt at h; simp [World.frozen?, h]
theorem GrAt.below {w w' : World} {b B : Nat} {t : TypeId} {g : Nat → Bool} (h : GrAt w b t g) (hb : Below B w w') (hg : b < B) : GrAt w' b t g := (hb.block b hg).trans h
theorem GrAt.alloc {w : World} {b : Nat} {t : TypeId} {g : Nat → Bool} (h : GrAt w b t g) (o : Obj) : GrAt (w.alloc o) b t g := (Below.heap_alloc w o b h.lt).trans h
theorem GrAt.new (w : World) (t : TypeId) (g : Nat → Bool) : GrAt (w.alloc (.cells (gCells g) t)) w.heap.size t g := heap_alloc_new w _
theorem GrAt.newAt {w : World} {b : Nat} (h : w.heap.size = b) (t : TypeId) (g : Nat → Bool) : GrAt (w.alloc (.cells (gCells g) t)) b t g := h ▸ GrAt.new w t g
theorem GrAt.drew {w : World} {b : Nat} {t : TypeId} {g : Nat → Bool} (h : GrAt w b t g) : GrAt w.drew b t g := h
theorem GrAt.drewN {w : World} {b : Nat} {t : TypeId} {g : Nat → Bool} (h : GrAt w b t g) (n : Nat) : GrAt (w.drewN n) b t g := h
theorem GrAt.grown {w w' : World} {b : Nat} {t : TypeId} {g : Nat → Bool} {row : Option Nat} (h : GrAt w b t g) (hb : w.grownBy w' row) (hr : some b ≠ row) : GrAt w' b t g := (hb.block b h.lt hr).trans h
theorem GrAt.far {w : World} {b : Nat} {t : TypeId} {g : Nat → Bool} (h : GrAt w b t g) {p : Addr} (hp : b ≠ p.block) (v : Value) : GrAt (w.setCell p v) b t g := (Below.heap_setCell w p v b hp).trans h
theorem GrAt.set {w : World} {b : Nat} {t : TypeId} {g : Nat → Bool} (h : GrAt w b t g) (k : Nat) (v : Bool) : GrAt (w.setCell ⟨b, k, none⟩ (.bool v)) b t (gSet g k v) := by
 unfold GrAt
 rw [heap_setCell_same w b k _ t _ h, gCells_set]
theorem GrAt.congr {w : World} {b : Nat} {t : TypeId} {g g' : Nat → Bool} (h : GrAt w b t g) (e : ∀ k, k < 256 → g k = g' k) : GrAt w b t g' := by
 unfold GrAt; rw [← gCells_congr e]; exact h
theorem GrAt.row {w : World} {b : Nat} {t : TypeId} {g g' : Nat → Bool} (h : GrAt w b t g) : GrAt (w.setRow b (gCells g')) b t g' := setRow_heap w b _ _ t _ h
theorem GrAt.rowFar {w : World} {b c : Nat} {t : TypeId} {g : Nat → Bool} (h : GrAt w b t g) (hc : b ≠ c) (cs : Array Value) : GrAt (w.setRow c cs) b t g := (setRow_other w c b cs hc).trans h
theorem below_setRow {B : Nat} {w0 w : World} {g : Nat} (h : Below B w0 w) (hg : B ≤ g) (cs : Array Value) : Below B w0 (w.setRow g cs) :=
 ⟨h.os, h.tape, h.output, by simpa using h.size, fun k hk => (setRow_other w g k cs (by omega)).trans (h.block k hk)⟩
theorem GrAt.of_row {w : World} {b : Nat} {t : TypeId} {f : Nat → Value} {g : Nat → Bool} (h : w.rowIs b t 256 f) (e : ∀ k, k < 256 → f k = .bool (g k)) : GrAt w b t g := by
 obtain ⟨c, hb, hs, hf⟩ := h
 have ec : c = gCells g := gCells_ext hs fun k hk => by rw [hf k hk, e k hk]
 unfold GrAt
 rw [hb, ec]
theorem infoBool : (Tryz.prog.info? 4).map (fun i => (i.zero, i.size, i.bytes)) = some (some (.bool false), 1, 1) := by kernel_rfl
theorem made_grid : madeCells #[.bool false] 256 = gCells (fun _ => false) := by
 have h := GrAt.of_row (g := fun _ => false) (World.rowIs_made default (.bool false) 256 0) (fun k _ => rfl)
 unfold GrAt at h
 rw [heap_alloc_new] at h
 exact (Obj.cells.inj (Option.some.inj h)).1
theorem make_grid (W : World) : (Instr.makeSlice 206 (.int .i64 256) (.int .i64 256)).run Tryz.prog W = .ok (.slice (some ⟨W.heap.size, 0, none⟩) 256 256) (W.alloc (.cells (gCells fun _ => false) 4)) := by
 have h := run_make_row' (P := Tryz.prog) 206 4 (.bool false) 1 Tryz.underlying206 infoBool rfl .i64 .i64 256 (by omega) (by omega) W
 rw [made_grid] at h
 exact h
def markG (g : Nat → Bool) (X Y W H y x k : Nat) : Bool :=
 g k || decide (X ≤ k % 16 ∧ k % 16 < X + W ∧ Y ≤ k / 16 ∧ k / 16 < Y + H ∧ (k / 16 < y ∨ k / 16 = y ∧ k % 16 < x))
theorem markG_start (g : Nat → Bool) (X Y W H k : Nat) : markG g X Y W H Y X k = g k := by
 unfold markG
 rw [decide_eq_false (by omega), Bool.or_false]
theorem markG_row (g : Nat → Bool) (X Y W H y k : Nat) : markG g X Y W H y (X + W) k = markG g X Y W H (y + 1) X k := by
 unfold markG
 congr 1
 rw [decide_eq_decide]
 omega
theorem markG_set (g : Nat → Bool) (X Y W H y x k : Nat) (hx : X ≤ x ∧ x < X + W) (hy : Y ≤ y ∧ y < Y + H) (h16 : X + W ≤ 16) :
  gSet (markG g X Y W H y x) (y * 16 + x) true k = markG g X Y W H y (x + 1) k := by
 unfold gSet
 split
 ·rename_i e
  unfold markG
  rw [decide_eq_true (by omega), Bool.or_true]
 ·rename_i e
  unfold markG
  congr 1
  rw [decide_eq_decide]
  have h2 : k / 16 * 16 + k % 16 = k := by omega
  constructor
  ·rintro ⟨a, b, c, d, h⟩
   exact ⟨a, b, c, d, by omega⟩
  ·rintro ⟨a, b, c, d, h⟩
   exact ⟨a, b, c, d, by
    rcases h with h | ⟨h, h'⟩
    ·exact .inl h
    ·by_cases hk : k % 16 = x
     ·exact absurd (by rw [← h2, h, hk]) e
     ·exact .inr ⟨h, by omega⟩⟩
end Go.Proofs.YtnndifemkichmaaGreat
namespace Go.Proofs.YtnndifemkichmaaGreat
theorem isect_ok (a b : Rc) (ha : a.ok) (hb : b.ok) : (isect a b).ok := by
 rcases isect_cases a b ha hb with ⟨h, e⟩ | ⟨h, e⟩
 ·rw [e]; unfold isectRaw Rc.ok; unfold isectIn at h; unfold Rc.ok at ha hb; dsimp only; omega
 ·rw [e]; unfold Rc.ok; dsimp only; omega
end Go.Proofs.YtnndifemkichmaaGreat
namespace Go.Proofs.YtnndifemkichmaaGreat
def screenR : Rc := ⟨0, 0, 16, 16⟩
theorem isect_screen (r : Rc) (p q : Int) (hp : 0 ≤ p ∧ p < 16) (hq : 0 ≤ q ∧ q < 16) :
  ((isect r screenR).x ≤ p ∧ p < (isect r screenR).x + (isect r screenR).w ∧ (isect r screenR).y ≤ q ∧ q < (isect r screenR).y + (isect r screenR).h) ↔
   (r.ok ∧ r.x ≤ p ∧ p < r.x + r.w ∧ r.y ≤ q ∧ q < r.y + r.h) := by
 have hs : screenR.ok := by unfold screenR Rc.ok; dsimp only; omega
 by_cases hr : r.ok
 ·rcases isect_cases r screenR hr hs with ⟨h, e⟩ | ⟨h, e⟩
  ·rw [e]; unfold isectRaw; unfold isectIn screenR at h; unfold screenR; dsimp only at h ⊢
   constructor
   ·intro k; exact ⟨hr, by omega⟩
   ·rintro ⟨_, k⟩; omega
  ·rw [e]; unfold isectIn screenR at h; dsimp only at h ⊢
   constructor
   ·intro k; omega
   ·rintro ⟨_, k⟩; omega
 ·rw [isect_no (fun k => hr k.1)]; dsimp only
  constructor
  ·intro k; omega
  ·rintro ⟨k, _⟩; exact absurd k hr
theorem isect_screen_in (r : Rc) : 0 ≤ (isect r screenR).x ∧ 0 ≤ (isect r screenR).w ∧ (isect r screenR).x + (isect r screenR).w ≤ 16 ∧ 0 ≤ (isect r screenR).y ∧ 0 ≤ (isect r screenR).h ∧ (isect r screenR).y + (isect r screenR).h ≤ 16 := by
 have hs : screenR.ok := by unfold screenR Rc.ok; dsimp only; omega
 by_cases hr : r.ok
 ·rcases isect_cases r screenR hr hs with ⟨h, e⟩ | ⟨h, e⟩
  ·rw [e]; unfold isectRaw; unfold isectIn screenR at h; unfold screenR; dsimp only at h ⊢; omega
  ·rw [e]; dsimp only; omega
 ·rw [isect_no (fun k => hr k.1)]; dsimp only; omega
end Go.Proofs.YtnndifemkichmaaGreat
namespace Go.Proofs.YtnndifemkichmaaGreat
theorem screen_nat (r : Rc) : ∃ X Y W H : Nat, isect r screenR = ⟨X, Y, W, H⟩ ∧ X + W ≤ 16 ∧ Y + H ≤ 16 := by
 obtain ⟨h1, h2, h3, h4, h5, h6⟩ := isect_screen_in r
 refine ⟨(isect r screenR).x.toNat, (isect r screenR).y.toNat, (isect r screenR).w.toNat, (isect r screenR).h.toNat, ?_, by omega, by omega⟩
 refine rc_ext ⟨?_, ?_, ?_, ?_⟩ <;> dsimp only <;> omega
theorem mark_next (L : List Rc) (r : Rc) (X Y W H : Nat) (e : isect r screenR = ⟨X, Y, W, H⟩) (k : Nat) (hk : k < 256) :
  markG (gridOf L) X Y W H (Y + H) X k = gridOf (L ++ [r]) k := by
 have h := isect_screen r (k % 16 : Nat) (k / 16 : Nat) (by omega) (by omega)
 rw [e] at h
 dsimp only at h
 rw [gridOf_append]
 unfold markG
 congr 1
 rw [Bool.eq_iff_iff, decide_eq_true_iff, gridOf_iff]
 constructor
 ·rintro ⟨a, b, c, d, _⟩
  exact ⟨r, List.mem_singleton.2 rfl, h.1 ⟨by omega, by omega, by omega, by omega⟩⟩
 ·rintro ⟨s, hs, hr⟩
  obtain rfl := List.mem_singleton.1 hs
  have := h.2 hr
  omega
theorem take_next {α : Type} {L : List α} {k : Nat} {r : α} (h : L[k]? = some r) : L.take (k + 1) = L.take k ++ [r] := by
 rw [List.take_add_one, h]; rfl
theorem mark_take (L : List Rc) (n : Nat) (r : Rc) (X Y W H : Nat) (hr : L[n]? = some r) (e : isect r screenR = ⟨X, Y, W, H⟩) (k : Nat) (hk : k < 256) :
  markG (gridOf (L.take n)) X Y W H (Y + H) X k = gridOf (L.take (n + 1)) k := by
 rw [take_next hr]; exact mark_next _ r X Y W H e k hk
end Go.Proofs.YtnndifemkichmaaGreat
namespace Go.Proofs.YtnndifemkichmaaGreat
open Go.RowKit
theorem new_cell (w : World) (v : Value) (t : TypeId) : (w.alloc (.cells #[v] t)).cell? ⟨w.heap.size, 0, none⟩ = some v := by
 rw [cell_of_row _ _ _ _ _ _ (heap_alloc_new w _)]; rfl
theorem rcsCells_append (L M : List Rc) : rcsCells (L ++ M) = rcsCells L ++ rcsCells M := by simp [rcsCells]
theorem rcsCells_one (r : Rc) : rcsCells [r] = rcCells r := by simp [rcsCells]
theorem rcs_one (L : List Rc) : ∀ v ∈ rcsCells L, v.oneCell' = true := by
 intro v hv
 simp only [rcsCells, List.mem_flatMap, rcCells] at hv
 obtain ⟨r, _, hv⟩ := hv
 simp at hv
 rcases hv with rfl | rfl | rfl | rfl <;> rfl
theorem C4.far4 {w : World} {g o b : Nat} {r : Rc} (h : C4 w g o r) (hb : g ≠ b) (v0 v1 v2 v3 : Value) :
  C4 ((((w.setCell ⟨b, 0, none⟩ v0).setCell ⟨b, 1, none⟩ v1).setCell ⟨b, 2, none⟩ v2).setCell ⟨b, 3, none⟩ v3) g o r :=
 h.kept ((((Below.heap_setCell _ ⟨b, 3, none⟩ v3 g hb).trans (Below.heap_setCell _ ⟨b, 2, none⟩ v2 g hb)).trans (Below.heap_setCell _ ⟨b, 1, none⟩ v1 g hb)).trans (Below.heap_setCell _ ⟨b, 0, none⟩ v0 g hb))
end Go.Proofs.YtnndifemkichmaaGreat
namespace Go.Proofs.YtnndifemkichmaaGreat
open Go.RowKit
def GridAns (L : List Rc) (w : World) (e : Ending) (w' : World) : Prop :=
 ∃ b : Nat, e = .returned (.slice (some ⟨b, 0, none⟩) 256 256) ∧ w.heap.size ≤ b ∧ GrAt w' b 4 (gridOf L) ∧ Below w.heap.size w w'
theorem isectS_scr (r : Rc) (w : World) :
  Calls Tryz.prog 164 #[.agg #[.int .i64 r.x, .int .i64 r.y, .int .i64 r.w, .int .i64 r.h], .agg #[.int .i64 0, .int .i64 0, .int .i64 16, .int .i64 16]] w
   fun e w' => ∃ X Y W H : Nat, e = .returned (.agg #[.int .i64 X, .int .i64 Y, .int .i64 W, .int .i64 H]) ∧ Hid (isect r screenR = ⟨X, Y, W, H⟩) ∧ X + W ≤ 16 ∧ Y + H ≤ 16 ∧ Below w.heap.size w w' := by
 refine (isectS_any r screenR w).mono ?_
 rintro e w' ⟨rfl, hb⟩
 obtain ⟨X, Y, W, H, he, h1, h2⟩ := screen_nat r
 exact ⟨X, Y, W, H, by rw [he], he, h1, h2, hb⟩
theorem scr_cells {w : World} {g : Nat} (h : RcAt w g screenR) :
  w.cell? ⟨g, 0, none⟩ = some (.int .i64 0) ∧ w.cell? ⟨g, 1, none⟩ = some (.int .i64 0) ∧ w.cell? ⟨g, 2, none⟩ = some (.int .i64 16) ∧ w.cell? ⟨g, 3, none⟩ = some (.int .i64 16) := h.cells
structure GsSt (w : World) (g : Nat → Bool) (wr : World) : Prop where
 gr : GrAt wr w.heap.size 4 g
 sc : RcAt wr (w.heap.size + 1) screenR
 bw : Below w.heap.size w wr
theorem GsSt.size {w wr : World} {g : Nat → Bool} (h : GsSt w g wr) : w.heap.size + 1 < wr.heap.size := h.sc.lt
theorem GsSt.call {w wr w' : World} {g : Nat → Bool} (h : GsSt w g wr) (hb : Below wr.heap.size wr w') : GsSt w g w' :=
 ⟨h.gr.below hb h.gr.lt, h.sc.below hb h.sc.lt, h.bw.trans (hb.mono h.bw.size)⟩
theorem GsSt.alloc {w wr : World} {g : Nat → Bool} (h : GsSt w g wr) (o : Obj) : GsSt w g (wr.alloc o) :=
 ⟨h.gr.alloc o, h.sc.alloc o, h.bw.alloc h.bw.size o⟩
theorem GsSt.drew {w wr : World} {g : Nat → Bool} (h : GsSt w g wr) : GsSt w g wr.drew := ⟨h.gr, h.sc, h.bw.drew⟩
theorem GsSt.far4 {w wr : World} {g : Nat → Bool} {b : Nat} (h : GsSt w g wr) (hb : w.heap.size + 1 < b) (v0 v1 v2 v3 : Value) :
  GsSt w g ((((wr.setCell ⟨b, 0, none⟩ v0).setCell ⟨b, 1, none⟩ v1).setCell ⟨b, 2, none⟩ v2).setCell ⟨b, 3, none⟩ v3) :=
 ⟨(((h.gr.far (p := ⟨b, 0, none⟩) (by simp; omega) _).far (p := ⟨b, 1, none⟩) (by simp; omega) _).far (p := ⟨b, 2, none⟩) (by simp; omega) _).far (p := ⟨b, 3, none⟩) (by simp; omega) _,
  h.sc.far4 hb _ _ _ _, below_set4 h.bw (by omega) _ _ _ _⟩
theorem GsSt.set {w wr : World} {g : Nat → Bool} (h : GsSt w g wr) (k : Nat) (v : Bool) : GsSt w (gSet g k v) (wr.setCell ⟨w.heap.size, k, none⟩ (.bool v)) :=
 ⟨h.gr.set k v, h.sc.far (by simp) _, h.bw.setCell (Nat.le_refl _) _⟩
theorem GsSt.congr {w wr : World} {g g' : Nat → Bool} (h : GsSt w g wr) (e : ∀ k, k < 256 → g k = g' k) : GsSt w g' wr := ⟨h.gr.congr e, h.sc, h.bw⟩
set_option maxHeartbeats 400000 in
set_option maxRecDepth 10000 in
theorem gridS (v : Value) (L : List Rc) (w : World) (h : RdR w v L) : Calls Tryz.prog 213 #[v] w (GridAns L w) := by
 obtain ⟨A, c, rfl⟩ := h.form
 have hm : L.length ≤ 9223372036854775807 := by have := h.len; unfold maxLen at this; omega
 obtain ⟨n, hn⟩ : ∃ n, n = L.length := ⟨_, rfl⟩
 rw [← hn] at hm h ⊢
 have Hn := Lib.hid hn
 have H := Lib.hid h
 clear h hn
 have hmk := make_grid
 go_enter Tryz.func213, Tryz.ntmps213
 go_wp2_with fail
 go_loopg [5] n (fun gk i wr => ∃ k : Nat, k ≤ n ∧ gk = n - k ∧ i = .int .i64 k ∧ GsSt w (gridOf (L.take k)) wr)
 case atStart => exact ⟨0, Nat.zero_le _, by omega, rfl, ⟨((GrAt.new _ _ _).congr (fun k _ => (gridOf_nil k).symm)).alloc _, RcAt.newAt (by simp) screenR, ((Below.refl _ _).alloc (Nat.le_refl _) _).alloc (by simp) _⟩⟩
 case round =>
  obtain ⟨k, hk, rfl, rfl, hG⟩ := hrel
  by_cases hkn : k < n
  ·obtain ⟨gv, r, rfl, hr, hC⟩ := (H.out.below hG.bw (fun g _ hl => hl)).at_ (k := k) (by rw [← Hn.out]; exact hkn)
   have hgv : gv < w.heap.size := by
    obtain ⟨gv', r', e, _, hC'⟩ := H.out.at_ (k := k) (by rw [← Hn.out]; exact hkn)
    injection e with e
    injection e with e
    rw [e]; exact hC'.lt
   have Hr := Lib.hid hr
   clear hr
   have k0 : (0 : Int) ≤ (k : Int) := by omega
   have k1 : (k : Int) < (n : Int) := by omega
   have hsz := hG.size
   have hne : gv ≠ wr.heap.size := by omega
   go_upto_region 6 with fail
   go_cut [6] (fun s6 wx => ∃ g X Y W H : Nat, s6 = .pointer (some ⟨g, 0, none⟩) ∧ Hid (isect r screenR = ⟨X, Y, W, H⟩) ∧ X + W ≤ 16 ∧ Y + H ≤ 16 ∧ w.heap.size + 1 < g ∧ RcAt wx g ⟨X, Y, W, H⟩ ∧ GsSt w (gridOf (L.take k)) wx)
   case first =>
    obtain ⟨c0, c1, c2, c3⟩ := hC.cells
    obtain ⟨s0, s1, s2, s3⟩ := scr_cells hG.sc
    go_region_held3 (fun w' => (w'.cell? ⟨gv, k * 4, none⟩ = some (.int .i64 r.x) ∧ w'.cell? ⟨gv, k * 4 + 1, none⟩ = some (.int .i64 r.y) ∧ w'.cell? ⟨gv, k * 4 + 2, none⟩ = some (.int .i64 r.w) ∧ w'.cell? ⟨gv, k * 4 + 3, none⟩ = some (.int .i64 r.h)) ∧
     (w'.cell? ⟨w.heap.size + 1, 0, none⟩ = some (.int .i64 0) ∧ w'.cell? ⟨w.heap.size + 1, 1, none⟩ = some (.int .i64 0) ∧ w'.cell? ⟨w.heap.size + 1, 2, none⟩ = some (.int .i64 16) ∧ w'.cell? ⟨w.heap.size + 1, 3, none⟩ = some (.int .i64 16)))
     (with_reducible first | exact ⟨hC.cells, scr_cells hG.sc⟩ | exact ⟨hC.drew.cells, scr_cells hG.drew.sc⟩ | exact ⟨(hC.alloc _).cells, scr_cells (hG.alloc _).sc⟩ | exact ⟨(hC.drew.alloc _).cells, scr_cells (hG.drew.alloc _).sc⟩ | exact ⟨(hC.alloc _).drew.cells, scr_cells (hG.alloc _).drew.sc⟩ | exact ⟨(hC.far4 hne _ _ _ _).cells, scr_cells (hG.sc.far4 hsz _ _ _ _)⟩ | fail)
     ((go_at_call 164; (with_reducible refine (isectS_scr r _).mono ?_); rintro e wk ⟨X, Y, W, H, rfl, hI, hXW, hYH, hbk⟩; (with_reducible first | have hC := hC.call hbk | have hC := hC.drew.call hbk | have hC := (hC.alloc _).call hbk | have hC := (hC.drew.alloc _).call hbk | have hC := (hC.alloc _).drew.call hbk); (with_reducible first | have hG := hG.call hbk | have hG := hG.drew.call hbk | have hG := (hG.alloc _).call hbk | have hG := (hG.drew.alloc _).call hbk | have hG := (hG.alloc _).drew.call hbk); (with_reducible first | (have hN := rc_born_drew hbk; obtain ⟨z0, z1, z2, z3⟩ := hN.cells; have zf := hN.frozen) | (have hN := rc_born hbk; obtain ⟨z0, z1, z2, z3⟩ := hN.cells; have zf := hN.frozen) | skip)))
    all_goals
     go_wp2_with fail
     go_meet
     case rel => exact ⟨_, X, Y, W, H, rfl, hI, hXW, hYH, by first | exact hsz | exact hG.size, by first | exact hN.setr ⟨X, Y, W, H⟩ | exact RcAt.new wk ⟨X, Y, W, H⟩ | exact (RcAt.new wk ⟨X, Y, W, H⟩).drew, by first | exact hG.far4 hsz _ _ _ _ | exact hG.alloc _ | exact (hG.alloc _).drew | exact hG.drew.alloc _⟩
   case rest =>
    clear hC hG hsz hne
    obtain ⟨g, X, Y, W, H, rfl, hI, hXW, hYH, hg, hR, hG⟩ := hcut
    obtain ⟨r0, r1, r2, r3⟩ := hR.cells4
    go_wp2_with fail
    go_loopg [7] H (fun g2 i2 wy => ∃ y : Nat, Y ≤ y ∧ y ≤ Y + H ∧ g2 = Y + H - y ∧ i2 = .int .i64 y ∧ RcAt wy g ⟨X, Y, W, H⟩ ∧ GsSt w (markG (gridOf (L.take k)) X Y W H y X) wy)
    case atStart => exact ⟨Y, Nat.le_refl _, by omega, by omega, rfl, hR, hG.congr (fun i _ => (markG_start _ _ _ _ _ i).symm)⟩
    case round =>
     clear hR hG r0 r1 r2 r3
     obtain ⟨y, hy1, hy2, rfl, rfl, hR, hG⟩ := hrel
     obtain ⟨r0, r1, r2, r3⟩ := hR.cells4
     by_cases hyl : y < Y + H
     ·go_wp2_with fail
      go_loopg [8] W (fun g3 i3 wx => ∃ x : Nat, X ≤ x ∧ x ≤ X + W ∧ g3 = X + W - x ∧ i3 = .int .i64 x ∧ RcAt wx g ⟨X, Y, W, H⟩ ∧ GsSt w (markG (gridOf (L.take k)) X Y W H y x) wx)
      case atStart => exact ⟨X, Nat.le_refl _, by omega, by omega, rfl, hR, hG⟩
      case round =>
       clear hR hG r0 r1 r2 r3
       obtain ⟨x, hx1, hx2, rfl, rfl, hR, hG⟩ := hrel
       obtain ⟨r0, r1, r2, r3⟩ := hR.cells4
       by_cases hxl : x < X + W
       ·have b0 : (0 : Int) ≤ (y : Int) * 16 + (x : Int) := by omega
        have b1 : (y : Int) * 16 + (x : Int) < 256 := by omega
        have hcell := hG.gr.cell (y * 16 + x) (by omega)
        have hfz := hG.gr.frozen (y * 16 + x)
        go_wp2_with fail
        go_roundg (X + W - (x + 1))
        case measure => omega
        case rel => exact ⟨x + 1, by omega, by omega, rfl, by go_num, hR.far (by simp; omega) _, (hG.set (y * 16 + x) true).congr (fun i _ => markG_set _ X Y W H y x i ⟨hx1, hxl⟩ ⟨hy1, hyl⟩ hXW)⟩
       ·obtain rfl : x = X + W := by omega
        go_wp2_with fail
        go_roundg (Y + H - (y + 1))
        case measure => omega
        case rel => exact ⟨y + 1, by omega, by omega, rfl, by go_num, hR, hG.congr (fun i _ => markG_row _ X Y W H y i)⟩
     ·obtain rfl : y = Y + H := by omega
      go_wp2_with fail
      go_roundg (n - (k + 1))
      case measure => omega
      case rel => exact ⟨k + 1, by omega, rfl, by go_num, hG.congr (fun i hi => mark_take L k r X Y W H Hr.out hI.out i hi)⟩
  ·obtain rfl : k = n := by omega
   go_wp2_with fail
   go_ret
   exact ⟨_, rfl, Nat.le_refl _, hG.gr.congr (fun i _ => by rw [List.take_of_length_le (by rw [← Hn.out]; exact Nat.le_refl _)]), hG.bw⟩
end Go.Proofs.YtnndifemkichmaaGreat
namespace Go.Proofs.YtnndifemkichmaaGreat
open Go.RowKit
theorem infoGrid : (Tryz.prog.info? 153).map (fun i => (i.zero, i.size)) = some (some (.agg (gCells fun _ => false)), 256) := by
 rw [gCells_eq]
 kernel_rfl
theorem zeroGrid (w : World) : (zeroValue 153).run Tryz.prog w = .ok (.agg (gCells fun _ => false)) w := (zero_of_info infoGrid).1 w
theorem sizeGrid (g : Nat → Bool) : (Tryz.prog.info? 153).map (·.size) = some (gCells g).size := by rw [gCells_size]; exact (zero_of_info infoGrid).2
theorem loadGrid {w : World} {b : Nat} {g : Nat → Bool} (h : GrAt w b 153 g) : (loadVar 153 ⟨b, 0, none⟩).run Tryz.prog w = .ok (.agg (gCells g)) w :=
 run_loadVar_row w b _ _ (gCells g) _ _ h Tryz.underlying153 rfl (sizeGrid g)
theorem storeGrid {w : World} {b : Nat} {g : Nat → Bool} (h : GrAt w b 153 g) (g' : Nat → Bool) : (storeVar 153 ⟨b, 0, none⟩ (.agg (gCells g'))).run Tryz.prog w = .ok () (w.setRow b (gCells g')) :=
 run_storeVar_row w b _ _ (gCells g) (gCells g') h (sizeGrid g') (by rw [gCells_size, gCells_size]) (gCells_one g')
theorem storeCellsGrid {w : World} {b : Nat} {g : Nat → Bool} (h : GrAt w b 153 g) (g' : Nat → Bool) : (storeCells ⟨b, 0, none⟩ (gCells g').toList 0).run Tryz.prog w = .ok () (w.setRow b (gCells g')) := by
  have := storeGrid h g'
  have hi := sizeGrid g'
  cases hq : Tryz.prog.info? 153 with
  | none => simp [hq] at hi
  | some i =>
    have hs : (gCells g').size = i.size := by simp [hq] at hi; omega
    simpa [storeVar, sizeOf, typeInfo, hq, Value.cells, hs] using this
theorem wp_load_grid {op : Oper} {a : Act} {w : World} {K : Act → World → Prop} {Q : Exit → Act → World → Prop} (x : Operand) (ho : op.op = .load 153 x)
  (b : Nat) (g : Nat → Bool) (hx : a.eval x = .pointer (some ⟨b, 0, none⟩)) (hG : GrAt w b 153 g)
  (h : K (a.put op.dst (.agg (gCells g))) w) : op.wp Tryz.prog a w K Q := by
 unfold Oper.wp execOp
 simp only [ho, hx, Instr.loadAt, Instr.sureAddr, Sem.run_bind, Sem.run_pure, Result.andThen_ok, loadGrid hG]
 exact h
theorem wp_store_grid {op : Oper} {a : Act} {w : World} {K : Act → World → Prop} {Q : Exit → Act → World → Prop} (x y : Operand) (ho : op.op = .store 153 x y)
  (b : Nat) (g g' : Nat → Bool) (hx : a.eval x = .pointer (some ⟨b, 0, none⟩)) (hy : a.eval y = .agg (gCells g')) (hG : GrAt w b 153 g)
  (h : K (a.put op.dst undef) (w.setRow b (gCells g'))) : op.wp Tryz.prog a w K Q := by
 unfold Oper.wp execOp
 simp only [ho, hx, hy, Instr.storeAt, Instr.sureAddr, Sem.run_bind, Sem.run_pure, Result.andThen_ok, storeGrid hG g']
 exact h
end Go.Proofs.YtnndifemkichmaaGreat
namespace Go.Proofs.YtnndifemkichmaaGreat
open Go.RowKit
def PtsAns (L : List Rc) (w : World) (e : Ending) (w' : World) : Prop := e = .returned (.agg (gCells (gridOf L))) ∧ Below w.heap.size w w'
theorem isectI_scr (r : Rc) (w : World) :
  Calls Tryz.prog 184 #[.agg #[.int .i64 r.x, .int .i64 r.y, .int .i64 r.w, .int .i64 r.h], .agg #[.int .i64 0, .int .i64 0, .int .i64 16, .int .i64 16]] w
   fun e w' => ∃ X Y W H : Nat, e = .returned (.agg #[.int .i64 X, .int .i64 Y, .int .i64 W, .int .i64 H]) ∧ Hid (isect r screenR = ⟨X, Y, W, H⟩) ∧ X + W ≤ 16 ∧ Y + H ≤ 16 ∧ Below w.heap.size w w' := by
 refine (isectI_any r screenR w).mono ?_
 rintro e w' ⟨rfl, hb⟩
 obtain ⟨X, Y, W, H, he, h1, h2⟩ := screen_nat r
 exact ⟨X, Y, W, H, by rw [he], he, h1, h2, hb⟩
structure GpSt (w : World) (g : Nat → Bool) (wr : World) : Prop where
 rs : GrAt wr w.heap.size 153 (fun _ => false)
 gr : GrAt wr (w.heap.size + 1) 153 g
 bw : Below w.heap.size w wr
theorem GpSt.size {w wr : World} {g : Nat → Bool} (h : GpSt w g wr) : w.heap.size + 1 < wr.heap.size := h.gr.lt
theorem GpSt.call {w wr w' : World} {g : Nat → Bool} (h : GpSt w g wr) (hb : Below wr.heap.size wr w') : GpSt w g w' :=
 ⟨h.rs.below hb h.rs.lt, h.gr.below hb h.gr.lt, h.bw.trans (hb.mono h.bw.size)⟩
theorem GpSt.alloc {w wr : World} {g : Nat → Bool} (h : GpSt w g wr) (o : Obj) : GpSt w g (wr.alloc o) :=
 ⟨h.rs.alloc o, h.gr.alloc o, h.bw.alloc h.bw.size o⟩
theorem GpSt.set {w wr : World} {g : Nat → Bool} (h : GpSt w g wr) (k : Nat) (v : Bool) : GpSt w (gSet g k v) (wr.setCell ⟨w.heap.size + 1, k, none⟩ (.bool v)) :=
 ⟨h.rs.far (by simp) _, h.gr.set k v, h.bw.setCell (by simp) _⟩
theorem GpSt.congr {w wr : World} {g g' : Nat → Bool} (h : GpSt w g wr) (e : ∀ k, k < 256 → g k = g' k) : GpSt w g' wr := ⟨h.rs, h.gr.congr e, h.bw⟩
set_option maxHeartbeats 2000000 in
set_option maxRecDepth 10000 in
theorem gridI (v : Value) (L : List Rc) (w : World) (h : RdR w v L) : Calls Tryz.prog 169 #[v] w (PtsAns L w) := by
 obtain ⟨A, c, rfl⟩ := h.form
 have hm : L.length ≤ 9223372036854775807 := by have := h.len; unfold maxLen at this; omega
 obtain ⟨n, hn⟩ : ∃ n, n = L.length := ⟨_, rfl⟩
 rw [← hn] at hm h ⊢
 have Hn := Lib.hid hn
 have H := Lib.hid h
 clear h hn
 have hz := zeroGrid
 go_enter Tryz.func169, Tryz.ntmps169
 go_wp2_with fail
 go_loopg [11] n (fun gk i wr => ∃ k : Nat, k ≤ n ∧ gk = n - k ∧ i = .int .i64 k ∧ GpSt w (gridOf (L.take k)) wr)
 case atStart => exact ⟨0, Nat.zero_le _, by omega, rfl, ⟨(GrAt.new _ _ _).alloc _, (GrAt.newAt (by simp) _ _).congr (fun k _ => (gridOf_nil k).symm), ((Below.refl _ _).alloc (Nat.le_refl _) _).alloc (by simp) _⟩⟩
 case round =>
  obtain ⟨k, hk, rfl, rfl, hG⟩ := hrel
  by_cases hkn : k < n
  ·obtain ⟨gv, r, rfl, hr, hC⟩ := (H.out.below hG.bw (fun g _ hl => hl)).at_ (k := k) (by rw [← Hn.out]; exact hkn)
   have Hr := Lib.hid hr
   clear hr
   have k0 : (0 : Int) ≤ (k : Int) := by omega
   have k1 : (k : Int) < (n : Int) := by omega
   obtain ⟨c0, c1, c2, c3⟩ := hC.cells
   go_wp2_with fail
   refine (isectI_scr r _).mono ?_
   rintro e wk ⟨X, Y, W, H, rfl, hI, hXW, hYH, hbk⟩
   have hG := (hG.alloc _).call hbk
   have hsz := hG.size
   clear c0 c1 c2 c3 hC hbk
   go_wp2_with fail
   have hR := RcAt.new wk ⟨X, Y, W, H⟩
   have hG := hG.alloc (.cells #[.int .i64 X, .int .i64 Y, .int .i64 W, .int .i64 H] 131)
   go_loopg [7] H (fun g2 i2 wy => ∃ y : Nat, Y ≤ y ∧ y ≤ Y + H ∧ g2 = Y + H - y ∧ i2 = .int .i64 y ∧ RcAt wy wk.heap.size ⟨X, Y, W, H⟩ ∧ GpSt w (markG (gridOf (L.take k)) X Y W H y X) wy)
   case atStart => exact ⟨Y, Nat.le_refl _, by omega, by omega, rfl, hR, hG.congr (fun i _ => (markG_start _ _ _ _ _ i).symm)⟩
   case round =>
    clear hR hG
    obtain ⟨y, hy1, hy2, rfl, rfl, hR, hG⟩ := hrel
    obtain ⟨r0, r1, r2, r3⟩ := hR.cells4
    go_wp2_with fail
    refine (bottom_nat X Y W H hXW hYH _).mono ?_
    rintro e wb ⟨rfl, hbb⟩
    have hR := hR.below hbb hR.lt
    have hG := hG.call hbb
    clear hbb r0 r1 r2 r3
    obtain ⟨r0, r1, r2, r3⟩ := hR.cells4
    by_cases hyl : y < Y + H
    ·have hyi : (y : Int) < (Y : Int) + (H : Int) := by omega
     go_wp2_with fail
     go_loopg [8] W (fun g3 i3 wx => ∃ x : Nat, X ≤ x ∧ x ≤ X + W ∧ g3 = X + W - x ∧ i3 = .int .i64 x ∧ RcAt wx wk.heap.size ⟨X, Y, W, H⟩ ∧ GpSt w (markG (gridOf (L.take k)) X Y W H y x) wx)
     case atStart => exact ⟨X, Nat.le_refl _, by omega, by omega, rfl, hR, hG⟩
     case round =>
      clear hR hG r0 r1 r2 r3
      obtain ⟨x, hx1, hx2, rfl, rfl, hR, hG⟩ := hrel
      obtain ⟨r0, r1, r2, r3⟩ := hR.cells4
      go_wp2_with fail
      refine (right_nat X Y W H hXW hYH _).mono ?_
      rintro e wc ⟨rfl, hbc⟩
      have hR := hR.below hbc hR.lt
      have hG := hG.call hbc
      clear hbc r0 r1 r2 r3
      by_cases hxl : x < X + W
      ·have hxi : (x : Int) < (X : Int) + (W : Int) := by omega
       have b0 : (0 : Int) ≤ (y : Int) := by omega
       have b1 : (y : Int) < 16 := by omega
       have b2 : (0 : Int) ≤ (x : Int) := by omega
       have b3 : (x : Int) < 16 := by omega
       have hcell := hG.gr.cell (y * 16 + x) (by omega)
       have hfz := hG.gr.frozen (y * 16 + x)
       go_wp2_with fail
       go_roundg (X + W - (x + 1))
       case measure => omega
       case rel => exact ⟨x + 1, by omega, by omega, rfl, by go_num, hR.far (by simp; omega) _, (hG.set (y * 16 + x) true).congr (fun i _ => markG_set _ X Y W H y x i ⟨hx1, hxl⟩ ⟨hy1, hyl⟩ hXW)⟩
      ·obtain rfl : x = X + W := by omega
       go_wp2_with fail
       go_roundg (Y + H - (y + 1))
       case measure => omega
       case rel => exact ⟨y + 1, by omega, by omega, rfl, by go_num, hR, hG.congr (fun i _ => markG_row _ X Y W H y i)⟩
    ·obtain rfl : y = Y + H := by omega
     go_wp2_with fail
     go_roundg (n - (k + 1))
     case measure => omega
     case rel => exact ⟨k + 1, by omega, rfl, by go_num, hG.congr (fun i hi => mark_take L k r X Y W H Hr.out hI.out i hi)⟩
  ·obtain rfl : k = n := by omega
   have hG := hG.congr (g' := gridOf L) (fun i _ => by rw [List.take_of_length_le (by rw [← Hn.out]; exact Nat.le_refl _)])
   go_wp2_with fail
   refine wp_load_grid (Operand.tmp 3) rfl (w.heap.size + 1) (gridOf L) ?_ hG.gr ?_
   ·rfl
   have hgs := gCells_size (gridOf L)
   have s1 := storeCellsGrid hG.rs (gridOf L)
   go_wp2_with fail
   exact bodyPost_ret (v := .agg (gCells (gridOf L))) (results_cell_row rfl _ _ w.heap.size _ _ _ _ (by rfl) (hG.rs.row (g' := gridOf L)) Tryz.underlying153 rfl (sizeGrid _)) rfl ⟨rfl, below_setRow hG.bw (Nat.le_refl _) _⟩
end Go.Proofs.YtnndifemkichmaaGreat
namespace Go.Proofs.YtnndifemkichmaaGreat
open Go.RowKit
set_option maxHeartbeats 400000 in
set_option maxRecDepth 10000 in
theorem rowS (b : Nat) (g : Nat → Bool) (y z : Nat) (hy : y < 16) (hz : z < 16) (w : World) (hG : GrAt w b 4 g) :
  Calls Tryz.prog 241 #[.slice (some ⟨b, 0, none⟩) 256 256, .int .i64 y, .int .i64 z] w fun e w' => e = .returned (.bool (rowEq g y z)) ∧ ∃ q, w' = w.drewN q := by
 have HG := Lib.hid hG
 clear hG
 go_enter Tryz.func241, Tryz.ntmps241
 go_wp2_with fail
 go_loopw [7] (fun i wr => ∃ k : Nat, k ≤ 16 ∧ i = .int .i64 k ∧ (∀ j, j < k → g (y * 16 + j) = g (z * 16 + j)) ∧ ∃ q, wr = w.drewN q) (fun i _ => 16 - (intOf i).toNat)
 case atStart => exact ⟨0, Nat.zero_le _, rfl, fun j hj => by omega, 0, rfl⟩
 case round =>
  obtain ⟨k, hk, rfl, hall, q, rfl⟩ := hrel
  have Hall := Lib.hid hall
  clear hall
  by_cases hlt : k < 16
  ·have c1 := HG.out.cell (y * 16 + k) (by omega)
   have c2 := HG.out.cell (z * 16 + k) (by omega)
   obtain ⟨p, hp⟩ : ∃ p, p = g (y * 16 + k) := ⟨_, rfl⟩
   obtain ⟨r, hr⟩ : ∃ r, r = g (z * 16 + k) := ⟨_, rfl⟩
   rw [← hp] at c1
   rw [← hr] at c2
   have b0 : (0 : Int) ≤ (y : Int) * 16 + (k : Int) := by omega
   have b1 : (y : Int) * 16 + (k : Int) < 256 := by omega
   have b2 : (0 : Int) ≤ (z : Int) * 16 + (k : Int) := by omega
   have b3 : (z : Int) * 16 + (k : Int) < 256 := by omega
   have Hp := Lib.hid hp
   have Hr := Lib.hid hr
   clear hp hr
   by_cases hpr : p = r
   ·subst hpr
    go_wp2_with fail
    go_quiet (fail)
    go_wp2_with fail
    rename_i nq
    go_roundw
    case rel =>
     refine ⟨k + 1, by omega, by go_num, fun j hj => ?_, _, rfl⟩
     by_cases e : j < k
     ·exact Hall.out j e
     ·obtain rfl : j = k := by omega
      rw [← Hp.out, ← Hr.out]
    case measure => simp [intOf]; omega
   ·have hb : (p == r) = false := by rw [beq_eq_false_iff_ne]; exact hpr
    have hne : rowEq g y z = false := by
     rcases he : rowEq g y z with _ | _
     ·rfl
     ·exact absurd ((rowEq_iff g y z).1 he k hlt) (by rw [← Hp.out, ← Hr.out]; exact hpr)
    have Hne := Lib.hid hne
    clear hne hpr
    go_wp2_with fail
    go_quiet (fail)
    go_wp2_with fail
    go_ret
    exact ⟨ret_bool Hne.out.symm, q + _, by first | rfl | exact World.drewN_drewN _ _ _⟩
  ·obtain rfl : k = 16 := by omega
   have heq : rowEq g y z = true := (rowEq_iff g y z).2 Hall.out
   have Heq := Lib.hid heq
   clear heq
   go_wp2_with fail
   go_ret
   exact ⟨ret_bool Heq.out.symm, _, rfl⟩
end Go.Proofs.YtnndifemkichmaaGreat
namespace Go.Proofs.YtnndifemkichmaaGreat
theorem rowCnt_le (g : Nat → Bool) (y x : Nat) (hx : x ≤ 16) : rowCnt g y x ≤ 16 - (x : Int) ∧ 0 ≤ rowCnt g y x := by
 fun_induction rowCnt g y x with
 | case1 x h ih => have := ih (by omega); split <;> (push_cast at this; omega)
 | case2 x h => omega
theorem cntRows_le (g : Nat → Bool) (y : Nat) (hy : y ≤ 16) : cntRows g y ≤ 16 * (16 - (y : Int)) ∧ 0 ≤ cntRows g y := by
 fun_induction cntRows g y with
 | case1 y h ih => have := ih (by omega); have := rowCnt_le g y 0 (by omega); push_cast at this; omega
 | case2 y h => omega
theorem area_len (L : List Rc) (h : ∀ r ∈ L, OnScreen r) : (L.length : Int) ≤ areaL L := by
  induction L with
  | nil => simp [areaL]
  | cons r L ih =>
    have h1 := ih (fun s hs => h s (List.mem_cons_of_mem _ hs))
    have h2 := h r (List.mem_cons_self ..)
    unfold OnScreen at h2
    have h3 : 1 * 1 ≤ r.w * r.h := Int.mul_le_mul (by omega) (by omega) (by omega) (by omega)
    have h4 : areaL (r :: L) = r.w * r.h + areaL L := by simp [areaL]
    rw [h4, List.length_cons]
    push_cast
    omega
theorem canon_area (g : Nat → Bool) : areaL (canon g) = cntRows g 0 := area_bands g 0
theorem canon_len (g : Nat → Bool) : (canon g).length ≤ 256 := by
 have h1 := area_len (canon g) (bands_on g 0)
 have h2 := cntRows_le g 0 (by omega)
 rw [canon_area] at h1
 omega
theorem canon_part {g : Nat → Bool} {L M : List Rc} (h : canon g = L ++ M) : L.length ≤ 256 := by
 have := canon_len g
 rw [h, List.length_append] at this
 omega
theorem bands_open (g : Nat → Bool) (y h : Nat) (hy : y < 16) (hh : bandH g y = h) : bands g y = runs g y h 0 ++ bands g (y + h) := by
 rw [bands, if_pos hy, hh]
theorem bands_end (g : Nat → Bool) (y : Nat) (hy : 16 ≤ y) : bands g y = [] := by rw [bands, if_neg (by omega)]
theorem runs_open (g : Nat → Bool) (y h x u : Nat) (hx : x < 16) (hu : runW g y x = u) : runs g y h x = (if 0 < u then [⟨x, y, u, h⟩] else []) ++ runs g y h (x + u + 1) := by
 rw [runs, if_pos hx, hu]
theorem runs_end (g : Nat → Bool) (y h x : Nat) (hx : 16 ≤ x) : runs g y h x = [] := by rw [runs, if_neg (by omega)]
theorem bandFrom_go {g : Nat → Bool} {y h : Nat} (h1 : y + h < 16) (h2 : rowEq g y (y + h) = true) : bandFrom g y h = bandFrom g y (h + 1) := by
 conv => lhs; rw [bandFrom, if_pos ⟨h1, h2⟩]
theorem bandFrom_stop {g : Nat → Bool} {y h : Nat} (h1 : ¬ (y + h < 16 ∧ rowEq g y (y + h) = true)) : bandFrom g y h = h := by
 rw [bandFrom, if_neg h1]
theorem runFrom_go {g : Nat → Bool} {y x u : Nat} (h1 : x + u < 16) (h2 : g (y * 16 + (x + u)) = true) : runFrom g y x u = runFrom g y x (u + 1) := by
 conv => lhs; rw [runFrom, if_pos ⟨h1, h2⟩]
theorem runFrom_stop {g : Nat → Bool} {y x u : Nat} (h1 : ¬ (x + u < 16 ∧ g (y * 16 + (x + u)) = true)) : runFrom g y x u = u := by
 rw [runFrom, if_neg h1]
def bump : List Rc → List Rc
 | [] => []
 | [r] => [⟨r.x, r.y, r.w + 1, r.h⟩]
 | r :: s :: L => r :: bump (s :: L)
theorem bump_last (L : List Rc) (r : Rc) : bump (L ++ [r]) = L ++ [⟨r.x, r.y, r.w + 1, r.h⟩] := by
  induction L with
  | nil => rfl
  | cons s L ih =>
    cases L with
    | nil => rfl
    | cons t L => simp only [List.cons_append] at ih ⊢; rw [bump, ih]
def stepI (g : Nat → Bool) (y h : Nat) (out : List Rc) (n : Nat) : List Rc :=
 if g (y * 16 + n) = true then (if n = 0 ∨ g (y * 16 + (n - 1)) = false then out ++ [⟨n, y, 1, h⟩] else bump out) else out
def iterI (g : Nat → Bool) (y h : Nat) (out : List Rc) (n : Nat) : List Rc := if n < 16 then iterI g y h (stepI g y h out n) (n + 1) else out
termination_by 16 - n
theorem iterI_go (g : Nat → Bool) (y h : Nat) (out : List Rc) (n : Nat) (hn : n < 16) : iterI g y h out n = iterI g y h (stepI g y h out n) (n + 1) := by
 conv => lhs; rw [iterI, if_pos hn]
theorem iterI_end (g : Nat → Bool) (y h : Nat) (out : List Rc) (n : Nat) (hn : 16 ≤ n) : iterI g y h out n = out := by rw [iterI, if_neg (by omega)]
theorem stepI_no {g : Nat → Bool} {y h n : Nat} {out : List Rc} (h1 : g (y * 16 + n) = false) : stepI g y h out n = out := by
 unfold stepI; rw [if_neg (by rw [h1]; simp)]
theorem stepI_new {g : Nat → Bool} {y h n : Nat} {out : List Rc} (h1 : g (y * 16 + n) = true) (h2 : n = 0 ∨ g (y * 16 + (n - 1)) = false) : stepI g y h out n = out ++ [⟨n, y, 1, h⟩] := by
 unfold stepI; rw [if_pos h1, if_pos h2]
theorem stepI_more {g : Nat → Bool} {y h n : Nat} {out : List Rc} (h1 : g (y * 16 + n) = true) (h2 : ¬ (n = 0 ∨ g (y * 16 + (n - 1)) = false)) : stepI g y h out n = bump out := by
 unfold stepI; rw [if_pos h1, if_neg h2]
theorem iterI_run (g : Nat → Bool) (y h x w : Nat) (out : List Rc) (hx : x + w ≤ 16) (hg : ∀ p, x ≤ p → p < x + w → g (y * 16 + p) = true) (j : Nat) (h1 : 1 ≤ j) (h2 : j ≤ w) :
    iterI g y h (out ++ [⟨x, y, j, h⟩]) (x + j) = iterI g y h (out ++ [⟨x, y, w, h⟩]) (x + w) := by
  obtain ⟨d, hd⟩ : ∃ d, d = w - j := ⟨_, rfl⟩
  induction d generalizing j with
  | zero => obtain rfl : j = w := by omega
            rfl
  | succ d ih =>
    rw [iterI_go _ _ _ _ _ (by omega), stepI_more (hg _ (by omega) (by omega)), bump_last]
    · have := ih (j + 1) (by omega) (by omega) (by omega)
      push_cast at this
      exact this
    · rintro (h3 | h3)
      · omega
      · rw [hg _ (by omega) (by omega)] at h3; cases h3
theorem iterI_runs (g : Nat → Bool) (y h x : Nat) (out : List Rc) (hx : x = 0 ∨ x ≤ 16 ∧ g (y * 16 + (x - 1)) = false ∨ 16 < x) : iterI g y h out x = out ++ runs g y h x := by
  fun_induction runs g y h x generalizing out with
  | case1 x hlt ih =>
    have ht := runW_top g y x (by omega)
    have hin := fun p h1 h2 => runW_in g y x p h1 h2
    have hout := runW_out g y x
    obtain ⟨w, hw⟩ : ∃ w, w = runW g y x := ⟨_, rfl⟩
    rw [← hw] at ih ht hin hout ⊢
    have hafter : ∀ o : List Rc, iterI g y h o (x + w) = iterI g y h o (x + w + 1) := fun o => by
      by_cases h16 : x + w < 16
      · rw [iterI_go _ _ _ _ _ h16, stepI_no (hout h16)]
      · rw [iterI_end _ _ _ _ _ (by omega), iterI_end _ _ _ _ _ (by omega)]
    have hrest : ∀ o : List Rc, iterI g y h o (x + w + 1) = o ++ runs g y h (x + w + 1) := fun o => ih o (by
      by_cases h16 : x + w < 16
      · exact .inr (.inl ⟨by omega, by rw [show x + w + 1 - 1 = x + w by omega]; exact hout h16⟩)
      · exact .inr (.inr (by omega)))
    by_cases h0 : 0 < w
    · rw [if_pos h0, iterI_go _ _ _ _ _ hlt, stepI_new (hin x (by omega) (by omega)) (by
        rcases hx with hx | hx | hx
        · exact .inl hx
        · exact .inr hx.2
        · omega)]
      have := iterI_run g y h x w out ht hin 1 (by omega) (by omega)
      push_cast at this
      rw [this, hafter, hrest, List.append_assoc]
    · obtain rfl : w = 0 := by omega
      rw [if_neg (by omega), List.nil_append]
      have := hafter out
      simp only [Nat.add_zero] at this hrest ⊢
      rw [this, hrest]
  | case2 x hlt => rw [iterI_end _ _ _ _ _ (by omega), List.append_nil]
theorem iterI_all (g : Nat → Bool) (y h : Nat) : iterI g y h [] 0 = runs g y h 0 := by rw [iterI_runs g y h 0 [] (.inl rfl), List.nil_append]
end Go.Proofs.YtnndifemkichmaaGreat
namespace Go.Proofs.YtnndifemkichmaaGreat
open Go.RowKit
theorem infoRect : (Tryz.prog.info? 131).map (fun i => (i.zero, i.size, i.bytes)) = some (some (.agg #[.int .i64 0, .int .i64 0, .int .i64 0, .int .i64 0]), 4, 32) := by kernel_rfl
theorem rowS' (b : Nat) (g : Nat → Bool) (y z : Nat) (zi : Int) (hzi : zi = (z : Int)) (hy : y < 16) (hz : z < 16) (w : World) (hG : GrAt w b 4 g) :
  Calls Tryz.prog 241 #[.slice (some ⟨b, 0, none⟩) 256 256, .int .i64 y, .int .i64 zi] w fun e w' => e = .returned (.bool (rowEq g y z)) ∧ ∃ q, w' = w.drewN q := by
 subst hzi
 exact rowS b g y z hy hz w hG
def CanAns (g : Nat → Bool) (w : World) (e : Ending) (w' : World) : Prop :=
 ∃ v, e = .returned (.agg #[v]) ∧ w'.ownsRow w.heap.size 131 4 v (canon g).length (rcsCells (canon g)) ∧ Below w.heap.size w w'
structure CaSt (w : World) (b : Nat) (g : Nat → Bool) (v : Value) (L : List Rc) (wr : World) : Prop where
 rs : wr.heap[w.heap.size]? = some (.cells #[.slice none 0 0] 55 (0, 0))
 out : wr.heap[w.heap.size + 1]? = some (.cells #[v] 55 (0, 0))
 own : wr.ownsRow (w.heap.size + 2) 131 4 v L.length (rcsCells L)
 gr : GrAt wr b 4 g
 bl : b < w.heap.size
 bw : Below w.heap.size w wr
theorem CaSt.drewN {w wr : World} {b : Nat} {g : Nat → Bool} {v : Value} {L : List Rc} (h : CaSt w b g v L wr) (q : Nat) : CaSt w b g v L (wr.drewN q) :=
 ⟨h.rs, h.out, own_drewN h.own q, h.gr.drewN q, h.bl, below_drewN h.bw q⟩
theorem CaSt.size {w wr : World} {b : Nat} {g : Nat → Bool} {v : Value} {L : List Rc} (h : CaSt w b g v L wr) : w.heap.size + 1 < wr.heap.size := (Array.getElem?_eq_some_iff.1 h.out).1
theorem CaSt.cell {w wr : World} {b : Nat} {g : Nat → Bool} {v : Value} {L : List Rc} (h : CaSt w b g v L wr) : wr.cell? ⟨w.heap.size + 1, 0, none⟩ = some v := by
 have := h.out; simp [World.cell?, this]
theorem CaSt.frozen {w wr : World} {b : Nat} {g : Nat → Bool} {v : Value} {L : List Rc} (h : CaSt w b g v L wr) : wr.frozen? ⟨w.heap.size + 1, 0, none⟩ = false := by
 have := h.out; simp [World.frozen?, this]
theorem CaSt.rcell {w wr : World} {b : Nat} {g : Nat → Bool} {v : Value} {L : List Rc} (h : CaSt w b g v L wr) : wr.cell? ⟨w.heap.size, 0, none⟩ = some (.slice none 0 0) := by
 have := h.rs; simp [World.cell?, this]
theorem CaSt.rfrozen {w wr : World} {b : Nat} {g : Nat → Bool} {v : Value} {L : List Rc} (h : CaSt w b g v L wr) : wr.frozen? ⟨w.heap.size, 0, none⟩ = false := by
 have := h.rs; simp [World.frozen?, this]
theorem grown_setc (w : World) (g o : Nat) (v : Value) : w.grownBy (w.setCell ⟨g, o, none⟩ v) (some g) :=
 ⟨rfl, rfl, rfl, by simp [World.setCell], fun k hk hne => Below.heap_setCell w _ v k (by simpa using hne)⟩
theorem heap_set0 {w : World} {g : Nat} {s : Value} {T : TypeId} (hg : w.heap[g]? = some (.cells #[s] T (0, 0))) (v : Value) :
  (w.setCell ⟨g, 0, none⟩ v).heap[g]? = some (.cells #[v] T (0, 0)) := by rw [heap_setCell_same w g 0 _ T v hg]; rfl
theorem CaSt.next {w wr w2 : World} {b : Nat} {g : Nat → Bool} {v v' : Value} {L : List Rc} {o : Obj} (h : CaSt w b g v L wr) (r : Rc)
  (hown : w2.ownsRow (w.heap.size + 2) 131 4 v' (L.length + 1) (rcsCells L ++ rcCells r)) (hgr : (wr.alloc o).grownBy w2 v.ownBlock) :
  CaSt w b g v' (L ++ [r]) (w2.setCell ⟨w.heap.size + 1, 0, none⟩ v') := by
 have hlow : ∀ k, k < w.heap.size + 2 → some k ≠ v.ownBlock := fun k hk e => by have := (h.own.lt k e.symm).1; omega
 have hs := h.size
 have hk : ∀ k, k < w.heap.size + 2 → w2.heap[k]? = wr.heap[k]? := fun k hk => (hgr.block k (by simp; omega) (hlow k hk)).trans (Below.heap_alloc wr o k (by omega))
 refine ⟨?_, heap_set0 ((hk _ (by omega)).trans h.out) v', ?_, ?_, h.bl, ?_⟩
 ·exact (Below.heap_setCell w2 _ v' _ (by simp)).trans ((hk _ (by omega)).trans h.rs)
 ·have := hown.kept (row := some (w.heap.size + 1)) (w' := w2.setCell ⟨w.heap.size + 1, 0, none⟩ v') (grown_setc w2 _ _ v') (by
   by_cases hv : v'.ownBlock = none
   ·exact .inl hv
   ·refine .inr fun e => ?_
    have := (hown.lt _ e).1
    omega)
  rw [List.length_append, rcsCells_append, rcsCells_one]
  exact this
 ·exact (Below.heap_setCell w2 _ v' _ (by have := h.bl; simp; omega)).trans ((hk _ (by have := h.bl; omega)).trans h.gr)
 ·exact ((h.bw.alloc h.bw.size o).grown hgr (by have := h.bw.size; simp; omega) (fun k hk => by have := (h.own.lt k hk).1; omega)).setCell (by simp) _
theorem CaSt.form {w wr : World} {b : Nat} {g : Nat → Bool} {v : Value} {L : List Rc} (h : CaSt w b g v L wr) : ∃ A n c, v = .slice A n c := by
 obtain ⟨A, c, rfl⟩ := (RdR.of_own h.own).form
 exact ⟨A, _, c, rfl⟩
theorem CaSt.mid {w wr w2 : World} {b : Nat} {g : Nat → Bool} {v : Value} {L : List Rc} {o : Obj} (h : CaSt w b g v L wr) (hgr : (wr.alloc o).grownBy w2 v.ownBlock) :
  w2.cell? ⟨w.heap.size + 1, 0, none⟩ = some v ∧ w2.frozen? ⟨w.heap.size + 1, 0, none⟩ = false := by
 have hs := h.size
 have hk : w2.heap[w.heap.size + 1]? = wr.heap[w.heap.size + 1]? := (hgr.block _ (by simp; omega) (fun e => by have := (h.own.lt _ e.symm).1; omega)).trans (Below.heap_alloc wr o _ (by omega))
 have := hk.trans h.out
 exact ⟨by simp [World.cell?, this], by simp [World.frozen?, this]⟩
set_option maxHeartbeats 2000000 in
set_option maxRecDepth 10000 in
theorem canS (b : Nat) (g : Nat → Bool) (w : World) (hG : GrAt w b 4 g) : Calls Tryz.prog 212 #[.slice (some ⟨b, 0, none⟩) 256 256] w (CanAns g w) := by
  have hbl := hG.lt
  obtain ⟨i0, hi, hz0, hz1, hz2⟩ := info_parts infoRect
  have hS0 : CaSt w b g (.slice none 0 0) [] ((w.alloc (.cells #[.slice none 0 0] 55)).alloc (.cells #[.slice none 0 0] 55)) :=
    ⟨(Below.heap_alloc _ _ _ (by simp)).trans (heap_alloc_new w _), by have := heap_alloc_new (w.alloc (.cells #[.slice none 0 0] 55)) (.cells #[.slice none 0 0] 55); simpa using this,
      World.ownsRow_nil _ _ _ _, (hG.alloc _).alloc _, hbl, ((Below.refl _ _).alloc (Nat.le_refl _) _).alloc (by simp) _⟩
  clear hG
  go_enter Tryz.func212, Tryz.ntmps212
  go_wp2_with fail
  go_loopg [4] 16 (fun gk i wr => ∃ (y : Nat) (v : Value) (L : List Rc), y ≤ 16 ∧ gk = 16 - y ∧ i = .int .i64 y ∧ Hid (canon g = L ++ bands g y) ∧ CaSt w b g v L wr)
  case atStart => exact ⟨0, _, [], Nat.zero_le _, rfl, rfl, Lib.hid rfl, hS0⟩
  case round =>
    clear hS0
    obtain ⟨y, v, L, hy, rfl, rfl, hB, hS⟩ := hrel
    by_cases hy16 : y < 16
    · have hy16i : (y : Int) < 16 := by omega
      go_wp2_with fail
      go_loopg [5] 15 (fun g2 i2 wy => ∃ h : Nat, 1 ≤ h ∧ y + h ≤ 16 ∧ g2 = 16 - h ∧ i2 = .int .i64 h ∧ Hid (bandFrom g y h = bandH g y) ∧ CaSt w b g v L wy)
      case atStart => exact ⟨1, Nat.le_refl _, by omega, by omega, rfl, Lib.hid rfl, hS⟩
      case round =>
        clear hS
        obtain ⟨h, hh1, hh2, rfl, rfl, hH, hS⟩ := hrel
        by_cases hc : y + h < 16 ∧ rowEq g y (y + h) = true
        · have hyh := hc.1
          have hyi : (y : Int) + (h : Int) < 16 := by omega
          have Hre := Lib.hid hc.2
          clear hc
          go_wp2_with fail
          refine (rowS' b g y (y + h) _ (by omega) (by omega) (by omega) _ hS.gr).mono ?_
          rintro e w1 ⟨rfl, q, rfl⟩
          rw [Hre.out]
          go_wp2_with fail
          go_roundg (16 - (h + 1))
          case measure => omega
          case rel => exact ⟨h + 1, by omega, by omega, rfl, by go_num, Lib.hid ((bandFrom_go hyh Hre.out).symm.trans hH.out), hS.drewN q⟩
        · have hB2 : Hid (canon g = L ++ (runs g y h 0 ++ bands g (y + h))) := Lib.hid (by rw [hB.out, bands_open g y h hy16 (hH.out.symm.trans (bandFrom_stop hc))])
          have Hc := Lib.hid hc
          clear hc hB hH
          (by_cases hyh : y + h < 16)
          (have hyi : (y : Int) + (h : Int) < 16 := by omega
           have hre : rowEq g y (y + h) = false := by
            rcases e : rowEq g y (y + h) with _ | _
            · rfl
            · exact absurd ⟨hyh, e⟩ Hc.out
           have Hre := Lib.hid hre
           clear hre
           go_wp2_with fail
           refine (rowS' b g y (y + h) _ (by omega) (by omega) (by omega) _ hS.gr).mono ?_
           rintro e w1 ⟨rfl, q, rfl⟩
           rw [Hre.out]
           have hS := hS.drewN q
           clear hyi
           go_wp2_with fail)
          rotate_left
          (have hyi : ¬ (y : Int) + (h : Int) < 16 := by omega
           go_wp2_with fail)
          all_goals
            go_loopg [6] 17 (fun g3 i3 wx => ∃ (x : Nat) (v : Value) (L : List Rc), x ≤ 17 ∧ g3 = 17 - x ∧ i3 = .int .i64 x ∧ Hid (canon g = L ++ (runs g y h x ++ bands g (y + h))) ∧ CaSt w b g v L wx)
            case atStart => exact ⟨0, v, L, by omega, rfl, rfl, hB2, hS⟩
            case round =>
              clear hS hB2
              obtain ⟨x, v, L, hx, rfl, rfl, hB3, hS⟩ := hrel
              by_cases hx16 : x < 16
              · have hxi : (x : Int) < 16 := by omega
                go_wp2_with fail
                go_loopg [7] 16 (fun g4 i4 wu => ∃ u : Nat, x + u ≤ 16 ∧ g4 = 16 - u ∧ i4 = .int .i64 u ∧ Hid (runFrom g y x u = runW g y x) ∧ CaSt w b g v L wu)
                case atStart => exact ⟨0, by omega, rfl, rfl, Lib.hid rfl, hS⟩
                case round =>
                  clear hS
                  obtain ⟨u, hu1, rfl, rfl, hU, hS⟩ := hrel
                  by_cases hc : x + u < 16 ∧ g (y * 16 + (x + u)) = true
                  · have hxui : (x : Int) + (u : Int) < 16 := by omega
                    have b0 : (0 : Int) ≤ (y : Int) * 16 + (x : Int) + (u : Int) := by omega
                    have b1 : (y : Int) * 16 + (x : Int) + (u : Int) < 256 := by omega
                    have hcell := hS.gr.cell (y * 16 + x + u) (by omega)
                    rw [show g (y * 16 + x + u) = true by rw [Nat.add_assoc]; exact hc.2] at hcell
                    have Hc := Lib.hid hc
                    clear hc
                    go_wp2_with fail
                    go_roundg (16 - (u + 1))
                    case measure => omega
                    case rel => exact ⟨u + 1, by omega, rfl, by go_num, Lib.hid ((runFrom_go Hc.out.1 Hc.out.2).symm.trans hU.out), hS⟩
                  · have hB4 : Hid (canon g = L ++ (((if 0 < u then [⟨x, y, u, h⟩] else []) ++ runs g y h (x + u + 1)) ++ bands g (y + h))) :=
                      Lib.hid (by rw [hB3.out, runs_open g y h x u hx16 (hU.out.symm.trans (runFrom_stop hc))])
                    have hLl : L.length ≤ 256 := canon_part hB4.out
                    have Hc := Lib.hid hc
                    have oc := hS.cell
                    have of := hS.frozen
                    clear hc hB3 hU
                    by_cases hu0 : 0 < u
                    · rw [if_pos hu0] at hB4
                      have hu0i : (0 : Int) < (u : Int) := by omega
                      (by_cases hxu : x + u < 16)
                      (have hxui : (x : Int) + (u : Int) < 16 := by omega
                       have b0 : (0 : Int) ≤ (y : Int) * 16 + (x : Int) + (u : Int) := by omega
                       have b1 : (y : Int) * 16 + (x : Int) + (u : Int) < 256 := by omega
                       have hcell := hS.gr.cell (y * 16 + x + u) (by omega)
                       rw [show g (y * 16 + x + u) = false by
                        rw [Nat.add_assoc]
                        rcases e : g (y * 16 + (x + u)) with _ | _
                        · rfl
                        · exact absurd ⟨hxu, e⟩ Hc.out] at hcell)
                      rotate_left
                      (have hxui : ¬ (x : Int) + (u : Int) < 16 := by omega)
                      all_goals
                        go_wp2_with (at_builtin; refine wpList_append_own _ rfl _ _ 53 rfl (w.heap.size + 2) 131 i0 (.agg #[.int .i64 0, .int .i64 0, .int .i64 0, .int .i64 0]) 4 32 Tryz.underlying53 hi hz0 hz1 hz2 rfl (by decide) _ _ _ rfl (hS.own.alloc _) ⟨_, 0, none⟩ 1 1 _ rfl rfl (World.news_of_block (cs := #[.int .i64 x, .int .i64 y, .int .i64 u, .int .i64 h]) (fr := (0, 0)) (heap_alloc_new _ _)) (by intro u' hu'; simp at hu'; rcases hu' with rfl | rfl | rfl | rfl <;> rfl) (by unfold maxLen; omega) (by omega) (by have := hS.size; simp; omega) ?_)
                        intro v2 w2 hown2 hgrow _
                        obtain ⟨gq, cq, hvq, _, _⟩ := hown2.form (by omega)
                        subst hvq
                        obtain ⟨oc2, of2⟩ := hS.mid hgrow
                        have hS := hS.next ⟨x, y, u, h⟩ hown2 hgrow
                        clear hown2 hgrow oc of
                        go_wp2_with fail
                        go_roundg (17 - (x + u + 1))
                        case measure => omega
                        case rel => exact ⟨x + u + 1, _, L ++ [⟨x, y, u, h⟩], by omega, rfl, by go_num, Lib.hid (by rw [hB4.out]; simp only [List.append_assoc]), hS⟩
                    · obtain rfl : u = 0 := by omega
                      rw [if_neg (by omega), List.nil_append] at hB4
                      have b0 : (0 : Int) ≤ (y : Int) * 16 + (x : Int) := by omega
                      have b1 : (y : Int) * 16 + (x : Int) < 256 := by omega
                      have hcell := hS.gr.cell (y * 16 + x) (by omega)
                      rw [show g (y * 16 + x) = false by
                        rcases e : g (y * 16 + x) with _ | _
                        · rfl
                        · exact absurd ⟨hx16, e⟩ Hc.out] at hcell
                      go_wp2_with fail
                      go_roundg (17 - (x + 0 + 1))
                      case measure => omega
                      case rel => exact ⟨x + 0 + 1, v, L, by omega, rfl, by go_num, hB4, hS⟩
              · have hxi : ¬ (x : Int) < 16 := by omega
                go_wp2_with fail
                go_roundg (16 - (y + h))
                case measure => omega
                case rel => exact ⟨y + h, v, L, by omega, rfl, by go_num, Lib.hid (by rw [hB3.out, runs_end g y h x (by omega), List.nil_append]), hS⟩
    · obtain ⟨A, nv, cv, rfl⟩ := hS.form
      have hy16i : ¬ (y : Int) < 16 := by omega
      have hB2 : L = canon g := by rw [hB.out, bands_end g y (by omega), List.append_nil]
      have oc := hS.cell
      have of := hS.frozen
      have rc := hS.rcell
      have rf := hS.rfrozen
      have hsz := hS.size
      go_wp2_with fail
      exact bodyPost_ret (v := .agg #[.slice A nv cv]) (by simp [results, Tryz.results212, go_sem, rc]) rfl ⟨_, rfl, by
        have h1 := (hS.own.mono (show w.heap.size ≤ w.heap.size + 2 by omega)).kept (row := some w.heap.size) (grown_setc wr _ 0 (.slice A nv cv)) (by
          by_cases hv : (Value.slice A nv cv).ownBlock = none
          · exact .inl hv
          · refine .inr fun e => ?_
            have := (hS.own.lt _ e).1
            omega)
        rw [hB2] at h1
        exact h1, hS.bw.setCell (Nat.le_refl _) _⟩
end Go.Proofs.YtnndifemkichmaaGreat
namespace Go.Proofs.YtnndifemkichmaaGreat
open Go.RowKit
def rowCells0 (g : Nat → Bool) (y : Nat) : Array Value := Array.ofFn (n := 16) fun i => .bool (g (y * 16 + i.val))
theorem rowCells_ex (g : Nat → Bool) (y : Nat) : ∃ c : Array Value, c = rowCells0 g y := ⟨_, rfl⟩
noncomputable def rowCells (g : Nat → Bool) (y : Nat) : Array Value := Classical.choose (rowCells_ex g y)
theorem rowCells_eq (g : Nat → Bool) (y : Nat) : rowCells g y = rowCells0 g y := Classical.choose_spec (rowCells_ex g y)
theorem rowCells_size (g : Nat → Bool) (y : Nat) : (rowCells g y).size = 16 := by rw [rowCells_eq]; simp [rowCells0]
theorem rowCells_get (g : Nat → Bool) (y k : Nat) (h : k < 16) : (rowCells g y)[k]? = some (.bool (g (y * 16 + k))) := by rw [rowCells_eq]; simp [rowCells0, h]
theorem GrAt.row_at {w : World} {b : Nat} {t : TypeId} {g : Nat → Bool} (h : GrAt w b t g) (y : Nat) (hy : y < 16) : w.rangeAt b (y * 16) (rowCells g y).toList := fun j v hv => by
 have hj : j < 16 := by have := (List.getElem?_eq_some_iff.1 hv).1; rw [Array.length_toList, rowCells_size] at this; exact this
 rw [Array.getElem?_toList, rowCells_get g y j hj] at hv
 rw [h.cell (y * 16 + j) (by omega), hv]
theorem infoRow : (Tryz.prog.info? 151).map (·.size) = some 16 := by kernel_rfl
theorem wp_load_gridrow {op : Oper} {a : Act} {w : World} {K : Act → World → Prop} {Q : Exit → Act → World → Prop} (x : Operand) (ho : op.op = .load 151 x)
  (b y : Nat) (g : Nat → Bool) (t : TypeId) (hy : y < 16) (hx : a.eval x = .pointer (some ⟨b, y * 16, none⟩)) (hG : GrAt w b t g)
  (h : K (a.put op.dst (.agg (rowCells g y))) w) : op.wp Tryz.prog a w K Q :=
 wp_load_mid 151 x ho b (y * 16) hx (rowCells g y).toList _ (hG.row_at y hy) Tryz.underlying151 rfl (by rw [Array.length_toList, rowCells_size]; exact infoRow) (by simpa using h)
def RowAt (w : World) (b : Nat) (g : Nat → Bool) (y : Nat) : Prop := w.heap[b]? = some (.cells (rowCells g y) 151 (0, 0))
theorem RowAt.lt {w : World} {b y : Nat} {g : Nat → Bool} (h : RowAt w b g y) : b < w.heap.size := (Array.getElem?_eq_some_iff.1 h).1
theorem RowAt.cell {w : World} {b y : Nat} {g : Nat → Bool} (h : RowAt w b g y) (k : Nat) (hk : k < 16) : w.cell? ⟨b, k, none⟩ = some (.bool (g (y * 16 + k))) := by
 rw [cell_of_row w b k _ _ _ h, rowCells_get g y k hk]
theorem index_row (g : Nat → Bool) (y k : Nat) (hk : k < 16) (w : World) : (Instr.index 151 (.agg (rowCells g y)) (.int .i64 (k : Int))).run Tryz.prog w = .ok (.bool (g (y * 16 + k))) w := by
 have hn : 0 ≤ (k : Int) ∧ (k : Int) < ((16 : Nat) : Int) := by omega
 have hg := rowCells_get g y k hk
 simp [Instr.index, run_underlying Tryz.underlying151, asIntOf, hn, go_sem, hg]
 intro h16
 omega
structure RunInv (g : Nat → Bool) (y h : Nat) (out : List Rc) (k : Nat) : Prop where
 it : iterI g y h out k = runs g y h 0
 wd : ∀ r ∈ out, 0 ≤ r.w ∧ r.w ≤ k
 ne : 0 < k → g (y * 16 + (k - 1)) = true → out ≠ []
 ln : out.length ≤ k
theorem RunInv.start (g : Nat → Bool) (y h : Nat) : RunInv g y h [] 0 := ⟨iterI_all g y h, fun r hr => (by cases hr), fun h0 => (by omega), Nat.le_refl _⟩
theorem RunInv.no {g : Nat → Bool} {y h k : Nat} {out : List Rc} (i : RunInv g y h out k) (hk : k < 16) (hg : g (y * 16 + k) = false) : RunInv g y h out (k + 1) := by
 refine ⟨by rw [← i.it, iterI_go _ _ _ _ _ hk, stepI_no hg], fun r hr => ?_, fun _ h1 => ?_, ?_⟩
 ·have := i.wd r hr; push_cast; omega
 ·rw [show k + 1 - 1 = k by omega, hg] at h1; cases h1
 ·have := i.ln; omega
theorem RunInv.new {g : Nat → Bool} {y h k : Nat} {out : List Rc} (i : RunInv g y h out k) (hk : k < 16) (hg : g (y * 16 + k) = true) (hp : k = 0 ∨ g (y * 16 + (k - 1)) = false) : RunInv g y h (out ++ [⟨k, y, 0 + 1, h⟩]) (k + 1) := by
 refine ⟨by rw [← i.it, iterI_go _ _ _ _ _ hk, stepI_new hg hp]; rfl, fun r hr => ?_, fun _ _ => by simp, ?_⟩
 ·rcases List.mem_append.1 hr with hr | hr
  ·have := i.wd r hr; push_cast; omega
  ·obtain rfl := List.mem_singleton.1 hr
   show (0 : Int) ≤ 0 + 1 ∧ (0 : Int) + 1 ≤ ((k + 1 : Nat) : Int)
   constructor <;> omega
 ·have := i.ln; rw [List.length_append, List.length_singleton]; omega
theorem RunInv.more {g : Nat → Bool} {y h k : Nat} {out : List Rc} (i : RunInv g y h out k) (hk : k < 16) (hg : g (y * 16 + k) = true) (h0 : 0 < k) (hp : g (y * 16 + (k - 1)) = true) :
  ∃ (o : List Rc) (r : Rc), out = o ++ [r] ∧ 0 ≤ r.w ∧ r.w ≤ k ∧ RunInv g y h (o ++ [⟨r.x, r.y, r.w + 1, r.h⟩]) (k + 1) := by
 have hne := i.ne h0 hp
 have hw := i.wd (out.getLast hne) (List.getLast_mem hne)
 have e := (List.dropLast_concat_getLast hne).symm
 refine ⟨out.dropLast, out.getLast hne, e, hw.1, hw.2, ?_, fun r hr => ?_, fun _ _ => by simp, ?_⟩
 ·rw [← i.it, iterI_go _ _ _ _ _ hk, stepI_more hg (fun hx => hx.elim (fun h1 => by omega) (fun h1 => by rw [hp] at h1; cases h1))]
  conv => rhs; rw [e]
  rw [bump_last]
 ·rcases List.mem_append.1 hr with hr | hr
  ·have := i.wd r ((List.dropLast_sublist out).subset hr); push_cast; omega
  ·obtain rfl := List.mem_singleton.1 hr
   show (0 : Int) ≤ (out.getLast hne).w + 1 ∧ (out.getLast hne).w + 1 ≤ ((k + 1 : Nat) : Int)
   constructor <;> omega
 ·have := i.ln
  have h2 := congrArg List.length e
  rw [List.length_append] at h2 ⊢
  simp only [List.length_singleton] at h2 ⊢
  omega
theorem RunInv.done {g : Nat → Bool} {y h k : Nat} {out : List Rc} (i : RunInv g y h out k) (hk : 16 ≤ k) : out = runs g y h 0 := by rw [← i.it, iterI_end _ _ _ _ _ hk]
theorem rcs_bump (o : List Rc) (r : Rc) : (rcsCells (o ++ [r])).set (o.length * 4 + 2) (.int .i64 (r.w + 1)) = rcsCells (o ++ [⟨r.x, r.y, r.w + 1, r.h⟩]) := by
 rw [rcsCells_append, rcsCells_append, rcsCells_one, rcsCells_one, List.set_append_right _ _ (by rw [rcsCells_length]; omega), rcsCells_length]
 congr 1
 rw [show o.length * 4 + 2 - o.length * 4 = 2 by omega]
 rfl
theorem rcs_last (o : List Rc) (r : Rc) : (rcsCells (o ++ [r]))[o.length * 4 + 2]? = some (.int .i64 r.w) := by
 rw [rcs_get (o ++ [r]) o.length 2 r (by simp) (by omega)]
 rfl
end Go.Proofs.YtnndifemkichmaaGreat
namespace Go.Proofs.YtnndifemkichmaaGreat
open Go.RowKit
def RunAns (g : Nat → Bool) (y h : Nat) (w : World) (e : Ending) (w' : World) : Prop :=
 ∃ v, e = .returned v ∧ w'.ownsRow w.heap.size 131 4 v (runs g y h 0).length (rcsCells (runs g y h 0)) ∧ Below w.heap.size w w'
structure RnSt (w : World) (g : Nat → Bool) (y : Nat) (v : Value) (L : List Rc) (wr : World) : Prop where
 rw : RowAt wr w.heap.size g y
 own : wr.ownsRow (w.heap.size + 1) 131 4 v L.length (rcsCells L)
 bw : Below w.heap.size w wr
theorem RnSt.grown {w wr w2 : World} {y : Nat} {g : Nat → Bool} {v v' : Value} {L L' : List Rc} (h : RnSt w g y v L wr)
  (hown : w2.ownsRow (w.heap.size + 1) 131 4 v' L'.length (rcsCells L')) (hgr : wr.grownBy w2 v.ownBlock) : RnSt w g y v' L' w2 :=
 ⟨(hgr.block _ h.rw.lt (fun e => by have := (h.own.lt _ e.symm).1; omega)).trans h.rw, hown, h.bw.grown hgr h.bw.size (fun k hk => by have := (h.own.lt k hk).1; omega)⟩
theorem RnSt.bumped {w wx : World} {y : Nat} {g : Nat → Bool} {gq cq m : Nat} {o : List Rc} {r : Rc} (hm : m = o.length) (hrow : RowAt wx w.heap.size g y) (hbw : Below w.heap.size w wx)
  (hown : wx.ownsRow (w.heap.size + 1) 131 4 (.slice (some ⟨gq, 0, none⟩) (m + 1) cq) (m + 1) (rcsCells (o ++ [r]))) :
  RnSt w g y (.slice (some ⟨gq, 0, none⟩) (m + 1) cq) (o ++ [⟨r.x, r.y, r.w + 1, r.h⟩]) (wx.setCell ⟨gq, m * 4 + 2, none⟩ (.int .i64 (r.w + 1))) := by
 subst hm
 obtain ⟨h1, h2⟩ := hown.stored (o.length * 4 + 2) (.int .i64 (r.w + 1))
 rw [rcs_bump] at h1
 have hg := (hown.lt gq rfl).1
 refine ⟨(Below.heap_setCell wx _ _ _ (by simp; omega)).trans hrow, ?_, hbw.setCell (by simp; omega) _⟩
 rw [List.length_append, List.length_singleton]
 exact h1
theorem own_last {w wx : World} {gq cq m : Nat} {o : List Rc} {r : Rc} (hm : m = o.length)
  (hown : wx.ownsRow (w.heap.size + 1) 131 4 (.slice (some ⟨gq, 0, none⟩) (m + 1) cq) (m + 1) (rcsCells (o ++ [r]))) :
  wx.cell? ⟨gq, m * 4 + 2, none⟩ = some (.int .i64 r.w) ∧ wx.frozen? ⟨gq, m * 4 + 2, none⟩ = false := by
 subst hm
 exact ⟨(hown.cellAt (o.length * 4 + 2) (by omega)).trans (rcs_last o r), hown.frozenAt _⟩
set_option maxHeartbeats 2000000 in
set_option maxRecDepth 10000 in
theorem runI (g : Nat → Bool) (y h : Nat) (w : World) : Calls Tryz.prog 187 #[.agg (rowCells g y), .int .i64 y, .int .i64 h] w (RunAns g y h w) := by
  obtain ⟨i0, hi, hz0, hz1, hz2⟩ := info_parts infoRect
  have hS0 : RnSt w g y (.slice none 0 0) [] (w.alloc (.cells (rowCells g y) 151)) := ⟨heap_alloc_new w _, World.ownsRow_nil _ _ _ _, (Below.refl _ _).alloc (Nat.le_refl _) _⟩
  go_enter Tryz.func187, Tryz.ntmps187
  go_wp2_with (refine wpList_load_row rfl 151 (.tmp 3) rfl w.heap.size rfl _ _ _ _ hS0.rw Tryz.underlying151 rfl (by rw [rowCells_size]; exact infoRow) ?_)
  go_loopg [7, 11] 16 (fun gk s7 i wr => ∃ (k : Nat) (v : Value) (L : List Rc), k ≤ 16 ∧ gk = 16 - k ∧ s7 = v ∧ i = .int .i64 k ∧ Hid (RunInv g y h L k) ∧ RnSt w g y v L wr)
  case atStart => exact ⟨0, _, [], Nat.zero_le _, rfl, rfl, rfl, Lib.hid (RunInv.start g y h), hS0⟩
  case round =>
    clear hS0
    obtain ⟨k, v, L, hk, rfl, rfl, rfl, hI, hS⟩ := hrel
    by_cases hk16 : k < 16
    · have hki : (k : Int) < 16 := by omega
      have hk0 : (0 : Int) ≤ (k : Int) := by omega
      have hix := index_row g y k hk16 wr
      obtain ⟨p, hp⟩ : ∃ p, p = g (y * 16 + k) := ⟨_, rfl⟩
      rw [← hp] at hix
      have Hp := Lib.hid hp.symm
      clear hp
      have hln := hI.out.ln
      cases p
      · go_wp2_with fail
        go_roundg (16 - (k + 1))
        case measure => omega
        case rel => exact ⟨k + 1, _, L, by omega, rfl, rfl, by go_num, Lib.hid (hI.out.no hk16 Hp.out), hS⟩
      · have hk0' := hk0
        by_cases hnew : k = 0 ∨ g (y * 16 + (k - 1)) = false
        · have hI2 : Hid (RunInv g y h (L ++ [⟨(k : Nat), y, 0 + 1, h⟩]) (k + 1)) := Lib.hid (hI.out.new hk16 Hp.out hnew)
          have Hnew := Lib.hid hnew
          clear hnew
          (by_cases hz : k = 0)
          (have hzb : ((k : Int) == 0) = true := by rw [beq_iff_eq]; omega
           clear hz)
          rotate_left
          (have hzb : ((k : Int) == 0) = false := by rw [beq_eq_false_iff_ne]; omega
           have hprev := hS.rw.cell (k - 1) (by omega)
           rw [show g (y * 16 + (k - 1)) = false from Hnew.out.resolve_left hz] at hprev
           have hk1 : (0 : Int) ≤ (k : Int) - 1 := by omega
           have hk2 : (k : Int) - 1 < 16 := by omega)
          all_goals
            go_wp2_with (at_builtin; refine wpList_append_own _ rfl _ _ 53 rfl (w.heap.size + 1) 131 i0 (.agg #[.int .i64 0, .int .i64 0, .int .i64 0, .int .i64 0]) 4 32 Tryz.underlying53 hi hz0 hz1 hz2 rfl (by decide) _ _ _ rfl (hS.own.alloc _) ⟨_, 0, none⟩ 1 1 _ rfl rfl (World.news_of_block (cs := #[.int .i64 k, .int .i64 y, .int .i64 0, .int .i64 h]) (fr := (0, 0)) (heap_alloc_new _ _)) (by intro u' hu'; simp at hu'; rcases hu' with rfl | rfl | rfl | rfl <;> rfl) (by unfold maxLen; omega) (by omega) (by have := hS.bw.size; have := hS.rw.lt; simp; omega) ?_)
            intro v2 w2 hown2 hgrow _
            obtain ⟨gq, cq, hvq, _, _⟩ := hown2.form (by omega)
            subst hvq
            have hrow : RowAt w2 w.heap.size g y := (hgrow.block _ (by have := hS.rw.lt; simp; omega) (fun e => by have := (hS.own.lt _ e.symm).1; omega)).trans ((Below.heap_alloc wr _ _ hS.rw.lt).trans hS.rw)
            have hbw : Below w.heap.size w w2 := (hS.bw.alloc hS.bw.size _).grown hgrow (by have := hS.bw.size; simp; omega) (fun k hk => by have := (hS.own.lt k hk).1; omega)
            have hown3 : w2.ownsRow (w.heap.size + 1) 131 4 (.slice (some ⟨gq, 0, none⟩) (L.length + 1) cq) (L.length + 1) (rcsCells (L ++ [⟨k, y, 0, h⟩])) := by rw [rcsCells_append, rcsCells_one]; exact hown2
            obtain ⟨lc, lf⟩ := own_last rfl hown3
            have HS := Lib.hid (RnSt.bumped rfl hrow hbw hown3)
            clear hown2 hown3 hgrow hrow hbw
            go_wp2_with fail
            go_roundg (16 - (k + 1))
            case measure => omega
            case rel => exact ⟨k + 1, _, L ++ [⟨(k : Nat), y, 0 + 1, h⟩], by omega, rfl, rfl, by go_num, hI2, HS.out⟩
        · have hz : ¬ k = 0 := fun e => hnew (.inl e)
          have hpt : g (y * 16 + (k - 1)) = true := by
            rcases e : g (y * 16 + (k - 1)) with _ | _
            · exact absurd (.inr e) hnew
            · rfl
          obtain ⟨o, r, ho, hr0, hr1, hI2⟩ := hI.out.more hk16 Hp.out (by omega) hpt
          have HI2 := Lib.hid hI2
          have hprev := hS.rw.cell (k - 1) (by omega)
          rw [hpt] at hprev
          have hzb : ((k : Int) == 0) = false := by rw [beq_eq_false_iff_ne]; omega
          have hk1 : (0 : Int) ≤ (k : Int) - 1 := by omega
          have hk2 : (k : Int) - 1 < 16 := by omega
          obtain ⟨m, hm⟩ : ∃ m, m = o.length := ⟨_, rfl⟩
          have hown3 := hS.own
          rw [ho, List.length_append, List.length_singleton, ← hm] at hown3
          obtain ⟨gq, cq, hvq, _, _⟩ := hown3.form (by omega)
          subst hvq
          obtain ⟨lc, lf⟩ := own_last hm hown3
          have HS := Lib.hid (RnSt.bumped hm hS.rw hS.bw hown3)
          rw [ho, List.length_append, List.length_singleton, ← hm] at hln
          obtain ⟨rw, hrw⟩ : ∃ z, z = r.w := ⟨_, rfl⟩
          rw [← hrw] at lc hr0 hr1
          have Hrw := Lib.hid hrw
          have Hm := Lib.hid hm
          clear hown3 hnew hpt hI2 hI ho hrw hm hS
          go_wp2_with fail
          go_roundg (16 - (k + 1))
          case measure => omega
          case rel => exact ⟨k + 1, _, o ++ [⟨r.x, r.y, r.w + 1, r.h⟩], by omega, rfl, rfl, by go_num, HI2, by rw [Hrw.out]; exact HS.out⟩
    · have hki : ¬ (k : Int) < 16 := by omega
      have hd := hI.out.done (by omega)
      have Hd := Lib.hid hd
      clear hd
      go_wp2_with fail
      go_ret
      have h1 := hS.own.mono (show w.heap.size ≤ w.heap.size + 1 by omega)
      rw [Hd.out] at h1
      exact ⟨_, rfl, h1, hS.bw⟩
end Go.Proofs.YtnndifemkichmaaGreat
namespace Go.Proofs.YtnndifemkichmaaGreat
open Go.RowKit
set_option maxHeartbeats 600000 in
set_option maxRecDepth 10000 in
theorem srB (b : Nat) (g : Nat → Bool) (y z : Nat) (hy : y < 16) (hz : z < 16) (c d : Nat) (w : World) (hG : GrAt w b 153 g) :
  Calls Tryz.prog 186 #[.slice (some ⟨b, z * 16, none⟩) 16 c, .slice (some ⟨b, y * 16, none⟩) 16 d] w fun e w' => e = .returned (.bool (rowEq g y z)) ∧ ∃ q, w' = w.drewN q := by
 have HG := Lib.hid hG
 clear hG
 go_enter Tryz.func186, Tryz.ntmps186
 go_wp2_with fail
 go_loopw [13] (fun i wr => ∃ k : Nat, k ≤ 16 ∧ i = .int .i64 k ∧ (∀ j, j < k → g (y * 16 + j) = g (z * 16 + j)) ∧ ∃ q, wr = w.drewN q) (fun i _ => 16 - (intOf i).toNat)
 case atStart => exact ⟨0, Nat.zero_le _, rfl, fun j hj => by omega, 0, rfl⟩
 case round =>
  obtain ⟨k, hk, rfl, hall, q, rfl⟩ := hrel
  have Hall := Lib.hid hall
  clear hall
  by_cases hlt : k < 16
  ·have hki : (k : Int) < 16 := by omega
   have c1 := HG.out.cell (y * 16 + k) (by omega)
   have c2 := HG.out.cell (z * 16 + k) (by omega)
   obtain ⟨p, hp⟩ : ∃ p, p = g (y * 16 + k) := ⟨_, rfl⟩
   obtain ⟨r, hr⟩ : ∃ r, r = g (z * 16 + k) := ⟨_, rfl⟩
   rw [← hp] at c1
   rw [← hr] at c2
   have b0 : (0 : Int) ≤ (k : Int) := by omega
   have Hp := Lib.hid hp
   have Hr := Lib.hid hr
   clear hp hr
   by_cases hpr : p = r
   ·subst hpr
    go_wp2_with fail
    go_quiet (fail)
    go_wp2_with fail
    rename_i nq
    go_roundw
    case rel =>
     refine ⟨k + 1, by omega, by go_num, fun j hj => ?_, _, rfl⟩
     by_cases e : j < k
     ·exact Hall.out j e
     ·obtain rfl : j = k := by omega
      rw [← Hp.out, ← Hr.out]
    case measure => simp [intOf]; omega
   ·have hb : (r == p) = false := by rw [beq_eq_false_iff_ne]; exact Ne.symm hpr
    have hne : rowEq g y z = false := by
     rcases he : rowEq g y z with _ | _
     ·rfl
     ·exact absurd ((rowEq_iff g y z).1 he k hlt) (by rw [← Hp.out, ← Hr.out]; exact hpr)
    have Hne := Lib.hid hne
    clear hne hpr
    go_wp2_with fail
    go_quiet (fail)
    go_wp2_with fail
    go_ret
    exact ⟨ret_bool Hne.out.symm, q + _, by first | rfl | exact World.drewN_drewN _ _ _⟩
  ·obtain rfl : k = 16 := by omega
   have heq : rowEq g y z = true := (rowEq_iff g y z).2 Hall.out
   have Heq := Lib.hid heq
   clear heq
   go_wp2_with fail
   go_ret
   exact ⟨ret_bool Heq.out.symm, _, rfl⟩
end Go.Proofs.YtnndifemkichmaaGreat
namespace Go.Proofs.YtnndifemkichmaaGreat
theorem run_append_none {P : Program} (w : World) (base : Nat) (t ty e : TypeId) (i : TypeInfo) (size : Nat) (ht : P.underlying t = some (.slice e)) (hi : P.info? e = some i)
  (v : Value) (n : Nat) (xs : List Value) (hown : w.ownsRow base e size v n xs) :
  (Builtin.append_ #[t, t] ty #[v, .slice none 0 0]).run P w = .ok v w := by
 rcases hown.2 with ⟨rfl, rfl⟩ | ⟨g, cap, cur, rfl, _, _, hn, _, _, _⟩
 ·simp [Builtin.append_, run_underlying ht, sizeOf, typeInfo, hi, Builtin.lenOf, Builtin.firstCells]
 ·simp [Builtin.append_, run_underlying ht, sizeOf, typeInfo, hi, Builtin.lenOf, Builtin.firstCells, loadCells, storeCells, hn]
theorem wpList_append_row {P : Program} {ops : Array Oper} {rest : List Oper} {o : Oper} {a : Act} {w : World} {Q : Exit → Act → World → Prop} (hgd : o.guard = none) (s x : Operand) (t : TypeId)
  (ho : o.op = .call { callee := .builtin .append, args := #[s, x], argTypes := #[t, t] })
  (base base' : Nat) (e : TypeId) (i : TypeInfo) (z : Value) (size bytes : Nat) (ht : P.underlying t = some (.slice e)) (hi : P.info? e = some i) (hz : i.zero = some z)
  (hsize : i.size = size) (hby : i.bytes = bytes) (hzs : z.cells.size = size) (hsz : 0 < size)
  (v : Value) (n : Nat) (xs : List Value) (hs : a.eval s = v) (hown : w.ownsRow base e size v n xs)
  (u : Value) (m : Nat) (news : List Value) (hx : a.eval x = u) (hu : w.ownsRow base' e size u m news) (h1 : ∀ u ∈ news, u.oneCell' = true)
  (h63 : n + m ≤ maxLen) (hbytes : (n + m) * bytes ≤ 140737488355328) (hbase : base ≤ w.heap.size)
  (h : ∀ v' w', w'.ownsRow base e size v' (n + m) (xs ++ news) → w.grownBy w' v.ownBlock → wpList P ops Q rest (a.put o.dst v') w') : wpList P ops Q (o :: rest) a w := by
 rcases hu.2 with ⟨rfl, rfl⟩ | ⟨g, cap, cur, rfl, _, _, hn, _, _, _⟩
 ·have hnil : news = [] := List.eq_nil_of_length_eq_zero (by have := hu.1; omega)
  subst hnil
  refine wpList_plain hgd fun K hK => ?_
  have hr := run_append_none w base t o.type e i size ht hi v n xs hown
  unfold Oper.wp execOp
  simp only [ho, resolve, invoke, builtin, Sem.run_bind, Sem.run_pure, Result.andThen_ok, List.map_toArray, List.map_cons, List.map_nil, hs, hx, hr]
  refine hK _ _ (h v w (by simpa using hown) ⟨rfl, rfl, rfl, Nat.le_refl _, fun _ _ _ => rfl⟩)
 ·exact wpList_append_own w hgd s x t ho base e i z size bytes ht hi hz hsize hby hzs hsz v n xs hs hown ⟨g, 0, none⟩ m cap news hx hu.1 (hu.cells rfl) h1 h63 hbytes hbase (fun v' w' h2 h3 _ => h v' w' h2 h3)
end Go.Proofs.YtnndifemkichmaaGreat
namespace Go.Proofs.YtnndifemkichmaaGreat
open Go.RowKit
structure CiSt (w : World) (g : Nat → Bool) (v : Value) (L : List Rc) (wr : World) : Prop where
 gr : GrAt wr w.heap.size 153 g
 rs : wr.heap[w.heap.size + 1]? = some (.cells #[.slice none 0 0] 55 (0, 0))
 own : wr.ownsRow (w.heap.size + 2) 131 4 v L.length (rcsCells L)
 bw : Below w.heap.size w wr
theorem CiSt.drewN {w wr : World} {g : Nat → Bool} {v : Value} {L : List Rc} (h : CiSt w g v L wr) (q : Nat) : CiSt w g v L (wr.drewN q) :=
 ⟨h.gr.drewN q, h.rs, own_drewN h.own q, below_drewN h.bw q⟩
theorem CiSt.size {w wr : World} {g : Nat → Bool} {v : Value} {L : List Rc} (h : CiSt w g v L wr) : w.heap.size + 1 < wr.heap.size := (Array.getElem?_eq_some_iff.1 h.rs).1
theorem CiSt.call {w wr w' : World} {g : Nat → Bool} {v : Value} {L : List Rc} (h : CiSt w g v L wr) (hb : Below wr.heap.size wr w') : CiSt w g v L w' :=
 ⟨h.gr.below hb h.gr.lt, (hb.block _ h.size).trans h.rs, own_below h.own hb (Nat.le_refl _), h.bw.trans (hb.mono h.bw.size)⟩
theorem CiSt.next {w wr w2 : World} {g : Nat → Bool} {v v' : Value} {L M : List Rc} (h : CiSt w g v L wr)
  (hown : w2.ownsRow (w.heap.size + 2) 131 4 v' (L.length + M.length) (rcsCells L ++ rcsCells M)) (hgr : wr.grownBy w2 v.ownBlock) : CiSt w g v' (L ++ M) w2 := by
 have hlow : ∀ k, k < w.heap.size + 2 → some k ≠ v.ownBlock := fun k hk e => by have := (h.own.lt k e.symm).1; omega
 refine ⟨h.gr.grown hgr (hlow _ (by omega)), (hgr.block _ h.size (hlow _ (by omega))).trans h.rs, ?_, h.bw.grown hgr h.bw.size (fun k hk => by have := (h.own.lt k hk).1; omega)⟩
 rw [List.length_append, rcsCells_append]
 exact hown
theorem runI' (g : Nat → Bool) (y h : Nat) (hi : Int) (e : hi = (h : Int)) (w : World) : Calls Tryz.prog 187 #[.agg (rowCells g y), .int .i64 y, .int .i64 hi] w (RunAns g y h w) := by
 subst e
 exact runI g y h w
set_option maxHeartbeats 2000000 in
set_option maxRecDepth 10000 in
theorem canI (g : Nat → Bool) (w : World) : Calls Tryz.prog 122 #[.agg (gCells g)] w (CanAns g w) := by
  obtain ⟨i0, hi, hz0, hz1, hz2⟩ := info_parts infoRect
  have hS0 : CiSt w g (.slice none 0 0) [] ((w.alloc (.cells (gCells g) 153)).alloc (.cells #[.slice none 0 0] 55)) :=
    ⟨(GrAt.new _ _ _).alloc _, by have := heap_alloc_new (w.alloc (.cells (gCells g) 153)) (.cells #[.slice none 0 0] 55); simpa using this,
      World.ownsRow_nil _ _ _ _, ((Below.refl _ _).alloc (Nat.le_refl _) _).alloc (by simp) _⟩
  go_enter Tryz.func122, Tryz.ntmps122
  go_wp2_with fail
  go_loopg [3, 4] 16 (fun gk s3 i wr => ∃ (y : Nat) (L : List Rc), y ≤ 16 ∧ gk = 16 - y ∧ i = .int .i64 y ∧ Hid (canon g = L ++ bands g y) ∧ CiSt w g s3 L wr)
  case atStart => exact ⟨0, [], Nat.zero_le _, rfl, rfl, Lib.hid rfl, hS0⟩
  case round =>
    clear hS0
    obtain ⟨y, L, hy, rfl, rfl, hB, hS⟩ := hrel
    by_cases hy16 : y < 16
    · have hy16i : (y : Int) < 16 := by omega
      have hy0 : (0 : Int) ≤ (y : Int) := by omega
      go_wp2_with fail
      go_loopg [5] 15 (fun g2 i2 wy => ∃ h : Nat, 1 ≤ h ∧ y + h ≤ 16 ∧ g2 = 16 - h ∧ i2 = .int .i64 ((y : Int) + (h : Int)) ∧ Hid (bandFrom g y h = bandH g y) ∧ CiSt w g u3 L wy)
      case atStart => exact ⟨1, Nat.le_refl _, by omega, by omega, by go_num, Lib.hid rfl, hS⟩
      case round =>
        clear hS
        obtain ⟨h, hh1, hh2, rfl, rfl, hH, hS⟩ := hrel
        by_cases hc : y + h < 16 ∧ rowEq g y (y + h) = true
        · have hyh := hc.1
          have hyi : (y : Int) + (h : Int) < 16 := by omega
          have hyi0 : (0 : Int) ≤ (y : Int) + (h : Int) := by omega
          have Hre := Lib.hid hc.2
          clear hc
          have hsr : ∀ q, Calls Tryz.prog 186 #[.slice (some ⟨w.heap.size, (y + h) * 16, none⟩) 16 16, .slice (some ⟨w.heap.size, y * 16, none⟩) 16 16] (wr.drewN q) fun e w' => e = .returned (.bool true) ∧ ∃ m, w' = (wr.drewN q).drewN m := fun q => by
            have := srB w.heap.size g y (y + h) (by omega) (by omega) 16 16 (wr.drewN q) (hS.gr.drewN q)
            rw [Hre.out] at this
            exact this
          have Hsr := Lib.hid hsr
          clear hsr
          have hba : ((y : Int) + (h : Int)).toNat = y + h := by omega
          go_wp2_with fail
          go_quiet ((go_at_call 186; refine Calls.quiet_of (Hsr.out _)))
          go_wp2_with fail
          rename_i nq
          go_roundg (16 - (h + 1))
          case measure => omega
          case rel => exact ⟨h + 1, by omega, by omega, rfl, by go_num, Lib.hid ((bandFrom_go hyh Hre.out).symm.trans hH.out), hS.drewN _⟩
        · have hbh : bandH g y = h := hH.out.symm.trans (bandFrom_stop hc)
          have hB2 : Hid (canon g = (L ++ runs g y h 0) ++ bands g (y + h)) := Lib.hid (by rw [hB.out, bands_open g y h hy16 hbh, List.append_assoc])
          have hlen : L.length + (runs g y h 0).length ≤ 256 := by have := canon_part hB2.out; rwa [List.length_append] at this
          have Hc := Lib.hid hc
          clear hc hB hH hbh
          (by_cases hyh : y + h < 16)
          (have hyi : (y : Int) + (h : Int) < 16 := by omega
           have hyi0 : (0 : Int) ≤ (y : Int) + (h : Int) := by omega
           have hre : rowEq g y (y + h) = false := by
            rcases e : rowEq g y (y + h) with _ | _
            · rfl
            · exact absurd ⟨hyh, e⟩ Hc.out
           have Hre := Lib.hid hre
           clear hre
           have hsr : ∀ q, Calls Tryz.prog 186 #[.slice (some ⟨w.heap.size, (y + h) * 16, none⟩) 16 16, .slice (some ⟨w.heap.size, y * 16, none⟩) 16 16] (wr.drewN q) fun e w' => e = .returned (.bool false) ∧ ∃ m, w' = (wr.drewN q).drewN m := fun q => by
            have := srB w.heap.size g y (y + h) (by omega) (by omega) 16 16 (wr.drewN q) (hS.gr.drewN q)
            rw [Hre.out] at this
            exact this
           have Hsr := Lib.hid hsr
           clear hsr
           have hba : ((y : Int) + (h : Int)).toNat = y + h := by omega
           go_wp2_with fail
           go_quiet ((go_at_call 186; refine Calls.quiet_of (Hsr.out _)))
           rename_i nq
           have hS := hS.drewN nq
           clear Hsr hba hyi0 hyi)
          · skip
            go_upto_region 7 with fail
            iterate 12 (first | (refine wp_load_gridrow (.tmp 25) rfl w.heap.size y g _ hy16 rfl hS.gr ?_) | go_step)
            go_wp2_with fail
            refine (runI' g y h ((y : Int) + (h : Int) - (y : Int)) (by omega) _).mono ?_
            rintro e w2 ⟨vr, rfl, hownr, hbr⟩
            have hS := hS.call hbr
            go_wp2_with (at_builtin; refine wpList_append_row rfl _ _ 53 rfl (w.heap.size + 2) _ 131 i0 (.agg #[.int .i64 0, .int .i64 0, .int .i64 0, .int .i64 0]) 4 32 Tryz.underlying53 hi hz0 hz1 hz2 rfl (by decide) _ _ _ rfl hS.own _ _ _ rfl hownr (rcs_one _) (by unfold maxLen; omega) (by omega) (by have := hS.size; omega) ?_)
            intro v2 w3 hown3 hgrow
            have hS := hS.next hown3 hgrow
            clear hown3 hgrow hownr hbr
            go_wp2_with fail
            go_roundg (16 - (y + h))
            case measure => omega
            case rel => exact ⟨y + h, L ++ runs g y h 0, by omega, rfl, by go_num, hB2, hS⟩
          · skip
            (have hyi : ¬ (y : Int) + (h : Int) < 16 := by omega
             go_wp2_with fail
             have hyd : ((y : Int) + (h : Int) < 16) = False := by apply eq_false; omega
             go_quiet (fail)
             rename_i nq
             have hS := hS.drewN nq
             clear hyi hyd)
            go_upto_region 7 with fail
            iterate 12 (first | (refine wp_load_gridrow (.tmp 25) rfl w.heap.size y g _ hy16 rfl hS.gr ?_) | go_step)
            go_wp2_with fail
            refine (runI' g y h ((y : Int) + (h : Int) - (y : Int)) (by omega) _).mono ?_
            rintro e w2 ⟨vr, rfl, hownr, hbr⟩
            have hS := hS.call hbr
            go_wp2_with (at_builtin; refine wpList_append_row rfl _ _ 53 rfl (w.heap.size + 2) _ 131 i0 (.agg #[.int .i64 0, .int .i64 0, .int .i64 0, .int .i64 0]) 4 32 Tryz.underlying53 hi hz0 hz1 hz2 rfl (by decide) _ _ _ rfl hS.own _ _ _ rfl hownr (rcs_one _) (by unfold maxLen; omega) (by omega) (by have := hS.size; omega) ?_)
            intro v2 w3 hown3 hgrow
            have hS := hS.next hown3 hgrow
            clear hown3 hgrow hownr hbr
            go_wp2_with fail
            go_roundg (16 - (y + h))
            case measure => omega
            case rel => exact ⟨y + h, L ++ runs g y h 0, by omega, rfl, by go_num, hB2, hS⟩
    · have hy16i : ¬ (y : Int) < 16 := by omega
      have hB2 : L = canon g := by rw [hB.out, bands_end g y (by omega), List.append_nil]
      obtain ⟨A, cv, hv⟩ := (RdR.of_own hS.own).form
      subst hv
      have rc : wr.cell? ⟨w.heap.size + 1, 0, none⟩ = some (.slice none 0 0) := by have := hS.rs; simp [World.cell?, this]
      have rf : wr.frozen? ⟨w.heap.size + 1, 0, none⟩ = false := by have := hS.rs; simp [World.frozen?, this]
      have hsz := hS.size
      have HB2 := Lib.hid hB2
      clear hB2
      go_wp2_with fail
      exact bodyPost_ret (v := .agg #[.slice A L.length cv]) (by simp [results, Tryz.results122, go_sem, rc]) rfl ⟨_, rfl, by
        have h1 := (hS.own.mono (show w.heap.size ≤ w.heap.size + 2 by omega)).kept (row := some (w.heap.size + 1)) (grown_setc wr _ 0 (.slice A L.length cv)) (by
          by_cases hv : (Value.slice A L.length cv).ownBlock = none
          · exact .inl hv
          · refine .inr fun e => ?_
            have := (hS.own.lt _ e).1
            omega)
        rw [← HB2.out]
        exact h1, hS.bw.setCell (by simp) _⟩
end Go.Proofs.YtnndifemkichmaaGreat
namespace Go.Proofs.YtnndifemkichmaaGreat
open Go.RowKit
open Classical in
noncomputable def sameL (L M : List Rc) : Bool := decide (L = M)
open Classical in
theorem sameL_yes {L M : List Rc} (h : L = M) : sameL L M = true := by unfold sameL; exact decide_eq_true h
open Classical in
theorem sameL_no {L M : List Rc} (h : ¬ L = M) : sameL L M = false := by unfold sameL; exact decide_eq_false h
set_option maxHeartbeats 1000000 in
set_option maxRecDepth 10000 in
theorem sameI (v u : Value) (L M : List Rc) (w : World) (hv : RdR w v L) (hu : RdR w u M) :
  Calls Tryz.prog 125 #[v, u] w fun e w' => e = .returned (.bool (sameL L M)) ∧ ∃ q, w' = w.drewN q := by
 obtain ⟨A, c, rfl⟩ := hv.form
 obtain ⟨A', c', rfl⟩ := hu.form
 have hn1 : L.length ≤ 9223372036854775807 := by have := hv.len; unfold maxLen at this; omega
 have hn2 : M.length ≤ 9223372036854775807 := by have := hu.len; unfold maxLen at this; omega
 by_cases hlen : L.length = M.length
 ·obtain ⟨n, hn⟩ : ∃ n, n = L.length := ⟨_, rfl⟩
  rw [← hlen] at hu ⊢
  rw [← hn] at hn1 hv hu ⊢
  have Hn := Lib.hid hn
  have Hlen := Lib.hid hlen
  have Hv := Lib.hid hv
  have Hu := Lib.hid hu
  clear hlen hn2 hn hv hu
  go_enter Tryz.func125, Tryz.ntmps125
  go_wp2_with fail
  go_loopw [13] (fun i wr => ∃ k : Nat, k ≤ n ∧ i = .int .i64 k ∧ (∀ j, j < k → L[j]? = M[j]?) ∧ ∃ q, wr = w.drewN q) (fun i _ => n - (intOf i).toNat)
  case atStart => exact ⟨0, Nat.zero_le _, rfl, fun j hj => by omega, 0, rfl⟩
  case round =>
   obtain ⟨k, hk, rfl, hall, q, rfl⟩ := hrel
   have Hall := Lib.hid hall
   clear hall
   by_cases hlt : k < n
   ·obtain ⟨ga, r, rfl, hr, hC⟩ := Hv.out.at_ (k := k) (by rw [← Hn.out]; exact hlt)
    obtain ⟨gb, s, rfl, hs, hD⟩ := Hu.out.at_ (k := k) (by rw [← Hlen.out, ← Hn.out]; exact hlt)
    have Hr := Lib.hid hr
    have Hs := Lib.hid hs
    obtain ⟨a0, a1, a2, a3⟩ := hC.cells
    obtain ⟨b0, b1, b2, b3⟩ := hD.cells
    clear hr hs hC hD
    have k0 : (0 : Int) ≤ (k : Int) := by omega
    have k1 : (k : Int) < (n : Int) := by omega
    rcases rc_cases r s with ⟨hq, e0, e1, e2, e3⟩ | ⟨hq, hq'⟩
    ·have Hq := Lib.hid hq
     clear hq
     go_wp2_with fail
     go_quiet (fail)
     go_wp2_with fail
     rename_i nq
     go_roundw
     case rel =>
      refine ⟨k + 1, by omega, by go_num, fun j hj => ?_, _, rfl⟩
      by_cases e : j < k
      ·exact Hall.out j e
      ·obtain rfl : j = k := by omega
       rw [Hr.out, Hs.out, Hq.out]
     case measure => simp [intOf]; omega
    ·have hne : sameL L M = false := sameL_no fun e => hq (by have h1 := Hr.out; rw [e, Hs.out] at h1; injection h1 with h1; exact h1.symm)
     have Hne := Lib.hid hne
     clear hne hq
     rcases hq' with e0 | ⟨e0, e1⟩ | ⟨e0, e1, e2⟩ | ⟨e0, e1, e2, e3⟩
     ·go_wp2_with fail
      go_quiet (fail)
      go_wp2_with fail
      go_ret
      exact ⟨ret_bool Hne.out.symm, q + _, by first | rfl | exact World.drewN_drewN _ _ _⟩
     ·go_wp2_with fail
      go_quiet (fail)
      go_wp2_with fail
      go_ret
      exact ⟨ret_bool Hne.out.symm, q + _, by first | rfl | exact World.drewN_drewN _ _ _⟩
     ·go_wp2_with fail
      go_quiet (fail)
      go_wp2_with fail
      go_ret
      exact ⟨ret_bool Hne.out.symm, q + _, by first | rfl | exact World.drewN_drewN _ _ _⟩
     ·go_wp2_with fail
      go_quiet (fail)
      go_wp2_with fail
      go_ret
      exact ⟨ret_bool Hne.out.symm, q + _, by first | rfl | exact World.drewN_drewN _ _ _⟩
   ·obtain rfl : k = n := by omega
    have heq : L = M := List.ext_getElem? fun j => by
     by_cases e : j < k
     ·exact Hall.out j e
     ·rw [List.getElem?_eq_none (by rw [← Hn.out]; omega), List.getElem?_eq_none (by rw [← Hlen.out, ← Hn.out]; omega)]
    have Heq := Lib.hid (sameL_yes heq)
    clear heq
    go_wp2_with fail
    go_ret
    exact ⟨ret_bool Heq.out.symm, _, rfl⟩
 ·have Hne := Lib.hid (sameL_no (fun e : L = M => hlen (by rw [e])))
  have hb : ((L.length : Int) != (M.length : Int)) = true := by rw [bne_iff_ne]; omega
  go_enter Tryz.func125, Tryz.ntmps125
  go_wp2_with fail
  go_ret
  exact ⟨ret_bool Hne.out.symm, 0, rfl⟩
end Go.Proofs.YtnndifemkichmaaGreat
namespace Go.Proofs.YtnndifemkichmaaGreat
open Go.RowKit
set_option maxHeartbeats 1000000 in
set_option maxRecDepth 10000 in
theorem sameS (v u : Value) (L M : List Rc) (w : World) (hv : RdR w v L) (hu : RdR w u M) :
  Calls Tryz.prog 210 #[v, u] w fun e w' => e = .returned (.bool (sameL L M)) ∧ ∃ q, w' = w.drewN q := by
 obtain ⟨A, c, rfl⟩ := hv.form
 obtain ⟨A', c', rfl⟩ := hu.form
 have hn1 : L.length ≤ 9223372036854775807 := by have := hv.len; unfold maxLen at this; omega
 have hn2 : M.length ≤ 9223372036854775807 := by have := hu.len; unfold maxLen at this; omega
 by_cases hlen : L.length = M.length
 ·obtain ⟨n, hn⟩ : ∃ n, n = L.length := ⟨_, rfl⟩
  rw [← hlen] at hu ⊢
  rw [← hn] at hn1 hv hu ⊢
  have Hn := Lib.hid hn
  have Hlen := Lib.hid hlen
  have Hv := Lib.hid hv
  have Hu := Lib.hid hu
  clear hlen hn2 hn hv hu
  go_enter Tryz.func210, Tryz.ntmps210
  go_wp2_with fail
  go_loopw [5] (fun i wr => ∃ k : Nat, k ≤ n ∧ i = .int .i64 k ∧ (∀ j, j < k → L[j]? = M[j]?) ∧ ∃ q, wr = w.drewN q) (fun i _ => n - (intOf i).toNat)
  case atStart => exact ⟨0, Nat.zero_le _, rfl, fun j hj => by omega, 0, rfl⟩
  case round =>
   obtain ⟨k, hk, rfl, hall, q, rfl⟩ := hrel
   have Hall := Lib.hid hall
   clear hall
   by_cases hlt : k < n
   ·obtain ⟨ga, r, rfl, hr, hC⟩ := Hv.out.at_ (k := k) (by rw [← Hn.out]; exact hlt)
    obtain ⟨gb, s, rfl, hs, hD⟩ := Hu.out.at_ (k := k) (by rw [← Hlen.out, ← Hn.out]; exact hlt)
    have Hr := Lib.hid hr
    have Hs := Lib.hid hs
    obtain ⟨a0, a1, a2, a3⟩ := hC.cells
    obtain ⟨b0, b1, b2, b3⟩ := hD.cells
    clear hr hs hC hD
    have k0 : (0 : Int) ≤ (k : Int) := by omega
    have k1 : (k : Int) < (n : Int) := by omega
    rcases rc_cases r s with ⟨hq, e0, e1, e2, e3⟩ | ⟨hq, hq'⟩
    ·have Hq := Lib.hid hq
     clear hq
     go_wp2_with fail
     go_quiet (fail)
     go_wp2_with fail
     rename_i nq
     go_roundw
     case rel =>
      refine ⟨k + 1, by omega, by go_num, fun j hj => ?_, _, rfl⟩
      by_cases e : j < k
      ·exact Hall.out j e
      ·obtain rfl : j = k := by omega
       rw [Hr.out, Hs.out, Hq.out]
     case measure => simp [intOf]; omega
    ·have hne : sameL L M = false := sameL_no fun e => hq (by have h1 := Hr.out; rw [e, Hs.out] at h1; injection h1 with h1; exact h1.symm)
     have Hne := Lib.hid hne
     clear hne hq
     rcases hq' with e0 | ⟨e0, e1⟩ | ⟨e0, e1, e2⟩ | ⟨e0, e1, e2, e3⟩
     ·go_wp2_with fail
      go_quiet (fail)
      go_wp2_with fail
      go_ret
      exact ⟨ret_bool Hne.out.symm, q + _, by first | rfl | exact World.drewN_drewN _ _ _⟩
     ·go_wp2_with fail
      go_quiet (fail)
      go_wp2_with fail
      go_ret
      exact ⟨ret_bool Hne.out.symm, q + _, by first | rfl | exact World.drewN_drewN _ _ _⟩
     ·go_wp2_with fail
      go_quiet (fail)
      go_wp2_with fail
      go_ret
      exact ⟨ret_bool Hne.out.symm, q + _, by first | rfl | exact World.drewN_drewN _ _ _⟩
     ·go_wp2_with fail
      go_quiet (fail)
      go_wp2_with fail
      go_ret
      exact ⟨ret_bool Hne.out.symm, q + _, by first | rfl | exact World.drewN_drewN _ _ _⟩
   ·obtain rfl : k = n := by omega
    have heq : L = M := List.ext_getElem? fun j => by
     by_cases e : j < k
     ·exact Hall.out j e
     ·rw [List.getElem?_eq_none (by rw [← Hn.out]; omega), List.getElem?_eq_none (by rw [← Hlen.out, ← Hn.out]; omega)]
    have Heq := Lib.hid (sameL_yes heq)
    clear heq
    go_wp2_with fail
    go_ret
    exact ⟨ret_bool Heq.out.symm, _, rfl⟩
 ·have Hne := Lib.hid (sameL_no (fun e : L = M => hlen (by rw [e])))
  have hb : ((L.length : Int) != (M.length : Int)) = true := by rw [bne_iff_ne]; omega
  go_enter Tryz.func210, Tryz.ntmps210
  go_wp2_with fail
  go_ret
  exact ⟨ret_bool Hne.out.symm, 0, rfl⟩
end Go.Proofs.YtnndifemkichmaaGreat
namespace Go.Proofs.YtnndifemkichmaaGreat
open Go.RowKit
def RofAns (L : List Rc) (w : World) (e : Ending) (w' : World) : Prop :=
 ∃ v, e = .returned (.agg #[v]) ∧ w'.ownsRow w.heap.size 131 4 v (canon (gridOf L)).length (rcsCells (canon (gridOf L))) ∧ Below w.heap.size w w'
theorem rg_cell {w w' : World} {o : Obj} (h : Below (w.alloc o).heap.size (w.alloc o) w') {v : Value} (ho : o = .cells #[v] 55) : w'.heap[w.heap.size]? = some (.cells #[v] 55 (0, 0)) := by
 subst ho
 exact (h.block _ (by simp)).trans (heap_alloc_new w _)
theorem own_shape {w : World} {B n : Nat} {e : TypeId} {v : Value} {xs : List Value} (h : w.ownsRow B e 4 v n xs) : ∃ A c, v = .slice A n c := by
 rcases h.2 with ⟨rfl, rfl⟩ | ⟨g, cap, cur, rfl, _⟩
 ·exact ⟨none, 0, rfl⟩
 ·exact ⟨_, _, rfl⟩
theorem own_set {w : World} {B B' n g : Nat} {e : TypeId} {v : Value} {xs : List Value} (h : w.ownsRow B' e 4 v n xs) (hB : B ≤ B') (hg : g < B') (u : Value) : (w.setCell ⟨g, 0, none⟩ u).ownsRow B e 4 v n xs :=
 (h.mono hB).kept (row := some g) (grown_setc w _ 0 u) (by
  by_cases hv : v.ownBlock = none
  ·exact .inl hv
  ·refine .inr fun e => ?_
   have := (h.lt _ e).1
   omega)
set_option maxHeartbeats 1000000 in
set_option maxRecDepth 10000 in
theorem rofS (v : Value) (L : List Rc) (w : World) (h : RdR w v L) : Calls Tryz.prog 161 #[v] w (RofAns L w) := by
 have h1 := h.alloc (.cells #[.slice none 0 0] 55)
 have H := Lib.hid h1
 clear h h1
 go_enter Tryz.func161, Tryz.ntmps161
 go_wp2_with fail
 refine (gridS v L _ H.out).mono ?_
 rintro e w1 ⟨b, rfl, hb0, hG, hb1⟩
 go_wp2_with fail
 refine (canS b (gridOf L) _ hG).mono ?_
 rintro e w2 ⟨u, rfl, hown, hb2⟩
 have hz := hb1.size
 have hh := rg_cell (hb1.trans (hb2.mono hb1.size)) rfl
 have hw := ((Below.refl w.heap.size w).alloc (Nat.le_refl _) (.cells #[.slice none 0 0] 55)).trans ((hb1.trans (hb2.mono hb1.size)).mono (by simp))
 obtain ⟨A, c, hu⟩ := own_shape hown
 subst hu
 have rc : w2.cell? ⟨w.heap.size, 0, none⟩ = some (.slice none 0 0) := by simp [World.cell?, hh]
 have rf : w2.frozen? ⟨w.heap.size, 0, none⟩ = false := by simp [World.frozen?, hh]
 have Hown := Lib.hid hown
 simp at hz
 clear hown hb1 hb2 hG hb0 hh
 go_wp2_with fail
 exact bodyPost_ret (v := .agg #[.slice A (canon (gridOf L)).length c]) (by simp [results, Tryz.results161, go_sem, rc]) rfl ⟨_, rfl, own_set Hown.out (by omega) (by omega) _, hw.setCell (by simp) _⟩
set_option maxHeartbeats 1000000 in
set_option maxRecDepth 10000 in
theorem rofI (v : Value) (L : List Rc) (w : World) (h : RdR w v L) : Calls Tryz.prog 91 #[v] w (RofAns L w) := by
 have h1 := h.alloc (.cells #[.slice none 0 0] 55)
 have H := Lib.hid h1
 clear h h1
 go_enter Tryz.func91, Tryz.ntmps91
 go_wp2_with fail
 refine (gridI v L _ H.out).mono ?_
 rintro e w1 ⟨rfl, hb1⟩
 go_wp2_with fail
 refine (canI (gridOf L) _).mono ?_
 rintro e w2 ⟨u, rfl, hown, hb2⟩
 have hz := hb1.size
 have hh := rg_cell (hb1.trans (hb2.mono hb1.size)) rfl
 have hw := ((Below.refl w.heap.size w).alloc (Nat.le_refl _) (.cells #[.slice none 0 0] 55)).trans ((hb1.trans (hb2.mono hb1.size)).mono (by simp))
 obtain ⟨A, c, hu⟩ := own_shape hown
 subst hu
 have rc : w2.cell? ⟨w.heap.size, 0, none⟩ = some (.slice none 0 0) := by simp [World.cell?, hh]
 have rf : w2.frozen? ⟨w.heap.size, 0, none⟩ = false := by simp [World.frozen?, hh]
 have Hown := Lib.hid hown
 simp at hz
 clear hown hb1 hb2 hh
 go_wp2_with fail
 exact bodyPost_ret (v := .agg #[.slice A (canon (gridOf L)).length c]) (by simp [results, Tryz.results91, go_sem, rc]) rfl ⟨_, rfl, own_set Hown.out (by omega) (by omega) _, hw.setCell (by simp) _⟩
noncomputable def okL (L : List Rc) : Bool := sameL (canon (gridOf L)) L
end Go.Proofs.YtnndifemkichmaaGreat
namespace Go.Proofs.YtnndifemkichmaaGreat
open Go.RowKit
def RokAns (L : List Rc) (w : World) (e : Ending) (w' : World) : Prop := e = .returned (.bool (okL L)) ∧ Below w.heap.size w w'
theorem cell_drew {w : World} {a : Addr} {v : Value} (h : w.cell? a = some v) : w.drew.cell? a = some v := h
theorem cell_drewN {w : World} {a : Addr} {v : Value} (h : w.cell? a = some v) (q : Nat) : (w.drewN q).cell? a = some v := h
theorem cell_call {w w' : World} {g o : Nat} {v : Value} (hb : Below w.heap.size w w') (h : w.cell? ⟨g, o, none⟩ = some v) : w'.cell? ⟨g, o, none⟩ = some v :=
 (hb.cell (p := ⟨g, o, none⟩) (World.block_lt_of_cell? w _ h)).trans h
theorem below_call {a w w' : World} (h : Below a.heap.size a w) (hb : Below w.heap.size w w') : Below a.heap.size a w' := h.trans (hb.mono h.size)
theorem field_rg (u : Value) (W : World) : (Instr.field 55 (.agg #[u]) 0).run Tryz.prog W = .ok u W := by
 simp [Instr.field, run_underlying Tryz.underlying55, asAgg, part, go_sem]
set_option maxHeartbeats 1000000 in
set_option maxRecDepth 10000 in
theorem rokS (v : Value) (L : List Rc) (w : World) (h : RdR w v L) : Calls Tryz.prog 158 #[.agg #[v]] w (RokAns L w) := by
 have hV := h.alloc (.cells #[v] 55)
 have hw := (Below.refl w.heap.size w).alloc (Nat.le_refl _) (.cells #[v] 55)
 have hc : (w.alloc (.cells #[v] 55)).cell? ⟨w.heap.size, 0, none⟩ = some v := new_cell w v _
 clear h
 go_enter Tryz.func158, Tryz.ntmps158
 go_wp2_with fail
 go_region_held3 (fun w' => w'.cell? ⟨w.heap.size, 0, none⟩ = some v)
  (with_reducible first | exact hc | exact cell_drew hc | fail)
  (first | (go_at_call 161; (with_reducible first | refine (rofS v L _ hV).mono ?_ | refine (rofS v L _ hV.drew).mono ?_); rintro e wk ⟨u, rfl, hown, hbk⟩; have hfld := field_rg u; (with_reducible first | have hV := hV.call hbk | have hV := hV.drew.call hbk); (with_reducible first | have hw := below_call hw hbk | have hw := below_call hw.drew hbk); (with_reducible first | (have hc := cell_call hbk hc) | (have hc := cell_call hbk (cell_drew hc)))) | (go_at_call 210; (with_reducible first | refine (sameS u v _ L _ (RdR.of_own hown) hV).mono ?_ | refine (sameS u v _ L _ (RdR.of_own hown).drew hV.drew).mono ?_); rintro e wk ⟨rfl, q, rfl⟩; have hw := below_drewN hw q; have hc := cell_drewN hc q))
 go_wp2_with fail
 go_ret
 exact ⟨rfl, by first | exact hw | exact hw.drew | exact below_drewN hw _⟩
set_option maxHeartbeats 1000000 in
set_option maxRecDepth 10000 in
theorem rokI (v : Value) (L : List Rc) (w : World) (h : RdR w v L) : Calls Tryz.prog 47 #[.agg #[v]] w (RokAns L w) := by
 have hV := h.alloc (.cells #[v] 55)
 have hw := (Below.refl w.heap.size w).alloc (Nat.le_refl _) (.cells #[v] 55)
 have hc : (w.alloc (.cells #[v] 55)).cell? ⟨w.heap.size, 0, none⟩ = some v := new_cell w v _
 clear h
 go_enter Tryz.func47, Tryz.ntmps47
 go_wp2_with fail
 go_region_held3 (fun w' => w'.cell? ⟨w.heap.size, 0, none⟩ = some v)
  (with_reducible first | exact hc | exact cell_drew hc | fail)
  (first | (go_at_call 91; (with_reducible first | refine (rofI v L _ hV).mono ?_ | refine (rofI v L _ hV.drew).mono ?_); rintro e wk ⟨u, rfl, hown, hbk⟩; have hfld := field_rg u; (with_reducible first | have hV := hV.call hbk | have hV := hV.drew.call hbk); (with_reducible first | have hw := below_call hw hbk | have hw := below_call hw.drew hbk); (with_reducible first | (have hc := cell_call hbk hc) | (have hc := cell_call hbk (cell_drew hc)))) | (go_at_call 125; (with_reducible first | refine (sameI u v _ L _ (RdR.of_own hown) hV).mono ?_ | refine (sameI u v _ L _ (RdR.of_own hown).drew hV.drew).mono ?_); rintro e wk ⟨rfl, q, rfl⟩; have hw := below_drewN hw q; have hc := cell_drewN hc q))
 go_wp2_with fail
 go_ret
 exact ⟨rfl, by first | exact hw | exact hw.drew | exact below_drewN hw _⟩
end Go.Proofs.YtnndifemkichmaaGreat
namespace Go.Proofs.YtnndifemkichmaaGreat
open Go.RowKit
set_option maxHeartbeats 1000000 in
set_option maxRecDepth 10000 in
theorem eqRectS_same (v u : Value) (L : List Rc) (w : World) (hv : RdR w v L) (hu : RdR w u L) :
  Calls Tryz.prog 93 #[v, u] w fun e w' => e = .returned (.bool true) ∧ Below w.heap.size w w' := by
 obtain ⟨A, c, rfl⟩ := hv.form
 obtain ⟨A', c', rfl⟩ := hu.form
 have hn1 : L.length ≤ 9223372036854775807 := by have := hv.len; unfold maxLen at this; omega
 obtain ⟨n, hn⟩ : ∃ n, n = L.length := ⟨_, rfl⟩
 rw [← hn] at hn1 hv hu ⊢
 have Hn := Lib.hid hn
 have Hv := Lib.hid hv
 have Hu := Lib.hid hu
 clear hn hv hu
 go_enter Tryz.func93, Tryz.ntmps93
 go_wp2_with fail
 go_loopw [5] (fun i wr => ∃ k : Nat, k ≤ n ∧ i = .int .i64 k ∧ Below w.heap.size w wr) (fun i _ => n - (intOf i).toNat)
 case atStart => exact ⟨0, Nat.zero_le _, rfl, Below.refl _ _⟩
 case round =>
  obtain ⟨k, hk, rfl, hb⟩ := hrel
  by_cases hlt : k < n
  ·obtain ⟨ga, r, rfl, hr, hC⟩ := (Hv.out.call hb).at_ (k := k) (by rw [← Hn.out]; exact hlt)
   obtain ⟨gb, s, rfl, hs, hD⟩ := (Hu.out.call hb).at_ (k := k) (by rw [← Hn.out]; exact hlt)
   rw [hr] at hs
   injection hs with hs
   subst hs
   obtain ⟨a0, a1, a2, a3⟩ := hC.cells
   obtain ⟨b0, b1, b2, b3⟩ := hD.cells
   have k0 : (0 : Int) ≤ (k : Int) := by omega
   have k1 : (k : Int) < (n : Int) := by omega
   clear hr
   go_wp2_with fail
   go_region_held3 (fun w' => (w'.cell? ⟨ga, k * 4, none⟩ = some (.int .i64 r.x) ∧ w'.cell? ⟨ga, k * 4 + 1, none⟩ = some (.int .i64 r.y) ∧ w'.cell? ⟨ga, k * 4 + 2, none⟩ = some (.int .i64 r.w) ∧ w'.cell? ⟨ga, k * 4 + 3, none⟩ = some (.int .i64 r.h)) ∧
     (w'.cell? ⟨gb, k * 4, none⟩ = some (.int .i64 r.x) ∧ w'.cell? ⟨gb, k * 4 + 1, none⟩ = some (.int .i64 r.y) ∧ w'.cell? ⟨gb, k * 4 + 2, none⟩ = some (.int .i64 r.w) ∧ w'.cell? ⟨gb, k * 4 + 3, none⟩ = some (.int .i64 r.h)))
     (with_reducible first | exact ⟨hC.cells, hD.cells⟩ | exact ⟨hC.drew.cells, hD.drew.cells⟩ | fail)
     ((go_at_call 171; (with_reducible refine (eqRect_same r _).mono ?_); rintro e wk ⟨rfl, hbk⟩; (with_reducible first | have hC := hC.call hbk | have hC := hC.drew.call hbk); (with_reducible first | have hD := hD.call hbk | have hD := hD.drew.call hbk); (with_reducible first | have hb := hb.trans (hbk.mono hb.size) | have hb := hb.drew.trans (hbk.mono hb.drew.size))))
   go_wp2_with fail
   go_roundw
   case rel => exact ⟨k + 1, by omega, by go_num, hb⟩
   case measure => simp [intOf]; omega
  ·obtain rfl : k = n := by omega
   go_wp2_with fail
   go_ret
   exact ⟨rfl, hb⟩
def marksL (k : Nat) (n : Nat) : List Rc := (List.range n).map fun j => ⟨(k + 4 * j : Nat), (k + 4 * j + 1 : Nat), (k + 4 * j + 2 : Nat), (k + 4 * j + 3 : Nat)⟩
theorem marksL_length (k n : Nat) : (marksL k n).length = n := by simp [marksL]
theorem marksL_get (k n j : Nat) (h : j < n) : (marksL k n)[j]? = some ⟨(k + 4 * j : Nat), (k + 4 * j + 1 : Nat), (k + 4 * j + 2 : Nat), (k + 4 * j + 3 : Nat)⟩ := by simp [marksL, h]
theorem marksL_succ (k n : Nat) : marksL k (n + 1) = marksL k n ++ [⟨(k + 4 * n : Nat), (k + 4 * n + 1 : Nat), (k + 4 * n + 2 : Nat), (k + 4 * n + 3 : Nat)⟩] := by
 simp [marksL, List.range_succ]
theorem rcs_put (L M : List Rc) (r s : Rc) (j : Nat) (hj : j = L.length) :
  ((((rcsCells (L ++ r :: M)).set (j * 4) (.int .i64 s.x)).set (j * 4 + 1) (.int .i64 s.y)).set (j * 4 + 2) (.int .i64 s.w)).set (j * 4 + 3) (.int .i64 s.h) = rcsCells (L ++ s :: M) := by
 subst hj
 have e : ∀ t : Rc, rcsCells (L ++ t :: M) = rcsCells L ++ (rcCells t ++ rcsCells M) := fun t => by simp [rcsCells]
 rw [e r, e s]
 have hl := rcsCells_length L
 rw [List.set_append_right _ _ (by omega), List.set_append_right _ _ (by omega), List.set_append_right _ _ (by omega), List.set_append_right _ _ (by omega)]
 congr 1
 rw [hl, show L.length * 4 - L.length * 4 = 0 by omega, show L.length * 4 + 1 - L.length * 4 = 1 by omega, show L.length * 4 + 2 - L.length * 4 = 2 by omega, show L.length * 4 + 3 - L.length * 4 = 3 by omega]
 rfl
theorem own_put4 {w : World} {B gq n cap j : Nat} {e : TypeId} {L M : List Rc} {r : Rc} (hown : w.ownsRow B e 4 (.slice (some ⟨gq, 0, none⟩) n cap) n (rcsCells (L ++ r :: M))) (hj : j = L.length) (x y u h : Int) :
  ((((w.setCell ⟨gq, j * 4, none⟩ (.int .i64 x)).setCell ⟨gq, j * 4 + 1, none⟩ (.int .i64 y)).setCell ⟨gq, j * 4 + 2, none⟩ (.int .i64 u)).setCell ⟨gq, j * 4 + 3, none⟩ (.int .i64 h)).ownsRow B e 4 (.slice (some ⟨gq, 0, none⟩) n cap) n (rcsCells (L ++ ⟨x, y, u, h⟩ :: M)) ∧
  w.grownBy ((((w.setCell ⟨gq, j * 4, none⟩ (.int .i64 x)).setCell ⟨gq, j * 4 + 1, none⟩ (.int .i64 y)).setCell ⟨gq, j * 4 + 2, none⟩ (.int .i64 u)).setCell ⟨gq, j * 4 + 3, none⟩ (.int .i64 h)) (some gq) := by
 obtain ⟨s0, g0⟩ := hown.stored (j * 4) (.int .i64 x)
 obtain ⟨s1, g1⟩ := s0.stored (j * 4 + 1) (.int .i64 y)
 obtain ⟨s2, g2⟩ := s1.stored (j * 4 + 2) (.int .i64 u)
 obtain ⟨s3, g3⟩ := s2.stored (j * 4 + 3) (.int .i64 h)
 rw [show ((((rcsCells (L ++ r :: M)).set (j * 4) (.int .i64 x)).set (j * 4 + 1) (.int .i64 y)).set (j * 4 + 2) (.int .i64 u)).set (j * 4 + 3) (.int .i64 h) = rcsCells (L ++ ⟨x, y, u, h⟩ :: M) from rcs_put L M r ⟨x, y, u, h⟩ j hj] at s3
 exact ⟨s3, ((g0.trans g1).trans g2).trans g3⟩
theorem own_len {w : World} {B n : Nat} {e : TypeId} {v : Value} {L : List Rc} (h : w.ownsRow B e 4 v n (rcsCells L)) : n = L.length := by
 have := h.1; rw [rcsCells_length] at this; omega
set_option maxHeartbeats 1000000 in
set_option maxRecDepth 10000 in
theorem markRS (B : Nat) (e : TypeId) (v : Value) (L : List Rc) (k0 : Nat) (w : World) (hm : k0 + L.length ≤ 1000000000) (hown : w.ownsRow B e 4 v L.length (rcsCells L)) :
  Calls Tryz.prog 100 #[v, .int .i64 k0] w fun ed w' => ed = .returned (.int .i64 ((k0 + 4 * L.length : Nat) : Int)) ∧ w'.ownsRow B e 4 v L.length (rcsCells (marksL k0 L.length)) ∧ w.grownBy w' v.ownBlock := by
 obtain ⟨A, c, rfl⟩ := (RdR.of_own hown).form
 obtain ⟨n, hn⟩ : ∃ n, n = L.length := ⟨_, rfl⟩
 rw [← hn] at hm hown ⊢
 have Hn := Lib.hid hn
 have Hown0 := Lib.hid hown
 clear hn hown
 go_enter Tryz.func100, Tryz.ntmps100
 go_wp2_with fail
 go_loopw [1, 5] (fun s1 i wr => ∃ (k : Nat) (t : Int), k ≤ n ∧ i = .int .i64 k ∧ s1 = .int .i64 t ∧ Hid (t = ((k0 + 4 * k : Nat) : Int)) ∧ wr.ownsRow B e 4 (.slice A n c) n (rcsCells (marksL k0 k ++ L.drop k)) ∧ w.grownBy wr (Value.slice A n c).ownBlock) (fun _ i _ => n - (intOf i).toNat)
 case atStart => exact ⟨0, k0, Nat.zero_le _, rfl, rfl, Lib.hid (by simp), by simpa [marksL] using Hown0.out, World.grownBy.refl _ _⟩
 case round =>
  obtain ⟨k, t, hk, rfl, rfl, Ht, hown, hgr⟩ := hrel
  have ht0 : 0 ≤ t := by have := Ht.out; omega
  have ht1 : t ≤ 5000000000 := by have := Ht.out; omega
  by_cases hlt : k < n
  ·obtain ⟨gq, cap, hv, hgB, hgl⟩ := hown.form (by omega)
   cases hv
   obtain ⟨r, hr⟩ : ∃ r, L.drop k = r :: L.drop (k + 1) := ⟨_, List.drop_eq_getElem_cons (by rw [← Hn.out]; exact hlt)⟩
   rw [hr] at hown
   have hC : C4 wr gq (k * 4) r := by
    obtain ⟨g', r', e1, e2, e3⟩ := (RdR.of_own hown).at_ (k := k) (by rw [← own_len hown]; exact hlt)
    injection e1 with e1
    injection e1 with e1
    rw [List.getElem?_append_right (by rw [marksL_length]; exact Nat.le_refl _), marksL_length, Nat.sub_self] at e2
    injection e2 with e2
    rw [e1, e2]; exact e3
   obtain ⟨c0, c1, c2, c3⟩ := hC.cells
   have f0 := hown.frozenAt (k * 4)
   have f1 := hown.frozenAt (k * 4 + 1)
   have f2 := hown.frozenAt (k * 4 + 2)
   have f3 := hown.frozenAt (k * 4 + 3)
   have k0' : (0 : Int) ≤ (k : Int) := by omega
   have k1' : (k : Int) < (n : Int) := by omega
   have Hown := Lib.hid hown
   have Hgr := Lib.hid hgr
   have HC := Lib.hid hC
   clear hown hgr hC hr
   go_wp2_with fail
   go_roundw
   case rel =>
    obtain ⟨p1, p2⟩ := own_put4 Hown.out (j := k) (by rw [marksL_length]) t (t + 1) (t + 1 + 1) (t + 1 + 1 + 1)
    refine ⟨k + 1, _, by omega, by go_num, rfl, Lib.hid (by have := Ht.out; omega), ?_, Hgr.out.trans p2⟩
    rw [marksL_succ, List.append_assoc]
    have ee : (⟨(k0 + 4 * k : Nat), (k0 + 4 * k + 1 : Nat), (k0 + 4 * k + 2 : Nat), (k0 + 4 * k + 3 : Nat)⟩ : Rc) = ⟨t, t + 1, t + 1 + 1, t + 1 + 1 + 1⟩ := rc_ext (by have := Ht.out; dsimp only; omega)
    rw [ee]
    exact p1
   case measure => simp [intOf]; omega
  ·obtain rfl : k = n := by omega
   have hown2 : wr.ownsRow B e 4 (.slice A k c) k (rcsCells (marksL k0 k)) := by
    have h := hown
    rw [List.drop_of_length_le (by rw [← Hn.out]; exact Nat.le_refl _), List.append_nil] at h
    exact h
   have Hown2 := Lib.hid hown2
   clear hown hown2
   go_wp2_with fail
   go_ret
   exact ⟨ret_int Ht.out, Hown2.out, hgr⟩
end Go.Proofs.YtnndifemkichmaaGreat
namespace Go.Proofs.YtnndifemkichmaaGreat
open Go.RowKit
set_option maxHeartbeats 1000000 in
set_option maxRecDepth 10000 in
theorem heldRS (v : Value) (k0 n : Nat) (w : World) (hm : k0 + n ≤ 1000000000) (hrd : RdR w v (marksL k0 n)) :
  Calls Tryz.prog 101 #[v, .int .i64 k0] w fun ed w' => ed = .returned (.int .i64 ((k0 + 4 * n : Nat) : Int)) ∧ w' = w := by
 obtain ⟨A, c, rfl⟩ := hrd.form
 rw [marksL_length] at hrd ⊢
 have Hrd := Lib.hid hrd
 clear hrd
 go_enter Tryz.func101, Tryz.ntmps101
 go_wp2_with fail
 go_loopw [1, 5] (fun s1 i wr => ∃ (k : Nat) (t : Int), k ≤ n ∧ i = .int .i64 k ∧ s1 = .int .i64 t ∧ Hid (t = ((k0 + 4 * k : Nat) : Int)) ∧ wr = w) (fun _ i _ => n - (intOf i).toNat)
 case atStart => exact ⟨0, k0, Nat.zero_le _, rfl, rfl, Lib.hid (by simp), rfl⟩
 case round =>
  obtain ⟨k, t, hk, rfl, rfl, Ht, rfl⟩ := hrel
  have ht0 : 0 ≤ t := by have := Ht.out; omega
  have ht1 : t ≤ 5000000000 := by have := Ht.out; omega
  by_cases hlt : k < n
  ·obtain ⟨gq, r, rfl, hr, hC⟩ := Hrd.out.at_ (k := k) (by rw [marksL_length]; exact hlt)
   rw [marksL_get k0 n k hlt] at hr
   injection hr with hr
   have e0 : r.x = t := by rw [← hr, Ht.out]
   have e1 : r.y = t + 1 := by rw [← hr]; have := Ht.out; dsimp only; omega
   have e2 : r.w = t + 2 := by rw [← hr]; have := Ht.out; dsimp only; omega
   have e3 : r.h = t + 3 := by rw [← hr]; have := Ht.out; dsimp only; omega
   obtain ⟨c0, c1, c2, c3⟩ := hC.cells
   rw [e0] at c0
   rw [e1] at c1
   rw [e2] at c2
   rw [e3] at c3
   have k0' : (0 : Int) ≤ (k : Int) := by omega
   have k1' : (k : Int) < (n : Int) := by omega
   clear hr e0 e1 e2 e3 hC
   go_wp2_with fail
   go_roundw
   case rel => exact ⟨k + 1, _, by omega, by go_num, rfl, Lib.hid (by have := Ht.out; omega), by first | rfl | trivial⟩
   case measure => simp [intOf]; omega
  ·obtain rfl : k = n := by omega
   go_wp2_with fail
   go_ret
   exact ⟨ret_int Ht.out, rfl⟩
theorem markRg (B : Nat) (v : Value) (L : List Rc) (k0 : Nat) (w : World) (hm : k0 + L.length ≤ 1000000000) (hown : w.ownsRow B 131 4 v L.length (rcsCells L)) :
  Calls Tryz.prog 28 #[.agg #[v], .int .i64 k0] w fun ed w' => ed = .returned (.int .i64 ((k0 + 4 * L.length : Nat) : Int)) ∧ w'.ownsRow B 131 4 v L.length (rcsCells (marksL k0 L.length)) ∧ w.grownBy w' v.ownBlock := by
 have hown2 := hown.alloc (.cells #[v] 55)
 have hg := World.grownBy_alloc w (.cells #[v] 55) v.ownBlock
 have hc : (w.alloc (.cells #[v] 55)).cell? ⟨w.heap.size, 0, none⟩ = some v := new_cell w v _
 clear hown
 go_enter Tryz.func28, Tryz.ntmps28
 go_wp2_with fail
 refine (markRS B _ v L k0 _ hm hown2).mono ?_
 rintro e w1 ⟨rfl, h1, h2⟩
 have H1 := Lib.hid h1
 have H2 := Lib.hid (hg.trans h2)
 clear h1 h2 hg hown2
 go_wp2_with fail
 go_ret
 exact ⟨rfl, H1.out, H2.out⟩
theorem heldRg (v : Value) (k0 n : Nat) (w : World) (hm : k0 + n ≤ 1000000000) (hrd : RdR w v (marksL k0 n)) :
  Calls Tryz.prog 29 #[.agg #[v], .int .i64 k0] w fun ed w' => ed = .returned (.int .i64 ((k0 + 4 * n : Nat) : Int)) ∧ Below w.heap.size w w' := by
 have h2 := hrd.alloc (.cells #[v] 55)
 clear hrd
 have c1 : ¬ ((k0 + 4 * n : Nat) : Int) < 0 := by omega
 go_enter Tryz.func29, Tryz.ntmps29
 go_wp2_with fail
 refine (heldRS v k0 n _ hm h2).mono ?_
 rintro e w1 ⟨rfl, rfl⟩
 clear h2
 go_wp2_with fail
 go_ret
 exact ⟨rfl, (Below.refl _ _).alloc (Nat.le_refl _) _⟩
theorem eqRg_same (v u : Value) (L : List Rc) (w : World) (hv : RdR w v L) (hu : RdR w u L) :
  Calls Tryz.prog 23 #[.agg #[v], .agg #[u]] w fun e w' => e = .returned (.bool true) ∧ Below w.heap.size w w' := by
 have hv2 := (hv.alloc (.cells #[v] 55)).alloc (.cells #[u] 55)
 have hu2 := (hu.alloc (.cells #[v] 55)).alloc (.cells #[u] 55)
 have hw := ((Below.refl w.heap.size w).alloc (Nat.le_refl _) (.cells #[v] 55)).alloc (by simp) (.cells #[u] 55)
 clear hv hu
 go_enter Tryz.func23, Tryz.ntmps23
 go_wp2_with fail
 refine (eqRectS_same v u L _ hv2 hu2).mono ?_
 rintro e w1 ⟨rfl, hb⟩
 have Hw := Lib.hid (hw.trans (hb.mono hw.size))
 clear hv2 hu2 hw hb
 go_wp2_with fail
 go_ret
 exact ⟨rfl, Hw.out⟩
end Go.Proofs.YtnndifemkichmaaGreat
namespace Go.Proofs.YtnndifemkichmaaGreat
open Go.RowKit
structure A4 (w : World) (a : Addr) (r : Rc) : Prop where
 c0 : w.cell? a = some (.int .i64 r.x)
 c1 : w.cell? ⟨a.block, a.off + 1, none⟩ = some (.int .i64 r.y)
 c2 : w.cell? ⟨a.block, a.off + 2, none⟩ = some (.int .i64 r.w)
 c3 : w.cell? ⟨a.block, a.off + 3, none⟩ = some (.int .i64 r.h)
def LdR (w : World) (v : Value) (L : List Rc) : Prop :=
 L.length ≤ maxLen ∧ ∃ A c, v = .slice A L.length c ∧ (0 < L.length → ∃ a, A = some a ∧ ∀ k r, L[k]? = some r → A4 w (a.add (k * 4)) r)
theorem A4.call {w w' : World} {a : Addr} {r : Rc} (h : A4 w a r) (hb : Below w.heap.size w w') : A4 w' a r := by
 have hl := World.block_lt_of_cell? w _ h.c0
 exact ⟨(hb.cell hl).trans h.c0, (hb.cell (p := ⟨a.block, a.off + 1, none⟩) hl).trans h.c1, (hb.cell (p := ⟨a.block, a.off + 2, none⟩) hl).trans h.c2, (hb.cell (p := ⟨a.block, a.off + 3, none⟩) hl).trans h.c3⟩
theorem LdR.call {w w' : World} {v : Value} {L : List Rc} (h : LdR w v L) (hb : Below w.heap.size w w') : LdR w' v L := by
 obtain ⟨hm, A, c, rfl, hc⟩ := h
 refine ⟨hm, A, c, rfl, fun h0 => ?_⟩
 obtain ⟨a, rfl, hd⟩ := hc h0
 exact ⟨a, rfl, fun k r hr => (hd k r hr).call hb⟩
theorem LdR.form {w : World} {v : Value} {L : List Rc} (h : LdR w v L) : ∃ A c, v = .slice A L.length c := by
 obtain ⟨_, A, c, rfl, _⟩ := h; exact ⟨A, c, rfl⟩
theorem LdR.at_ {w : World} {A : Option Addr} {n c k : Nat} {L : List Rc} (h : LdR w (.slice A n c) L) (hk : k < L.length) : ∃ a r, A = some a ∧ L[k]? = some r ∧ A4 w (a.add (k * 4)) r := by
 obtain ⟨_, A', c', he, hc⟩ := h
 injection he with e1 e2 e3
 subst e1
 obtain ⟨g, rfl, hd⟩ := hc (by omega)
 exact ⟨g, L[k], rfl, List.getElem?_eq_getElem _, hd k _ (List.getElem?_eq_getElem _)⟩
theorem szRS_yes (n : Nat) (A : Option Addr) (c : Nat) (l : Int) (h : (n : Int) ≤ l) (hl : l ≤ 2097152) (w : World) :
  Calls Tryz.prog 208 #[.slice A n c, .int .i64 l] w fun e w' => e = .returned (.int .i64 (l - n)) ∧ w = w' := by
 have h1 : ¬ (l - (n : Int) < 0) := by omega
 go_enter Tryz.func208, Tryz.ntmps208
 go_wp2
 go_ret
 exact ⟨rfl, rfl⟩
theorem szRS_no (n : Nat) (A : Option Addr) (c : Nat) (hn : n ≤ maxLen) (l : Int) (h0 : 0 ≤ l) (h : l < (n : Int)) (w : World) :
  Calls Tryz.prog 208 #[.slice A n c, .int .i64 l] w fun e w' => e = .returned (.int .i64 (-1)) ∧ w = w' := by
 unfold maxLen at hn
 have h1 : l - (n : Int) < 0 := by omega
 go_enter Tryz.func208, Tryz.ntmps208
 go_wp2
 go_ret
 exact ⟨rfl, rfl⟩
theorem szRg_yes (n : Nat) (A : Option Addr) (c : Nat) (l : Int) (h : (n : Int) ≤ l) (hl : l ≤ 2097152) (w : World) :
  Calls Tryz.prog 155 #[.agg #[.slice A n c], .int .i64 l] w fun e w' => e = .returned (.int .i64 (l - n)) ∧ Below w.heap.size w w' := by
 have h1 : ¬ (l - (n : Int) < 0) := by omega
 go_enter Tryz.func155, Tryz.ntmps155
 go_wp2_with fail
 refine (szRS_yes n A c l h hl _).mono ?_
 rintro e w1 ⟨rfl, rfl⟩
 go_wp2_with fail
 go_ret
 exact ⟨rfl, (Below.refl _ _).alloc (Nat.le_refl _) _⟩
theorem szRg_no (n : Nat) (A : Option Addr) (c : Nat) (hn : n ≤ maxLen) (l : Int) (h0 : 0 ≤ l) (h : l < (n : Int)) (w : World) :
  Calls Tryz.prog 155 #[.agg #[.slice A n c], .int .i64 l] w fun e w' => e = .returned (.int .i64 (-1)) ∧ Below w.heap.size w w' := by
 go_enter Tryz.func155, Tryz.ntmps155
 go_wp2_with fail
 refine (szRS_no n A c hn l h0 h _).mono ?_
 rintro e w1 ⟨rfl, rfl⟩
 go_wp2_with fail
 go_ret
 exact ⟨rfl, (Below.refl _ _).alloc (Nat.le_refl _) _⟩
theorem made_rects (n : Nat) : (madeCells #[.int .i64 0, .int .i64 0, .int .i64 0, .int .i64 0] (n * 4)).toList = rcsCells (List.replicate n ⟨0, 0, 0, 0⟩) := by
 have h1 : (madeCells #[.int .i64 0, .int .i64 0, .int .i64 0, .int .i64 0] (n * 4)).toList = List.replicate (n * 4) (.int .i64 0) := by
  rw [List.eq_replicate_iff]
  refine ⟨by simp [size_madeCells], fun b hb => ?_⟩
  simp only [madeCells, Array.toList_map, Array.toList_range, List.mem_map] at hb
  obtain ⟨i, _, rfl⟩ := hb
  have : i % 4 < 4 := Nat.mod_lt _ (by omega)
  show (#[Value.int .i64 0, .int .i64 0, .int .i64 0, .int .i64 0] : Array Value)[i % 4]! = _
  obtain ⟨j, hj⟩ : ∃ j, j = i % 4 := ⟨_, rfl⟩
  rw [← hj] at this ⊢
  match j, this with
  | 0, _ => rfl
  | 1, _ => rfl
  | 2, _ => rfl
  | 3, _ => rfl
 have h2 : rcsCells (List.replicate n ⟨0, 0, 0, 0⟩) = List.replicate (n * 4) (.int .i64 0) := by
  rw [List.eq_replicate_iff]
  refine ⟨by rw [rcsCells_length, List.length_replicate], fun b hb => ?_⟩
  simp only [rcsCells, List.mem_flatMap] at hb
  obtain ⟨r, hr, hb⟩ := hb
  obtain rfl := List.eq_of_mem_replicate hr
  simp [rcCells] at hb
  exact hb
 rw [h1, h2]
theorem make_rects (n : Nat) (hn : n ≤ 2097152) (W : World) : (Instr.makeSlice 53 (.int .i64 (n : Int)) (.int .i64 (n : Int))).run Tryz.prog W =
  .ok (.slice (some ⟨W.heap.size, 0, none⟩) n n) (W.alloc (.cells (madeCells #[.int .i64 0, .int .i64 0, .int .i64 0, .int .i64 0] (n * 4)) 131)) := by
 obtain ⟨i0, hi, hz0, hz1, hz2⟩ := info_parts infoRect
 have h := run_make (P := Tryz.prog) W 53 131 i0 _ Tryz.underlying53 hi hz0 .i64 .i64 n n (by omega) (by omega) (by rw [hz2]; omega) (by omega)
 rw [hz1] at h
 simpa [Value.cells] using h
theorem own_made_rects (W : World) (B n : Nat) (hB : B ≤ W.heap.size) (hn : n ≤ 2097152) :
  (W.alloc (.cells (madeCells #[.int .i64 0, .int .i64 0, .int .i64 0, .int .i64 0] (n * 4)) 131)).ownsRow B 131 4 (.slice (some ⟨W.heap.size, 0, none⟩) n n) n (rcsCells (List.replicate n ⟨0, 0, 0, 0⟩)) := by
 refine ⟨by rw [rcsCells_length, List.length_replicate], .inr ⟨W.heap.size, n, _, rfl, hB, heap_alloc_new W _, Nat.le_refl _, by unfold maxLen; omega, size_madeCells _ _, ?_⟩⟩
 rw [made_rects, List.take_of_length_le (by rw [rcsCells_length, List.length_replicate]; exact Nat.le_refl _)]
def ToRS (L : List Rc) (w : World) (e : Ending) (w' : World) : Prop :=
 ∃ v, e = .returned v ∧ w'.ownsRow w.heap.size 131 4 v L.length (rcsCells L) ∧ Below w.heap.size w w'
set_option maxHeartbeats 1000000 in
set_option maxRecDepth 10000 in
theorem toRS (v : Value) (L : List Rc) (w : World) (hm : L.length ≤ 1048576) (h : LdR w v L) : Calls Tryz.prog 217 #[v] w (ToRS L w) := by
 obtain ⟨A, c, rfl⟩ := h.form
 obtain ⟨n, hn⟩ : ∃ n, n = L.length := ⟨_, rfl⟩
 rw [← hn] at hm h ⊢
 have Hn := Lib.hid hn
 have H := Lib.hid h
 have hmk := fun W => make_rects n (by omega) W
 clear h hn
 go_enter Tryz.func217, Tryz.ntmps217
 go_wp2_with fail
 go_loopw [4] (fun i wr => ∃ k : Nat, k ≤ n ∧ i = .int .i64 k ∧ wr.ownsRow w.heap.size 131 4 (.slice (some ⟨w.heap.size, 0, none⟩) n n) n (rcsCells (L.take k ++ List.replicate (n - k) ⟨0, 0, 0, 0⟩)) ∧ Below w.heap.size w wr) (fun i _ => n - (intOf i).toNat)
 case atStart => exact ⟨0, Nat.zero_le _, rfl, by simpa using own_made_rects w w.heap.size n (Nat.le_refl _) (by omega), (Below.refl _ _).alloc (Nat.le_refl _) _⟩
 case round =>
  obtain ⟨k, hk, rfl, hown, hb⟩ := hrel
  clear hmk
  by_cases hlt : k < n
  ·obtain ⟨a, r, rfl, hr, hA⟩ := (H.out.call hb).at_ (k := k) (by rw [← Hn.out]; exact hlt)
   have Hr := Lib.hid hr
   clear hr
   obtain ⟨c0, c1, c2, c3⟩ := hA
   have k0' : (0 : Int) ≤ (k : Int) := by omega
   have k1' : (k : Int) < (n : Int) := by omega
   go_wp2_with fail
   refine (toRect_any r _).mono ?_
   rintro e w1 ⟨rfl, hb1⟩
   have hb2 := hb.trans (hb1.mono hb.size)
   have hown2 := own_below hown hb1 (Nat.le_refl _)
   rw [show n - k = (n - (k + 1)) + 1 by omega, List.replicate_succ] at hown2
   have hlk : k = (L.take k).length := by rw [List.length_take, ← Hn.out]; omega
   have hC : C4 w1 w.heap.size (k * 4) ⟨0, 0, 0, 0⟩ := by
    obtain ⟨g', r', e1, e2, e3⟩ := (RdR.of_own hown2).at_ (k := k) (by rw [← own_len hown2]; exact hlt)
    injection e1 with e1
    injection e1 with e1
    rw [List.getElem?_append_right (by omega), ← hlk, Nat.sub_self] at e2
    injection e2 with e2
    rw [e1, e2]; exact e3
   have Hlk := Lib.hid hlk
   obtain ⟨d0, d1, d2, d3⟩ := hC.cells
   have f0 := hown2.frozenAt (k * 4)
   have f1 := hown2.frozenAt (k * 4 + 1)
   have f2 := hown2.frozenAt (k * 4 + 2)
   have f3 := hown2.frozenAt (k * 4 + 3)
   have Hown := Lib.hid hown2
   have Hb2 := Lib.hid hb2
   clear hown hown2 hb hb1 hb2 hC hlk c0 c1 c2 c3
   go_wp2_with fail
   go_roundw
   case rel =>
    obtain ⟨p1, p2⟩ := own_put4 Hown.out (j := k) Hlk.out r.x r.y r.w r.h
    refine ⟨k + 1, by omega, by go_num, ?_, Hb2.out.grown p2 Hb2.out.size (fun k hk => by injection hk with hk; omega)⟩
    rw [List.take_add_one, Hr.out, List.append_assoc]
    exact p1
   case measure => simp [intOf]; omega
  ·obtain rfl : k = n := by omega
   rw [Nat.sub_self, List.replicate_zero, List.append_nil, List.take_of_length_le (by rw [← Hn.out]; exact Nat.le_refl _)] at hown
   have Hown := Lib.hid hown
   clear hown
   go_wp2_with fail
   go_ret
   exact ⟨_, rfl, by rw [← Hn.out]; exact Hown.out, hb⟩
def ToRg (L : List Rc) (w : World) (e : Ending) (w' : World) : Prop :=
 ∃ v, e = .returned (.agg #[v]) ∧ w'.ownsRow w.heap.size 131 4 v L.length (rcsCells L) ∧ Below w.heap.size w w'
set_option maxHeartbeats 1000000 in
set_option maxRecDepth 10000 in
theorem toRg (v : Value) (L : List Rc) (w : World) (hm : L.length ≤ 1048576) (h : LdR w v L) : Calls Tryz.prog 167 #[.agg #[v]] w (ToRg L w) := by
 have hb0 := (((Below.refl w.heap.size w).alloc (Nat.le_refl _) (.cells #[v] 186)).alloc (by simp) (.cells #[.slice none 0 0] 55)).alloc (by simp; omega) (.cells #[.slice none 0 0] 55)
 have h2 := h.call hb0
 have hin := new_cell w v 186
 clear h
 go_enter Tryz.func167, Tryz.ntmps167
 go_wp2_with fail
 refine (toRS v L _ hm h2).mono ?_
 rintro e w1 ⟨u, rfl, hown, hb1⟩
 have h1 : w1.heap[w.heap.size + 1]? = some (.cells #[.slice none 0 0] 55 (0, 0)) := (hb1.block _ (by simp)).trans ((Below.heap_alloc _ _ _ (by simp)).trans (by have := heap_alloc_new (w.alloc (.cells #[v] 186)) (.cells #[.slice none 0 0] 55); simpa using this))
 have h3 : w1.heap[w.heap.size + 2]? = some (.cells #[.slice none 0 0] 55 (0, 0)) := (hb1.block _ (by simp)).trans (by have := heap_alloc_new ((w.alloc (.cells #[v] 186)).alloc (.cells #[.slice none 0 0] 55)) (.cells #[.slice none 0 0] 55); simpa using this)
 have r1 : w1.cell? ⟨w.heap.size + 1, 0, none⟩ = some (.slice none 0 0) := by simp [World.cell?, h1]
 have r3 : w1.cell? ⟨w.heap.size + 2, 0, none⟩ = some (.slice none 0 0) := by simp [World.cell?, h3]
 have f1 : w1.frozen? ⟨w.heap.size + 1, 0, none⟩ = false := by simp [World.frozen?, h1]
 have f3 : w1.frozen? ⟨w.heap.size + 2, 0, none⟩ = false := by simp [World.frozen?, h3]
 obtain ⟨A, c, hu⟩ := own_shape hown
 subst hu
 have hz := hb1.size
 simp at hz
 have Hb := Lib.hid (hb0.trans (hb1.mono hb0.size))
 have Hown := Lib.hid hown
 clear hown hb1 hb0 h1 h3
 go_wp2_with fail
 exact bodyPost_ret (v := .agg #[.slice A L.length c]) (by simp [results, Tryz.results167, go_sem, r1]) rfl ⟨_, rfl, own_set (own_set Hown.out (show w.heap.size + 2 ≤ _ by simp) (by simp) _) (Nat.le_add_right _ _) (by omega) _, (Hb.out.setCell (by simp; omega) _).setCell (by simp) _⟩
end Go.Proofs.YtnndifemkichmaaGreat
namespace Go.Proofs.YtnndifemkichmaaGreat
open Go.RowKit
theorem wp_alloc_grid {op : Oper} {a : Act} {w : World} {K : Act → World → Prop} {Q : Exit → Act → World → Prop} (d : Nat) (ho : op.op = .alloc 153) (hd : op.dst = some d)
  (h : ∀ b W', Below w.heap.size w W' → GrAt W' b 153 (fun _ => false) → w.heap.size ≤ b → K (a.put (some d) (.pointer (some ⟨b, 0, none⟩))) W') : op.wp Tryz.prog a w K Q := by
 have h1 := h w.heap.size (w.alloc (.cells (gCells fun _ => false) 153)) ((Below.refl _ _).alloc (Nat.le_refl _) _) (GrAt.new w _ _) (Nat.le_refl _)
 have hz := zeroGrid w
 unfold Oper.wp execOp
 simp only [ho, Instr.alloc, Sem.run_bind, hz, Result.andThen_ok, Sem.run_pure]
 rw [← hd] at h1
 exact h1
theorem GrAt.call {w w' : World} {b : Nat} {t : TypeId} {g : Nat → Bool} (h : GrAt w b t g) (hb : Below w.heap.size w w') : GrAt w' b t g := h.below hb h.lt
theorem cell_row {w : World} {g o b : Nat} {v : Value} (h : w.cell? ⟨g, o, none⟩ = some v) (hb : g ≠ b) (cs : Array Value) : (w.setRow b cs).cell? ⟨g, o, none⟩ = some v := by
 rw [cell_setRow_other w b cs _ hb]; exact h
def BxR (w : World) (b : Nat) : Prop := w.heap[b]? = some (.cells #[.slice none 0 0] 55 (0, 0))
theorem BxR.lt {w : World} {b : Nat} (h : BxR w b) : b < w.heap.size := (Array.getElem?_eq_some_iff.1 h).1
theorem BxR.cell {w : World} {b : Nat} (h : BxR w b) : w.cell? ⟨b, 0, none⟩ = some (.slice none 0 0) := by rw [cell_of_row _ _ _ _ _ _ h]; rfl
theorem BxR.frozen {w : World} {b : Nat} (h : BxR w b) : w.frozen? ⟨b, 0, none⟩ = false := by unfold BxR at h; simp [World.frozen?, h]
theorem BxR.call {w w' : World} {b : Nat} (h : BxR w b) (hb : Below w.heap.size w w') : BxR w' b := (hb.block b h.lt).trans h
theorem BxR.rowFar {w : World} {b c : Nat} (h : BxR w b) (hc : b ≠ c) (cs : Array Value) : BxR (w.setRow c cs) b := (setRow_other w c b cs hc).trans h
def joinG (f : Bool → Bool → Bool) (g h : Nat → Bool) (k : Nat) : Bool := f (g k) (h k)
def joinTo (f : Bool → Bool → Bool) (g h : Nat → Bool) (n k : Nat) : Bool := if k < n then f (g k) (h k) else g k
theorem joinTo_zero (f : Bool → Bool → Bool) (g h : Nat → Bool) (k : Nat) : joinTo f g h 0 k = g k := if_neg (by omega)
theorem joinTo_next (f : Bool → Bool → Bool) (g h : Nat → Bool) (n k : Nat) : gSet (joinTo f g h n) n (f (g n) (h n)) k = joinTo f g h (n + 1) k := by
 unfold gSet joinTo
 by_cases e : k = n
 ·subst e; rw [if_pos rfl, if_pos (by omega)]
 ·rw [if_neg e]
  by_cases h1 : k < n
  ·rw [if_pos h1, if_pos (by omega)]
  ·rw [if_neg h1, if_neg (by omega)]
theorem joinTo_at (f : Bool → Bool → Bool) (g h : Nat → Bool) (n : Nat) : joinTo f g h n n = g n := if_neg (by omega)
theorem joinTo_end (f : Bool → Bool → Bool) (g h : Nat → Bool) (k : Nat) (hk : k < 256) : joinTo f g h 256 k = joinG f g h k := if_pos hk
open Classical in
noncomputable def joinL (f : Bool → Bool → Bool) (A B : List Rc) : List Rc := if okL A = true ∧ okL B = true then canon (joinG f (gridOf A) (gridOf B)) else []
theorem joinL_no {f : Bool → Bool → Bool} {A B : List Rc} (h : ¬ (okL A = true ∧ okL B = true)) : joinL f A B = [] := if_neg h
theorem joinL_yes {f : Bool → Bool → Bool} {A B : List Rc} (h : okL A = true ∧ okL B = true) : joinL f A B = canon (joinG f (gridOf A) (gridOf B)) := if_pos h
theorem joinL_len (f : Bool → Bool → Bool) (A B : List Rc) : (joinL f A B).length ≤ 256 := by
 by_cases h : okL A = true ∧ okL B = true
 ·rw [joinL_yes h]; exact canon_len _
 ·rw [joinL_no h]; simp
def JoinAns (f : Bool → Bool → Bool) (A B : List Rc) (w : World) (e : Ending) (w' : World) : Prop :=
 ∃ v, e = .returned (.agg #[v]) ∧ w'.ownsRow w.heap.size 131 4 v (joinL f A B).length (rcsCells (joinL f A B)) ∧ Below w.heap.size w w'
structure CgSt (w : World) (g h : Nat → Bool) (b c : Nat) (W : World) : Prop where
 g1 : GrAt W b 153 g
 g2 : GrAt W c 153 h
 ne : b ≠ c
 l1 : w.heap.size + 3 ≤ b
 l2 : w.heap.size + 3 ≤ c
 rs : BxR W (w.heap.size + 2)
 bw : Below w.heap.size w W
theorem CgSt.call {w W W' : World} {g h : Nat → Bool} {b c : Nat} (k : CgSt w g h b c W) (hb : Below W.heap.size W W') : CgSt w g h b c W' :=
 ⟨k.g1.call hb, k.g2.call hb, k.ne, k.l1, k.l2, k.rs.call hb, k.bw.trans (hb.mono k.bw.size)⟩
theorem CgSt.congr {w W : World} {g g' h : Nat → Bool} {b c : Nat} (k : CgSt w g h b c W) (e : ∀ i, i < 256 → g i = g' i) : CgSt w g' h b c W :=
 ⟨k.g1.congr e, k.g2, k.ne, k.l1, k.l2, k.rs, k.bw⟩
theorem CgSt.set {w W : World} {g h : Nat → Bool} {b c : Nat} (k : CgSt w g h b c W) (n : Nat) (v : Bool) : CgSt w (gSet g n v) h b c (W.setCell ⟨b, n, none⟩ (.bool v)) :=
 ⟨k.g1.set n v, k.g2.far (Ne.symm k.ne) _, k.ne, k.l1, k.l2, (Below.heap_setCell W _ _ _ (by have := k.l1; simp; omega)).trans k.rs, k.bw.setCell (by have := k.l1; simp; omega) _⟩
theorem CgSt.drewSet {w W : World} {g h : Nat → Bool} {b c n : Nat} {v : Value} (k : CgSt w g h b c (W.setCell ⟨b, n, none⟩ v)) : CgSt w g h b c (W.drew.setCell ⟨b, n, none⟩ v) :=
 ⟨k.g1, k.g2, k.ne, k.l1, k.l2, k.rs, ⟨k.bw.os, k.bw.tape, k.bw.output, k.bw.size, k.bw.block⟩⟩
end Go.Proofs.YtnndifemkichmaaGreat
