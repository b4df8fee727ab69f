/- Texts of mine in one file: RunP, RunI, SrB, AppN, CanI, SameI, SameS, RgnC, ToR, MarkR, ImV, Sq, Rok. No statement is proved here. -/
import Derived.Test.YtnndifemkichmaaMA
import Derived.Test.YtnndifemkichmaaProg
import Derived.WalkKit
import Derived.ProofKit
import Derived.OpenShut
import Derived.WalkLawsBesides
import Derived.WalkSpells
import Derived.ShutString
import Derived.ChangeOld
import Derived.Below
import Derived.Lib.Hide
import Derived.BigQuiet
import Derived.Deep.QuietTactic
import Derived.Maps.AppendAt
import Derived.Deep.Draws
import Derived.Deep.MidRow
import Derived.Deep.WholeRow
import Derived.Deep.OwnRows
import Derived.Deep.RegionHeld3
import Derived.Deep.DeepCutAuto
import Derived.OwnWalk
import Derived.Deep.AppendLies
import Derived.Deep.Onto
import Derived.Deep.LoopGhost
import Derived.Laws.AppendOwn
import Derived.Handy
namespace Go.Proofs.Ytnndifemkichmaa
open Go.RowKit
def rowCells0 (g : Nat → Bool) (y : Nat) : Array Value := Array.ofFn (n := 16) fun i => .bool (g (y * 16 + i.val))
theorem rowCells_ex (g : Nat → Bool) (y : Nat) : ∃ c : Array Value, c = rowCells0 g y := ⟨_, rfl⟩
noncomputable def rowCells (g : Nat → Bool) (y : Nat) : Array Value := Classical.choose (rowCells_ex g y)
theorem rowCells_eq (g : Nat → Bool) (y : Nat) : rowCells g y = rowCells0 g y := Classical.choose_spec (rowCells_ex g y)
theorem rowCells_size (g : Nat → Bool) (y : Nat) : (rowCells g y).size = 16 := by rw [rowCells_eq]; simp [rowCells0]
theorem rowCells_get (g : Nat → Bool) (y k : Nat) (h : k < 16) : (rowCells g y)[k]? = some (.bool (g (y * 16 + k))) := by rw [rowCells_eq]; simp [rowCells0, h]
theorem GrAt.row_at {w : World} {b : Nat} {t : TypeId} {g : Nat → Bool} (h : GrAt w b t g) (y : Nat) (hy : y < 16) : w.rangeAt b (y * 16) (rowCells g y).toList := fun j v hv => by
 have hj : j < 16 := by have := (List.getElem?_eq_some_iff.1 hv).1; rw [Array.length_toList, rowCells_size] at this; exact this
 rw [Array.getElem?_toList, rowCells_get g y j hj] at hv
 rw [h.cell (y * 16 + j) (by omega), hv]
theorem infoRow : (Try.prog.info? 201).map (·.size) = some 16 := by kernel_rfl
theorem wp_load_gridrow {op : Oper} {a : Act} {w : World} {K : Act → World → Prop} {Q : Exit → Act → World → Prop} (x : Operand) (ho : op.op = .load 201 x)
  (b y : Nat) (g : Nat → Bool) (t : TypeId) (hy : y < 16) (hx : a.eval x = .pointer (some ⟨b, y * 16, none⟩)) (hG : GrAt w b t g)
  (h : K (a.put op.dst (.agg (rowCells g y))) w) : op.wp Try.prog a w K Q :=
 wp_load_mid 201 x ho b (y * 16) hx (rowCells g y).toList _ (hG.row_at y hy) Try.underlying201 rfl (by rw [Array.length_toList, rowCells_size]; exact infoRow) (by simpa using h)
def RowAt (w : World) (b : Nat) (g : Nat → Bool) (y : Nat) : Prop := w.heap[b]? = some (.cells (rowCells g y) 201 (0, 0))
theorem RowAt.lt {w : World} {b y : Nat} {g : Nat → Bool} (h : RowAt w b g y) : b < w.heap.size := (Array.getElem?_eq_some_iff.1 h).1
theorem RowAt.cell {w : World} {b y : Nat} {g : Nat → Bool} (h : RowAt w b g y) (k : Nat) (hk : k < 16) : w.cell? ⟨b, k, none⟩ = some (.bool (g (y * 16 + k))) := by
 rw [cell_of_row w b k _ _ _ h, rowCells_get g y k hk]
theorem index_row (g : Nat → Bool) (y k : Nat) (hk : k < 16) (w : World) : (Instr.index 201 (.agg (rowCells g y)) (.int .i64 (k : Int))).run Try.prog w = .ok (.bool (g (y * 16 + k))) w := by
 have hn : 0 ≤ (k : Int) ∧ (k : Int) < ((16 : Nat) : Int) := by omega
 have hg := rowCells_get g y k hk
 simp [Instr.index, run_underlying Try.underlying201, asIntOf, hn, go_sem, hg]
 intro h16
 omega
structure RunInv (g : Nat → Bool) (y h : Nat) (out : List Rc) (k : Nat) : Prop where
 it : iterI g y h out k = runs g y h 0
 wd : ∀ r ∈ out, 0 ≤ r.w ∧ r.w ≤ k
 ne : 0 < k → g (y * 16 + (k - 1)) = true → out ≠ []
 ln : out.length ≤ k
theorem RunInv.start (g : Nat → Bool) (y h : Nat) : RunInv g y h [] 0 := ⟨iterI_all g y h, fun r hr => (by cases hr), fun h0 => (by omega), Nat.le_refl _⟩
theorem RunInv.no {g : Nat → Bool} {y h k : Nat} {out : List Rc} (i : RunInv g y h out k) (hk : k < 16) (hg : g (y * 16 + k) = false) : RunInv g y h out (k + 1) := by
 refine ⟨by rw [← i.it, iterI_go _ _ _ _ _ hk, stepI_no hg], fun r hr => ?_, fun _ h1 => ?_, ?_⟩
 ·have := i.wd r hr; push_cast; omega
 ·rw [show k + 1 - 1 = k by omega, hg] at h1; cases h1
 ·have := i.ln; omega
theorem RunInv.new {g : Nat → Bool} {y h k : Nat} {out : List Rc} (i : RunInv g y h out k) (hk : k < 16) (hg : g (y * 16 + k) = true) (hp : k = 0 ∨ g (y * 16 + (k - 1)) = false) : RunInv g y h (out ++ [⟨k, y, 0 + 1, h⟩]) (k + 1) := by
 refine ⟨by rw [← i.it, iterI_go _ _ _ _ _ hk, stepI_new hg hp]; rfl, fun r hr => ?_, fun _ _ => by simp, ?_⟩
 ·rcases List.mem_append.1 hr with hr | hr
  ·have := i.wd r hr; push_cast; omega
  ·obtain rfl := List.mem_singleton.1 hr
   show (0 : Int) ≤ 0 + 1 ∧ (0 : Int) + 1 ≤ ((k + 1 : Nat) : Int)
   constructor <;> omega
 ·have := i.ln; rw [List.length_append, List.length_singleton]; omega
theorem RunInv.more {g : Nat → Bool} {y h k : Nat} {out : List Rc} (i : RunInv g y h out k) (hk : k < 16) (hg : g (y * 16 + k) = true) (h0 : 0 < k) (hp : g (y * 16 + (k - 1)) = true) :
  ∃ (o : List Rc) (r : Rc), out = o ++ [r] ∧ 0 ≤ r.w ∧ r.w ≤ k ∧ RunInv g y h (o ++ [⟨r.x, r.y, r.w + 1, r.h⟩]) (k + 1) := by
 have hne := i.ne h0 hp
 have hw := i.wd (out.getLast hne) (List.getLast_mem hne)
 have e := (List.dropLast_concat_getLast hne).symm
 refine ⟨out.dropLast, out.getLast hne, e, hw.1, hw.2, ?_, fun r hr => ?_, fun _ _ => by simp, ?_⟩
 ·rw [← i.it, iterI_go _ _ _ _ _ hk, stepI_more hg (fun hx => hx.elim (fun h1 => by omega) (fun h1 => by rw [hp] at h1; cases h1))]
  conv => rhs; rw [e]
  rw [bump_last]
 ·rcases List.mem_append.1 hr with hr | hr
  ·have := i.wd r ((List.dropLast_sublist out).subset hr); push_cast; omega
  ·obtain rfl := List.mem_singleton.1 hr
   show (0 : Int) ≤ (out.getLast hne).w + 1 ∧ (out.getLast hne).w + 1 ≤ ((k + 1 : Nat) : Int)
   constructor <;> omega
 ·have := i.ln
  have h2 := congrArg List.length e
  rw [List.length_append] at h2 ⊢
  simp only [List.length_singleton] at h2 ⊢
  omega
theorem RunInv.done {g : Nat → Bool} {y h k : Nat} {out : List Rc} (i : RunInv g y h out k) (hk : 16 ≤ k) : out = runs g y h 0 := by rw [← i.it, iterI_end _ _ _ _ _ hk]
theorem rcs_bump (o : List Rc) (r : Rc) : (rcsCells (o ++ [r])).set (o.length * 4 + 2) (.int .i64 (r.w + 1)) = rcsCells (o ++ [⟨r.x, r.y, r.w + 1, r.h⟩]) := by
 rw [rcsCells_append, rcsCells_append, rcsCells_one, rcsCells_one, List.set_append_right _ _ (by rw [rcsCells_length]; omega), rcsCells_length]
 congr 1
 rw [show o.length * 4 + 2 - o.length * 4 = 2 by omega]
 rfl
theorem rcs_last (o : List Rc) (r : Rc) : (rcsCells (o ++ [r]))[o.length * 4 + 2]? = some (.int .i64 r.w) := by
 rw [rcs_get (o ++ [r]) o.length 2 r (by simp) (by omega)]
 rfl
end Go.Proofs.Ytnndifemkichmaa
namespace Go.Proofs.Ytnndifemkichmaa
open Go.RowKit
def RunAns (g : Nat → Bool) (y h : Nat) (w : World) (e : Ending) (w' : World) : Prop :=
 ∃ v, e = .returned v ∧ w'.ownsRow w.heap.size 165 4 v (runs g y h 0).length (rcsCells (runs g y h 0)) ∧ Below w.heap.size w w'
structure RnSt (w : World) (g : Nat → Bool) (y : Nat) (v : Value) (L : List Rc) (wr : World) : Prop where
 rw : RowAt wr w.heap.size g y
 own : wr.ownsRow (w.heap.size + 1) 165 4 v L.length (rcsCells L)
 bw : Below w.heap.size w wr
theorem RnSt.grown {w wr w2 : World} {y : Nat} {g : Nat → Bool} {v v' : Value} {L L' : List Rc} (h : RnSt w g y v L wr)
  (hown : w2.ownsRow (w.heap.size + 1) 165 4 v' L'.length (rcsCells L')) (hgr : wr.grownBy w2 v.ownBlock) : RnSt w g y v' L' w2 :=
 ⟨(hgr.block _ h.rw.lt (fun e => by have := (h.own.lt _ e.symm).1; omega)).trans h.rw, hown, h.bw.grown hgr h.bw.size (fun k hk => by have := (h.own.lt k hk).1; omega)⟩
theorem RnSt.bumped {w wx : World} {y : Nat} {g : Nat → Bool} {gq cq m : Nat} {o : List Rc} {r : Rc} (hm : m = o.length) (hrow : RowAt wx w.heap.size g y) (hbw : Below w.heap.size w wx)
  (hown : wx.ownsRow (w.heap.size + 1) 165 4 (.slice (some ⟨gq, 0, none⟩) (m + 1) cq) (m + 1) (rcsCells (o ++ [r]))) :
  RnSt w g y (.slice (some ⟨gq, 0, none⟩) (m + 1) cq) (o ++ [⟨r.x, r.y, r.w + 1, r.h⟩]) (wx.setCell ⟨gq, m * 4 + 2, none⟩ (.int .i64 (r.w + 1))) := by
 subst hm
 obtain ⟨h1, h2⟩ := hown.stored (o.length * 4 + 2) (.int .i64 (r.w + 1))
 rw [rcs_bump] at h1
 have hg := (hown.lt gq rfl).1
 refine ⟨(Below.heap_setCell wx _ _ _ (by simp; omega)).trans hrow, ?_, hbw.setCell (by simp; omega) _⟩
 rw [List.length_append, List.length_singleton]
 exact h1
theorem own_last {w wx : World} {gq cq m : Nat} {o : List Rc} {r : Rc} (hm : m = o.length)
  (hown : wx.ownsRow (w.heap.size + 1) 165 4 (.slice (some ⟨gq, 0, none⟩) (m + 1) cq) (m + 1) (rcsCells (o ++ [r]))) :
  wx.cell? ⟨gq, m * 4 + 2, none⟩ = some (.int .i64 r.w) ∧ wx.frozen? ⟨gq, m * 4 + 2, none⟩ = false := by
 subst hm
 exact ⟨(hown.cellAt (o.length * 4 + 2) (by omega)).trans (rcs_last o r), hown.frozenAt _⟩
set_option maxHeartbeats 2000000 in
set_option maxRecDepth 10000 in
theorem runI (g : Nat → Bool) (y h : Nat) (w : World) : Calls Try.prog 160 #[.agg (rowCells g y), .int .i64 y, .int .i64 h] w (RunAns g y h w) := by
  obtain ⟨i0, hi, hz0, hz1, hz2⟩ := info_parts infoRect
  have hS0 : RnSt w g y (.slice none 0 0) [] (w.alloc (.cells (rowCells g y) 201)) := ⟨heap_alloc_new w _, World.ownsRow_nil _ _ _ _, (Below.refl _ _).alloc (Nat.le_refl _) _⟩
  go_enter Try.func160, Try.ntmps160
  go_wp2_with (refine wpList_load_row rfl 201 (.tmp 3) rfl w.heap.size rfl _ _ _ _ hS0.rw Try.underlying201 rfl (by rw [rowCells_size]; exact infoRow) ?_)
  go_loopg [7, 11] 16 (fun gk s7 i wr => ∃ (k : Nat) (v : Value) (L : List Rc), k ≤ 16 ∧ gk = 16 - k ∧ s7 = v ∧ i = .int .i64 k ∧ Hid (RunInv g y h L k) ∧ RnSt w g y v L wr)
  case atStart => exact ⟨0, _, [], Nat.zero_le _, rfl, rfl, rfl, Lib.hid (RunInv.start g y h), hS0⟩
  case round =>
    clear hS0
    obtain ⟨k, v, L, hk, rfl, rfl, rfl, hI, hS⟩ := hrel
    by_cases hk16 : k < 16
    · have hki : (k : Int) < 16 := by omega
      have hk0 : (0 : Int) ≤ (k : Int) := by omega
      have hix := index_row g y k hk16 wr
      obtain ⟨p, hp⟩ : ∃ p, p = g (y * 16 + k) := ⟨_, rfl⟩
      rw [← hp] at hix
      have Hp := Lib.hid hp.symm
      clear hp
      have hln := hI.out.ln
      cases p
      · go_wp2_with fail
        go_roundg (16 - (k + 1))
        case measure => omega
        case rel => exact ⟨k + 1, _, L, by omega, rfl, rfl, by go_num, Lib.hid (hI.out.no hk16 Hp.out), hS⟩
      · have hk0' := hk0
        by_cases hnew : k = 0 ∨ g (y * 16 + (k - 1)) = false
        · have hI2 : Hid (RunInv g y h (L ++ [⟨(k : Nat), y, 0 + 1, h⟩]) (k + 1)) := Lib.hid (hI.out.new hk16 Hp.out hnew)
          have Hnew := Lib.hid hnew
          clear hnew
          (by_cases hz : k = 0)
          (have hzb : ((k : Int) == 0) = true := by rw [beq_iff_eq]; omega
           clear hz)
          rotate_left
          (have hzb : ((k : Int) == 0) = false := by rw [beq_eq_false_iff_ne]; omega
           have hprev := hS.rw.cell (k - 1) (by omega)
           rw [show g (y * 16 + (k - 1)) = false from Hnew.out.resolve_left hz] at hprev
           have hk1 : (0 : Int) ≤ (k : Int) - 1 := by omega
           have hk2 : (k : Int) - 1 < 16 := by omega)
          all_goals
            go_wp2_with (at_builtin; refine wpList_append_own _ rfl _ _ 88 rfl (w.heap.size + 1) 165 i0 (.agg #[.int .i64 0, .int .i64 0, .int .i64 0, .int .i64 0]) 4 32 Try.underlying88 hi hz0 hz1 hz2 rfl (by decide) _ _ _ rfl (hS.own.alloc _) ⟨_, 0, none⟩ 1 1 _ rfl rfl (World.news_of_block (cs := #[.int .i64 k, .int .i64 y, .int .i64 0, .int .i64 h]) (fr := (0, 0)) (heap_alloc_new _ _)) (by intro u' hu'; simp at hu'; rcases hu' with rfl | rfl | rfl | rfl <;> rfl) (by unfold maxLen; omega) (by omega) (by have := hS.bw.size; have := hS.rw.lt; simp; omega) ?_)
            intro v2 w2 hown2 hgrow _
            obtain ⟨gq, cq, hvq, _, _⟩ := hown2.form (by omega)
            subst hvq
            have hrow : RowAt w2 w.heap.size g y := (hgrow.block _ (by have := hS.rw.lt; simp; omega) (fun e => by have := (hS.own.lt _ e.symm).1; omega)).trans ((Below.heap_alloc wr _ _ hS.rw.lt).trans hS.rw)
            have hbw : Below w.heap.size w w2 := (hS.bw.alloc hS.bw.size _).grown hgrow (by have := hS.bw.size; simp; omega) (fun k hk => by have := (hS.own.lt k hk).1; omega)
            have hown3 : w2.ownsRow (w.heap.size + 1) 165 4 (.slice (some ⟨gq, 0, none⟩) (L.length + 1) cq) (L.length + 1) (rcsCells (L ++ [⟨k, y, 0, h⟩])) := by rw [rcsCells_append, rcsCells_one]; exact hown2
            obtain ⟨lc, lf⟩ := own_last rfl hown3
            have HS := Lib.hid (RnSt.bumped rfl hrow hbw hown3)
            clear hown2 hown3 hgrow hrow hbw
            go_wp2_with fail
            go_roundg (16 - (k + 1))
            case measure => omega
            case rel => exact ⟨k + 1, _, L ++ [⟨(k : Nat), y, 0 + 1, h⟩], by omega, rfl, rfl, by go_num, hI2, HS.out⟩
        · have hz : ¬ k = 0 := fun e => hnew (.inl e)
          have hpt : g (y * 16 + (k - 1)) = true := by
            rcases e : g (y * 16 + (k - 1)) with _ | _
            · exact absurd (.inr e) hnew
            · rfl
          obtain ⟨o, r, ho, hr0, hr1, hI2⟩ := hI.out.more hk16 Hp.out (by omega) hpt
          have HI2 := Lib.hid hI2
          have hprev := hS.rw.cell (k - 1) (by omega)
          rw [hpt] at hprev
          have hzb : ((k : Int) == 0) = false := by rw [beq_eq_false_iff_ne]; omega
          have hk1 : (0 : Int) ≤ (k : Int) - 1 := by omega
          have hk2 : (k : Int) - 1 < 16 := by omega
          obtain ⟨m, hm⟩ : ∃ m, m = o.length := ⟨_, rfl⟩
          have hown3 := hS.own
          rw [ho, List.length_append, List.length_singleton, ← hm] at hown3
          obtain ⟨gq, cq, hvq, _, _⟩ := hown3.form (by omega)
          subst hvq
          obtain ⟨lc, lf⟩ := own_last hm hown3
          have HS := Lib.hid (RnSt.bumped hm hS.rw hS.bw hown3)
          rw [ho, List.length_append, List.length_singleton, ← hm] at hln
          obtain ⟨rw, hrw⟩ : ∃ z, z = r.w := ⟨_, rfl⟩
          rw [← hrw] at lc hr0 hr1
          have Hrw := Lib.hid hrw
          have Hm := Lib.hid hm
          clear hown3 hnew hpt hI2 hI ho hrw hm hS
          go_wp2_with fail
          go_roundg (16 - (k + 1))
          case measure => omega
          case rel => exact ⟨k + 1, _, o ++ [⟨r.x, r.y, r.w + 1, r.h⟩], by omega, rfl, rfl, by go_num, HI2, by rw [Hrw.out]; exact HS.out⟩
    · have hki : ¬ (k : Int) < 16 := by omega
      have hd := hI.out.done (by omega)
      have Hd := Lib.hid hd
      clear hd
      go_wp2_with fail
      go_ret
      have h1 := hS.own.mono (show w.heap.size ≤ w.heap.size + 1 by omega)
      rw [Hd.out] at h1
      exact ⟨_, rfl, h1, hS.bw⟩
end Go.Proofs.Ytnndifemkichmaa
namespace Go.Proofs.Ytnndifemkichmaa
open Go.RowKit
set_option maxHeartbeats 600000 in
set_option maxRecDepth 10000 in
theorem srB (b : Nat) (g : Nat → Bool) (y z : Nat) (hy : y < 16) (hz : z < 16) (c d : Nat) (w : World) (hG : GrAt w b 203 g) :
  Calls Try.prog 159 #[.slice (some ⟨b, z * 16, none⟩) 16 c, .slice (some ⟨b, y * 16, none⟩) 16 d] w fun e w' => e = .returned (.bool (rowEq g y z)) ∧ ∃ q, w' = w.drewN q := by
 have HG := Lib.hid hG
 clear hG
 go_enter Try.func159, Try.ntmps159
 go_wp2_with fail
 go_loopw [13] (fun i wr => ∃ k : Nat, k ≤ 16 ∧ i = .int .i64 k ∧ (∀ j, j < k → g (y * 16 + j) = g (z * 16 + j)) ∧ ∃ q, wr = w.drewN q) (fun i _ => 16 - (intOf i).toNat)
 case atStart => exact ⟨0, Nat.zero_le _, rfl, fun j hj => by omega, 0, rfl⟩
 case round =>
  obtain ⟨k, hk, rfl, hall, q, rfl⟩ := hrel
  have Hall := Lib.hid hall
  clear hall
  by_cases hlt : k < 16
  ·have hki : (k : Int) < 16 := by omega
   have c1 := HG.out.cell (y * 16 + k) (by omega)
   have c2 := HG.out.cell (z * 16 + k) (by omega)
   obtain ⟨p, hp⟩ : ∃ p, p = g (y * 16 + k) := ⟨_, rfl⟩
   obtain ⟨r, hr⟩ : ∃ r, r = g (z * 16 + k) := ⟨_, rfl⟩
   rw [← hp] at c1
   rw [← hr] at c2
   have b0 : (0 : Int) ≤ (k : Int) := by omega
   have Hp := Lib.hid hp
   have Hr := Lib.hid hr
   clear hp hr
   by_cases hpr : p = r
   ·subst hpr
    go_wp2_with fail
    go_quiet (fail)
    go_wp2_with fail
    rename_i nq
    go_roundw
    case rel =>
     refine ⟨k + 1, by omega, by go_num, fun j hj => ?_, _, rfl⟩
     by_cases e : j < k
     ·exact Hall.out j e
     ·obtain rfl : j = k := by omega
      rw [← Hp.out, ← Hr.out]
    case measure => simp [intOf]; omega
   ·have hb : (r == p) = false := by rw [beq_eq_false_iff_ne]; exact Ne.symm hpr
    have hne : rowEq g y z = false := by
     rcases he : rowEq g y z with _ | _
     ·rfl
     ·exact absurd ((rowEq_iff g y z).1 he k hlt) (by rw [← Hp.out, ← Hr.out]; exact hpr)
    have Hne := Lib.hid hne
    clear hne hpr
    go_wp2_with fail
    go_quiet (fail)
    go_wp2_with fail
    go_ret
    exact ⟨ret_bool Hne.out.symm, q + _, by first | rfl | exact World.drewN_drewN _ _ _⟩
  ·obtain rfl : k = 16 := by omega
   have heq : rowEq g y z = true := (rowEq_iff g y z).2 Hall.out
   have Heq := Lib.hid heq
   clear heq
   go_wp2_with fail
   go_ret
   exact ⟨ret_bool Heq.out.symm, _, rfl⟩
end Go.Proofs.Ytnndifemkichmaa
namespace Go.Proofs.Ytnndifemkichmaa
theorem run_append_none {P : Program} (w : World) (base : Nat) (t ty e : TypeId) (i : TypeInfo) (size : Nat) (ht : P.underlying t = some (.slice e)) (hi : P.info? e = some i)
  (v : Value) (n : Nat) (xs : List Value) (hown : w.ownsRow base e size v n xs) :
  (Builtin.append_ #[t, t] ty #[v, .slice none 0 0]).run P w = .ok v w := by
 rcases hown.2 with ⟨rfl, rfl⟩ | ⟨g, cap, cur, rfl, _, _, hn, _, _, _⟩
 ·simp [Builtin.append_, run_underlying ht, sizeOf, typeInfo, hi, Builtin.lenOf, Builtin.firstCells]
 ·simp [Builtin.append_, run_underlying ht, sizeOf, typeInfo, hi, Builtin.lenOf, Builtin.firstCells, loadCells, storeCells, hn]
theorem wpList_append_row {P : Program} {ops : Array Oper} {rest : List Oper} {o : Oper} {a : Act} {w : World} {Q : Exit → Act → World → Prop} (hgd : o.guard = none) (s x : Operand) (t : TypeId)
  (ho : o.op = .call { callee := .builtin .append, args := #[s, x], argTypes := #[t, t] })
  (base base' : Nat) (e : TypeId) (i : TypeInfo) (z : Value) (size bytes : Nat) (ht : P.underlying t = some (.slice e)) (hi : P.info? e = some i) (hz : i.zero = some z)
  (hsize : i.size = size) (hby : i.bytes = bytes) (hzs : z.cells.size = size) (hsz : 0 < size)
  (v : Value) (n : Nat) (xs : List Value) (hs : a.eval s = v) (hown : w.ownsRow base e size v n xs)
  (u : Value) (m : Nat) (news : List Value) (hx : a.eval x = u) (hu : w.ownsRow base' e size u m news) (h1 : ∀ u ∈ news, u.oneCell' = true)
  (h63 : n + m ≤ maxLen) (hbytes : (n + m) * bytes ≤ 140737488355328) (hbase : base ≤ w.heap.size)
  (h : ∀ v' w', w'.ownsRow base e size v' (n + m) (xs ++ news) → w.grownBy w' v.ownBlock → wpList P ops Q rest (a.put o.dst v') w') : wpList P ops Q (o :: rest) a w := by
 rcases hu.2 with ⟨rfl, rfl⟩ | ⟨g, cap, cur, rfl, _, _, hn, _, _, _⟩
 ·have hnil : news = [] := List.eq_nil_of_length_eq_zero (by have := hu.1; omega)
  subst hnil
  refine wpList_plain hgd fun K hK => ?_
  have hr := run_append_none w base t o.type e i size ht hi v n xs hown
  unfold Oper.wp execOp
  simp only [ho, resolve, invoke, builtin, Sem.run_bind, Sem.run_pure, Result.andThen_ok, List.map_toArray, List.map_cons, List.map_nil, hs, hx, hr]
  refine hK _ _ (h v w (by simpa using hown) ⟨rfl, rfl, rfl, Nat.le_refl _, fun _ _ _ => rfl⟩)
 ·exact wpList_append_own w hgd s x t ho base e i z size bytes ht hi hz hsize hby hzs hsz v n xs hs hown ⟨g, 0, none⟩ m cap news hx hu.1 (hu.cells rfl) h1 h63 hbytes hbase (fun v' w' h2 h3 _ => h v' w' h2 h3)
end Go.Proofs.Ytnndifemkichmaa
namespace Go.Proofs.Ytnndifemkichmaa
open Go.RowKit
structure CiSt (w : World) (g : Nat → Bool) (v : Value) (L : List Rc) (wr : World) : Prop where
 gr : GrAt wr w.heap.size 203 g
 rs : wr.heap[w.heap.size + 1]? = some (.cells #[.slice none 0 0] 90 (0, 0))
 own : wr.ownsRow (w.heap.size + 2) 165 4 v L.length (rcsCells L)
 bw : Below w.heap.size w wr
theorem CiSt.drewN {w wr : World} {g : Nat → Bool} {v : Value} {L : List Rc} (h : CiSt w g v L wr) (q : Nat) : CiSt w g v L (wr.drewN q) :=
 ⟨h.gr.drewN q, h.rs, own_drewN h.own q, below_drewN h.bw q⟩
theorem CiSt.size {w wr : World} {g : Nat → Bool} {v : Value} {L : List Rc} (h : CiSt w g v L wr) : w.heap.size + 1 < wr.heap.size := (Array.getElem?_eq_some_iff.1 h.rs).1
theorem CiSt.call {w wr w' : World} {g : Nat → Bool} {v : Value} {L : List Rc} (h : CiSt w g v L wr) (hb : Below wr.heap.size wr w') : CiSt w g v L w' :=
 ⟨h.gr.below hb h.gr.lt, (hb.block _ h.size).trans h.rs, own_below h.own hb (Nat.le_refl _), h.bw.trans (hb.mono h.bw.size)⟩
theorem CiSt.next {w wr w2 : World} {g : Nat → Bool} {v v' : Value} {L M : List Rc} (h : CiSt w g v L wr)
  (hown : w2.ownsRow (w.heap.size + 2) 165 4 v' (L.length + M.length) (rcsCells L ++ rcsCells M)) (hgr : wr.grownBy w2 v.ownBlock) : CiSt w g v' (L ++ M) w2 := by
 have hlow : ∀ k, k < w.heap.size + 2 → some k ≠ v.ownBlock := fun k hk e => by have := (h.own.lt k e.symm).1; omega
 refine ⟨h.gr.grown hgr (hlow _ (by omega)), (hgr.block _ h.size (hlow _ (by omega))).trans h.rs, ?_, h.bw.grown hgr h.bw.size (fun k hk => by have := (h.own.lt k hk).1; omega)⟩
 rw [List.length_append, rcsCells_append]
 exact hown
theorem runI' (g : Nat → Bool) (y h : Nat) (hi : Int) (e : hi = (h : Int)) (w : World) : Calls Try.prog 160 #[.agg (rowCells g y), .int .i64 y, .int .i64 hi] w (RunAns g y h w) := by
 subst e
 exact runI g y h w
set_option maxHeartbeats 2000000 in
set_option maxRecDepth 10000 in
theorem canI (g : Nat → Bool) (w : World) : Calls Try.prog 155 #[.agg (gCells g)] w (CanAns g w) := by
  obtain ⟨i0, hi, hz0, hz1, hz2⟩ := info_parts infoRect
  have hS0 : CiSt w g (.slice none 0 0) [] ((w.alloc (.cells (gCells g) 203)).alloc (.cells #[.slice none 0 0] 90)) :=
    ⟨(GrAt.new _ _ _).alloc _, by have := heap_alloc_new (w.alloc (.cells (gCells g) 203)) (.cells #[.slice none 0 0] 90); simpa using this,
      World.ownsRow_nil _ _ _ _, ((Below.refl _ _).alloc (Nat.le_refl _) _).alloc (by simp) _⟩
  go_enter Try.func155, Try.ntmps155
  go_wp2_with fail
  go_loopg [3, 4] 16 (fun gk s3 i wr => ∃ (y : Nat) (L : List Rc), y ≤ 16 ∧ gk = 16 - y ∧ i = .int .i64 y ∧ Hid (canon g = L ++ bands g y) ∧ CiSt w g s3 L wr)
  case atStart => exact ⟨0, [], Nat.zero_le _, rfl, rfl, Lib.hid rfl, hS0⟩
  case round =>
    clear hS0
    obtain ⟨y, L, hy, rfl, rfl, hB, hS⟩ := hrel
    by_cases hy16 : y < 16
    · have hy16i : (y : Int) < 16 := by omega
      have hy0 : (0 : Int) ≤ (y : Int) := by omega
      go_wp2_with fail
      go_loopg [5] 15 (fun g2 i2 wy => ∃ h : Nat, 1 ≤ h ∧ y + h ≤ 16 ∧ g2 = 16 - h ∧ i2 = .int .i64 ((y : Int) + (h : Int)) ∧ Hid (bandFrom g y h = bandH g y) ∧ CiSt w g u3 L wy)
      case atStart => exact ⟨1, Nat.le_refl _, by omega, by omega, by go_num, Lib.hid rfl, hS⟩
      case round =>
        clear hS
        obtain ⟨h, hh1, hh2, rfl, rfl, hH, hS⟩ := hrel
        by_cases hc : y + h < 16 ∧ rowEq g y (y + h) = true
        · have hyh := hc.1
          have hyi : (y : Int) + (h : Int) < 16 := by omega
          have hyi0 : (0 : Int) ≤ (y : Int) + (h : Int) := by omega
          have Hre := Lib.hid hc.2
          clear hc
          have hsr : ∀ q, Calls Try.prog 159 #[.slice (some ⟨w.heap.size, (y + h) * 16, none⟩) 16 16, .slice (some ⟨w.heap.size, y * 16, none⟩) 16 16] (wr.drewN q) fun e w' => e = .returned (.bool true) ∧ ∃ m, w' = (wr.drewN q).drewN m := fun q => by
            have := srB w.heap.size g y (y + h) (by omega) (by omega) 16 16 (wr.drewN q) (hS.gr.drewN q)
            rw [Hre.out] at this
            exact this
          have Hsr := Lib.hid hsr
          clear hsr
          have hba : ((y : Int) + (h : Int)).toNat = y + h := by omega
          go_wp2_with fail
          go_quiet ((go_at_call 159; refine Calls.quiet_of (Hsr.out _)))
          go_wp2_with fail
          rename_i nq
          go_roundg (16 - (h + 1))
          case measure => omega
          case rel => exact ⟨h + 1, by omega, by omega, rfl, by go_num, Lib.hid ((bandFrom_go hyh Hre.out).symm.trans hH.out), hS.drewN _⟩
        · have hbh : bandH g y = h := hH.out.symm.trans (bandFrom_stop hc)
          have hB2 : Hid (canon g = (L ++ runs g y h 0) ++ bands g (y + h)) := Lib.hid (by rw [hB.out, bands_open g y h hy16 hbh, List.append_assoc])
          have hlen : L.length + (runs g y h 0).length ≤ 256 := by have := canon_part hB2.out; rwa [List.length_append] at this
          have Hc := Lib.hid hc
          clear hc hB hH hbh
          (by_cases hyh : y + h < 16)
          (have hyi : (y : Int) + (h : Int) < 16 := by omega
           have hyi0 : (0 : Int) ≤ (y : Int) + (h : Int) := by omega
           have hre : rowEq g y (y + h) = false := by
            rcases e : rowEq g y (y + h) with _ | _
            · rfl
            · exact absurd ⟨hyh, e⟩ Hc.out
           have Hre := Lib.hid hre
           clear hre
           have hsr : ∀ q, Calls Try.prog 159 #[.slice (some ⟨w.heap.size, (y + h) * 16, none⟩) 16 16, .slice (some ⟨w.heap.size, y * 16, none⟩) 16 16] (wr.drewN q) fun e w' => e = .returned (.bool false) ∧ ∃ m, w' = (wr.drewN q).drewN m := fun q => by
            have := srB w.heap.size g y (y + h) (by omega) (by omega) 16 16 (wr.drewN q) (hS.gr.drewN q)
            rw [Hre.out] at this
            exact this
           have Hsr := Lib.hid hsr
           clear hsr
           have hba : ((y : Int) + (h : Int)).toNat = y + h := by omega
           go_wp2_with fail
           go_quiet ((go_at_call 159; refine Calls.quiet_of (Hsr.out _)))
           rename_i nq
           have hS := hS.drewN nq
           clear Hsr hba hyi0 hyi)
          · skip
            go_upto_region 7 with fail
            iterate 12 (first | (refine wp_load_gridrow (.tmp 25) rfl w.heap.size y g _ hy16 rfl hS.gr ?_) | go_step)
            go_wp2_with fail
            refine (runI' g y h ((y : Int) + (h : Int) - (y : Int)) (by omega) _).mono ?_
            rintro e w2 ⟨vr, rfl, hownr, hbr⟩
            have hS := hS.call hbr
            go_wp2_with (at_builtin; refine wpList_append_row rfl _ _ 88 rfl (w.heap.size + 2) _ 165 i0 (.agg #[.int .i64 0, .int .i64 0, .int .i64 0, .int .i64 0]) 4 32 Try.underlying88 hi hz0 hz1 hz2 rfl (by decide) _ _ _ rfl hS.own _ _ _ rfl hownr (rcs_one _) (by unfold maxLen; omega) (by omega) (by have := hS.size; omega) ?_)
            intro v2 w3 hown3 hgrow
            have hS := hS.next hown3 hgrow
            clear hown3 hgrow hownr hbr
            go_wp2_with fail
            go_roundg (16 - (y + h))
            case measure => omega
            case rel => exact ⟨y + h, L ++ runs g y h 0, by omega, rfl, by go_num, hB2, hS⟩
          · skip
            (have hyi : ¬ (y : Int) + (h : Int) < 16 := by omega
             go_wp2_with fail
             have hyd : ((y : Int) + (h : Int) < 16) = False := by apply eq_false; omega
             go_quiet (fail)
             rename_i nq
             have hS := hS.drewN nq
             clear hyi hyd)
            go_upto_region 7 with fail
            iterate 12 (first | (refine wp_load_gridrow (.tmp 25) rfl w.heap.size y g _ hy16 rfl hS.gr ?_) | go_step)
            go_wp2_with fail
            refine (runI' g y h ((y : Int) + (h : Int) - (y : Int)) (by omega) _).mono ?_
            rintro e w2 ⟨vr, rfl, hownr, hbr⟩
            have hS := hS.call hbr
            go_wp2_with (at_builtin; refine wpList_append_row rfl _ _ 88 rfl (w.heap.size + 2) _ 165 i0 (.agg #[.int .i64 0, .int .i64 0, .int .i64 0, .int .i64 0]) 4 32 Try.underlying88 hi hz0 hz1 hz2 rfl (by decide) _ _ _ rfl hS.own _ _ _ rfl hownr (rcs_one _) (by unfold maxLen; omega) (by omega) (by have := hS.size; omega) ?_)
            intro v2 w3 hown3 hgrow
            have hS := hS.next hown3 hgrow
            clear hown3 hgrow hownr hbr
            go_wp2_with fail
            go_roundg (16 - (y + h))
            case measure => omega
            case rel => exact ⟨y + h, L ++ runs g y h 0, by omega, rfl, by go_num, hB2, hS⟩
    · have hy16i : ¬ (y : Int) < 16 := by omega
      have hB2 : L = canon g := by rw [hB.out, bands_end g y (by omega), List.append_nil]
      obtain ⟨A, cv, hv⟩ := (RdR.of_own hS.own).form
      subst hv
      have rc : wr.cell? ⟨w.heap.size + 1, 0, none⟩ = some (.slice none 0 0) := by have := hS.rs; simp [World.cell?, this]
      have rf : wr.frozen? ⟨w.heap.size + 1, 0, none⟩ = false := by have := hS.rs; simp [World.frozen?, this]
      have hsz := hS.size
      have HB2 := Lib.hid hB2
      clear hB2
      go_wp2_with fail
      exact bodyPost_ret (v := .agg #[.slice A L.length cv]) (by simp [results, Try.results155, go_sem, rc]) rfl ⟨_, rfl, by
        have h1 := (hS.own.mono (show w.heap.size ≤ w.heap.size + 2 by omega)).kept (row := some (w.heap.size + 1)) (grown_setc wr _ 0 (.slice A L.length cv)) (by
          by_cases hv : (Value.slice A L.length cv).ownBlock = none
          · exact .inl hv
          · refine .inr fun e => ?_
            have := (hS.own.lt _ e).1
            omega)
        rw [← HB2.out]
        exact h1, hS.bw.setCell (by simp) _⟩
end Go.Proofs.Ytnndifemkichmaa
namespace Go.Proofs.Ytnndifemkichmaa
open Go.RowKit
open Classical in
noncomputable def sameL (L M : List Rc) : Bool := decide (L = M)
open Classical in
theorem sameL_yes {L M : List Rc} (h : L = M) : sameL L M = true := by unfold sameL; exact decide_eq_true h
open Classical in
theorem sameL_no {L M : List Rc} (h : ¬ L = M) : sameL L M = false := by unfold sameL; exact decide_eq_false h
set_option maxHeartbeats 1000000 in
set_option maxRecDepth 10000 in
theorem sameI (v u : Value) (L M : List Rc) (w : World) (hv : RdR w v L) (hu : RdR w u M) :
  Calls Try.prog 131 #[v, u] w fun e w' => e = .returned (.bool (sameL L M)) ∧ ∃ q, w' = w.drewN q := by
 obtain ⟨A, c, rfl⟩ := hv.form
 obtain ⟨A', c', rfl⟩ := hu.form
 have hn1 : L.length ≤ 9223372036854775807 := by have := hv.len; unfold maxLen at this; omega
 have hn2 : M.length ≤ 9223372036854775807 := by have := hu.len; unfold maxLen at this; omega
 by_cases hlen : L.length = M.length
 ·obtain ⟨n, hn⟩ : ∃ n, n = L.length := ⟨_, rfl⟩
  rw [← hlen] at hu ⊢
  rw [← hn] at hn1 hv hu ⊢
  have Hn := Lib.hid hn
  have Hlen := Lib.hid hlen
  have Hv := Lib.hid hv
  have Hu := Lib.hid hu
  clear hlen hn2 hn hv hu
  go_enter Try.func131, Try.ntmps131
  go_wp2_with fail
  go_loopw [13] (fun i wr => ∃ k : Nat, k ≤ n ∧ i = .int .i64 k ∧ (∀ j, j < k → L[j]? = M[j]?) ∧ ∃ q, wr = w.drewN q) (fun i _ => n - (intOf i).toNat)
  case atStart => exact ⟨0, Nat.zero_le _, rfl, fun j hj => by omega, 0, rfl⟩
  case round =>
   obtain ⟨k, hk, rfl, hall, q, rfl⟩ := hrel
   have Hall := Lib.hid hall
   clear hall
   by_cases hlt : k < n
   ·obtain ⟨ga, r, rfl, hr, hC⟩ := Hv.out.at_ (k := k) (by rw [← Hn.out]; exact hlt)
    obtain ⟨gb, s, rfl, hs, hD⟩ := Hu.out.at_ (k := k) (by rw [← Hlen.out, ← Hn.out]; exact hlt)
    have Hr := Lib.hid hr
    have Hs := Lib.hid hs
    obtain ⟨a0, a1, a2, a3⟩ := hC.cells
    obtain ⟨b0, b1, b2, b3⟩ := hD.cells
    clear hr hs hC hD
    have k0 : (0 : Int) ≤ (k : Int) := by omega
    have k1 : (k : Int) < (n : Int) := by omega
    rcases rc_cases r s with ⟨hq, e0, e1, e2, e3⟩ | ⟨hq, hq'⟩
    ·have Hq := Lib.hid hq
     clear hq
     go_wp2_with fail
     go_quiet (fail)
     go_wp2_with fail
     rename_i nq
     go_roundw
     case rel =>
      refine ⟨k + 1, by omega, by go_num, fun j hj => ?_, _, rfl⟩
      by_cases e : j < k
      ·exact Hall.out j e
      ·obtain rfl : j = k := by omega
       rw [Hr.out, Hs.out, Hq.out]
     case measure => simp [intOf]; omega
    ·have hne : sameL L M = false := sameL_no fun e => hq (by have h1 := Hr.out; rw [e, Hs.out] at h1; injection h1 with h1; exact h1.symm)
     have Hne := Lib.hid hne
     clear hne hq
     rcases hq' with e0 | ⟨e0, e1⟩ | ⟨e0, e1, e2⟩ | ⟨e0, e1, e2, e3⟩
     ·go_wp2_with fail
      go_quiet (fail)
      go_wp2_with fail
      go_ret
      exact ⟨ret_bool Hne.out.symm, q + _, by first | rfl | exact World.drewN_drewN _ _ _⟩
     ·go_wp2_with fail
      go_quiet (fail)
      go_wp2_with fail
      go_ret
      exact ⟨ret_bool Hne.out.symm, q + _, by first | rfl | exact World.drewN_drewN _ _ _⟩
     ·go_wp2_with fail
      go_quiet (fail)
      go_wp2_with fail
      go_ret
      exact ⟨ret_bool Hne.out.symm, q + _, by first | rfl | exact World.drewN_drewN _ _ _⟩
     ·go_wp2_with fail
      go_quiet (fail)
      go_wp2_with fail
      go_ret
      exact ⟨ret_bool Hne.out.symm, q + _, by first | rfl | exact World.drewN_drewN _ _ _⟩
   ·obtain rfl : k = n := by omega
    have heq : L = M := List.ext_getElem? fun j => by
     by_cases e : j < k
     ·exact Hall.out j e
     ·rw [List.getElem?_eq_none (by rw [← Hn.out]; omega), List.getElem?_eq_none (by rw [← Hlen.out, ← Hn.out]; omega)]
    have Heq := Lib.hid (sameL_yes heq)
    clear heq
    go_wp2_with fail
    go_ret
    exact ⟨ret_bool Heq.out.symm, _, rfl⟩
 ·have Hne := Lib.hid (sameL_no (fun e : L = M => hlen (by rw [e])))
  have hb : ((L.length : Int) != (M.length : Int)) = true := by rw [bne_iff_ne]; omega
  go_enter Try.func131, Try.ntmps131
  go_wp2_with fail
  go_ret
  exact ⟨ret_bool Hne.out.symm, 0, rfl⟩
end Go.Proofs.Ytnndifemkichmaa
namespace Go.Proofs.Ytnndifemkichmaa
open Go.RowKit
set_option maxHeartbeats 1000000 in
set_option maxRecDepth 10000 in
theorem sameS (v u : Value) (L M : List Rc) (w : World) (hv : RdR w v L) (hu : RdR w u M) :
  Calls Try.prog 100 #[v, u] w fun e w' => e = .returned (.bool (sameL L M)) ∧ ∃ q, w' = w.drewN q := by
 obtain ⟨A, c, rfl⟩ := hv.form
 obtain ⟨A', c', rfl⟩ := hu.form
 have hn1 : L.length ≤ 9223372036854775807 := by have := hv.len; unfold maxLen at this; omega
 have hn2 : M.length ≤ 9223372036854775807 := by have := hu.len; unfold maxLen at this; omega
 by_cases hlen : L.length = M.length
 ·obtain ⟨n, hn⟩ : ∃ n, n = L.length := ⟨_, rfl⟩
  rw [← hlen] at hu ⊢
  rw [← hn] at hn1 hv hu ⊢
  have Hn := Lib.hid hn
  have Hlen := Lib.hid hlen
  have Hv := Lib.hid hv
  have Hu := Lib.hid hu
  clear hlen hn2 hn hv hu
  go_enter Try.func100, Try.ntmps100
  go_wp2_with fail
  go_loopw [5] (fun i wr => ∃ k : Nat, k ≤ n ∧ i = .int .i64 k ∧ (∀ j, j < k → L[j]? = M[j]?) ∧ ∃ q, wr = w.drewN q) (fun i _ => n - (intOf i).toNat)
  case atStart => exact ⟨0, Nat.zero_le _, rfl, fun j hj => by omega, 0, rfl⟩
  case round =>
   obtain ⟨k, hk, rfl, hall, q, rfl⟩ := hrel
   have Hall := Lib.hid hall
   clear hall
   by_cases hlt : k < n
   ·obtain ⟨ga, r, rfl, hr, hC⟩ := Hv.out.at_ (k := k) (by rw [← Hn.out]; exact hlt)
    obtain ⟨gb, s, rfl, hs, hD⟩ := Hu.out.at_ (k := k) (by rw [← Hlen.out, ← Hn.out]; exact hlt)
    have Hr := Lib.hid hr
    have Hs := Lib.hid hs
    obtain ⟨a0, a1, a2, a3⟩ := hC.cells
    obtain ⟨b0, b1, b2, b3⟩ := hD.cells
    clear hr hs hC hD
    have k0 : (0 : Int) ≤ (k : Int) := by omega
    have k1 : (k : Int) < (n : Int) := by omega
    rcases rc_cases r s with ⟨hq, e0, e1, e2, e3⟩ | ⟨hq, hq'⟩
    ·have Hq := Lib.hid hq
     clear hq
     go_wp2_with fail
     go_quiet (fail)
     go_wp2_with fail
     rename_i nq
     go_roundw
     case rel =>
      refine ⟨k + 1, by omega, by go_num, fun j hj => ?_, _, rfl⟩
      by_cases e : j < k
      ·exact Hall.out j e
      ·obtain rfl : j = k := by omega
       rw [Hr.out, Hs.out, Hq.out]
     case measure => simp [intOf]; omega
    ·have hne : sameL L M = false := sameL_no fun e => hq (by have h1 := Hr.out; rw [e, Hs.out] at h1; injection h1 with h1; exact h1.symm)
     have Hne := Lib.hid hne
     clear hne hq
     rcases hq' with e0 | ⟨e0, e1⟩ | ⟨e0, e1, e2⟩ | ⟨e0, e1, e2, e3⟩
     ·go_wp2_with fail
      go_quiet (fail)
      go_wp2_with fail
      go_ret
      exact ⟨ret_bool Hne.out.symm, q + _, by first | rfl | exact World.drewN_drewN _ _ _⟩
     ·go_wp2_with fail
      go_quiet (fail)
      go_wp2_with fail
      go_ret
      exact ⟨ret_bool Hne.out.symm, q + _, by first | rfl | exact World.drewN_drewN _ _ _⟩
     ·go_wp2_with fail
      go_quiet (fail)
      go_wp2_with fail
      go_ret
      exact ⟨ret_bool Hne.out.symm, q + _, by first | rfl | exact World.drewN_drewN _ _ _⟩
     ·go_wp2_with fail
      go_quiet (fail)
      go_wp2_with fail
      go_ret
      exact ⟨ret_bool Hne.out.symm, q + _, by first | rfl | exact World.drewN_drewN _ _ _⟩
   ·obtain rfl : k = n := by omega
    have heq : L = M := List.ext_getElem? fun j => by
     by_cases e : j < k
     ·exact Hall.out j e
     ·rw [List.getElem?_eq_none (by rw [← Hn.out]; omega), List.getElem?_eq_none (by rw [← Hlen.out, ← Hn.out]; omega)]
    have Heq := Lib.hid (sameL_yes heq)
    clear heq
    go_wp2_with fail
    go_ret
    exact ⟨ret_bool Heq.out.symm, _, rfl⟩
 ·have Hne := Lib.hid (sameL_no (fun e : L = M => hlen (by rw [e])))
  have hb : ((L.length : Int) != (M.length : Int)) = true := by rw [bne_iff_ne]; omega
  go_enter Try.func100, Try.ntmps100
  go_wp2_with fail
  go_ret
  exact ⟨ret_bool Hne.out.symm, 0, rfl⟩
end Go.Proofs.Ytnndifemkichmaa
namespace Go.Proofs.Ytnndifemkichmaa
open Go.RowKit
def RofAns (L : List Rc) (w : World) (e : Ending) (w' : World) : Prop :=
 ∃ v, e = .returned (.agg #[v]) ∧ w'.ownsRow w.heap.size 165 4 v (canon (gridOf L)).length (rcsCells (canon (gridOf L))) ∧ Below w.heap.size w w'
theorem rg_cell {w w' : World} {o : Obj} (h : Below (w.alloc o).heap.size (w.alloc o) w') {v : Value} (ho : o = .cells #[v] 90) : w'.heap[w.heap.size]? = some (.cells #[v] 90 (0, 0)) := by
 subst ho
 exact (h.block _ (by simp)).trans (heap_alloc_new w _)
theorem own_shape {w : World} {B n : Nat} {e : TypeId} {v : Value} {xs : List Value} (h : w.ownsRow B e 4 v n xs) : ∃ A c, v = .slice A n c := by
 rcases h.2 with ⟨rfl, rfl⟩ | ⟨g, cap, cur, rfl, _⟩
 ·exact ⟨none, 0, rfl⟩
 ·exact ⟨_, _, rfl⟩
theorem own_set {w : World} {B B' n g : Nat} {e : TypeId} {v : Value} {xs : List Value} (h : w.ownsRow B' e 4 v n xs) (hB : B ≤ B') (hg : g < B') (u : Value) : (w.setCell ⟨g, 0, none⟩ u).ownsRow B e 4 v n xs :=
 (h.mono hB).kept (row := some g) (grown_setc w _ 0 u) (by
  by_cases hv : v.ownBlock = none
  ·exact .inl hv
  ·refine .inr fun e => ?_
   have := (h.lt _ e).1
   omega)
set_option maxHeartbeats 1000000 in
set_option maxRecDepth 10000 in
theorem rofS (v : Value) (L : List Rc) (w : World) (h : RdR w v L) : Calls Try.prog 101 #[v] w (RofAns L w) := by
 have h1 := h.alloc (.cells #[.slice none 0 0] 90)
 have H := Lib.hid h1
 clear h h1
 go_enter Try.func101, Try.ntmps101
 go_wp2_with fail
 refine (gridS v L _ H.out).mono ?_
 rintro e w1 ⟨b, rfl, hb0, hG, hb1⟩
 go_wp2_with fail
 refine (canS b (gridOf L) _ hG).mono ?_
 rintro e w2 ⟨u, rfl, hown, hb2⟩
 have hz := hb1.size
 have hh := rg_cell (hb1.trans (hb2.mono hb1.size)) rfl
 have hw := ((Below.refl w.heap.size w).alloc (Nat.le_refl _) (.cells #[.slice none 0 0] 90)).trans ((hb1.trans (hb2.mono hb1.size)).mono (by simp))
 obtain ⟨A, c, hu⟩ := own_shape hown
 subst hu
 have rc : w2.cell? ⟨w.heap.size, 0, none⟩ = some (.slice none 0 0) := by simp [World.cell?, hh]
 have rf : w2.frozen? ⟨w.heap.size, 0, none⟩ = false := by simp [World.frozen?, hh]
 have Hown := Lib.hid hown
 simp at hz
 clear hown hb1 hb2 hG hb0 hh
 go_wp2_with fail
 exact bodyPost_ret (v := .agg #[.slice A (canon (gridOf L)).length c]) (by simp [results, Try.results101, go_sem, rc]) rfl ⟨_, rfl, own_set Hown.out (by omega) (by omega) _, hw.setCell (by simp) _⟩
set_option maxHeartbeats 1000000 in
set_option maxRecDepth 10000 in
theorem rofI (v : Value) (L : List Rc) (w : World) (h : RdR w v L) : Calls Try.prog 132 #[v] w (RofAns L w) := by
 have h1 := h.alloc (.cells #[.slice none 0 0] 90)
 have H := Lib.hid h1
 clear h h1
 go_enter Try.func132, Try.ntmps132
 go_wp2_with fail
 refine (gridI v L _ H.out).mono ?_
 rintro e w1 ⟨rfl, hb1⟩
 go_wp2_with fail
 refine (canI (gridOf L) _).mono ?_
 rintro e w2 ⟨u, rfl, hown, hb2⟩
 have hz := hb1.size
 have hh := rg_cell (hb1.trans (hb2.mono hb1.size)) rfl
 have hw := ((Below.refl w.heap.size w).alloc (Nat.le_refl _) (.cells #[.slice none 0 0] 90)).trans ((hb1.trans (hb2.mono hb1.size)).mono (by simp))
 obtain ⟨A, c, hu⟩ := own_shape hown
 subst hu
 have rc : w2.cell? ⟨w.heap.size, 0, none⟩ = some (.slice none 0 0) := by simp [World.cell?, hh]
 have rf : w2.frozen? ⟨w.heap.size, 0, none⟩ = false := by simp [World.frozen?, hh]
 have Hown := Lib.hid hown
 simp at hz
 clear hown hb1 hb2 hh
 go_wp2_with fail
 exact bodyPost_ret (v := .agg #[.slice A (canon (gridOf L)).length c]) (by simp [results, Try.results132, go_sem, rc]) rfl ⟨_, rfl, own_set Hown.out (by omega) (by omega) _, hw.setCell (by simp) _⟩
noncomputable def okL (L : List Rc) : Bool := sameL (canon (gridOf L)) L
end Go.Proofs.Ytnndifemkichmaa
namespace Go.Proofs.Ytnndifemkichmaa
open Go.RowKit
structure A4 (w : World) (a : Addr) (r : Rc) : Prop where
 c0 : w.cell? a = some (.int .i64 r.x)
 c1 : w.cell? ⟨a.block, a.off + 1, none⟩ = some (.int .i64 r.y)
 c2 : w.cell? ⟨a.block, a.off + 2, none⟩ = some (.int .i64 r.w)
 c3 : w.cell? ⟨a.block, a.off + 3, none⟩ = some (.int .i64 r.h)
def LdR (w : World) (v : Value) (L : List Rc) : Prop :=
 L.length ≤ maxLen ∧ ∃ A c, v = .slice A L.length c ∧ (0 < L.length → ∃ a, A = some a ∧ ∀ k r, L[k]? = some r → A4 w (a.add (k * 4)) r)
theorem A4.call {w w' : World} {a : Addr} {r : Rc} (h : A4 w a r) (hb : Below w.heap.size w w') : A4 w' a r := by
 have hl := World.block_lt_of_cell? w _ h.c0
 exact ⟨(hb.cell hl).trans h.c0, (hb.cell (p := ⟨a.block, a.off + 1, none⟩) hl).trans h.c1, (hb.cell (p := ⟨a.block, a.off + 2, none⟩) hl).trans h.c2, (hb.cell (p := ⟨a.block, a.off + 3, none⟩) hl).trans h.c3⟩
theorem LdR.call {w w' : World} {v : Value} {L : List Rc} (h : LdR w v L) (hb : Below w.heap.size w w') : LdR w' v L := by
 obtain ⟨hm, A, c, rfl, hc⟩ := h
 refine ⟨hm, A, c, rfl, fun h0 => ?_⟩
 obtain ⟨a, rfl, hd⟩ := hc h0
 exact ⟨a, rfl, fun k r hr => (hd k r hr).call hb⟩
theorem LdR.form {w : World} {v : Value} {L : List Rc} (h : LdR w v L) : ∃ A c, v = .slice A L.length c := by
 obtain ⟨_, A, c, rfl, _⟩ := h; exact ⟨A, c, rfl⟩
theorem LdR.at_ {w : World} {A : Option Addr} {n c k : Nat} {L : List Rc} (h : LdR w (.slice A n c) L) (hk : k < L.length) : ∃ a r, A = some a ∧ L[k]? = some r ∧ A4 w (a.add (k * 4)) r := by
 obtain ⟨_, A', c', he, hc⟩ := h
 injection he with e1 e2 e3
 subst e1
 obtain ⟨g, rfl, hd⟩ := hc (by omega)
 exact ⟨g, L[k], rfl, List.getElem?_eq_getElem _, hd k _ (List.getElem?_eq_getElem _)⟩
theorem szRS_yes (n : Nat) (A : Option Addr) (c : Nat) (l : Int) (h : (n : Int) ≤ l) (hl : l ≤ 2097152) (w : World) :
  Calls Try.prog 125 #[.slice A n c, .int .i64 l] w fun e w' => e = .returned (.int .i64 (l - n)) ∧ w = w' := by
 have h1 : ¬ (l - (n : Int) < 0) := by omega
 go_enter Try.func125, Try.ntmps125
 go_wp2
 go_ret
 exact ⟨rfl, rfl⟩
theorem szRS_no (n : Nat) (A : Option Addr) (c : Nat) (hn : n ≤ maxLen) (l : Int) (h0 : 0 ≤ l) (h : l < (n : Int)) (w : World) :
  Calls Try.prog 125 #[.slice A n c, .int .i64 l] w fun e w' => e = .returned (.int .i64 (-1)) ∧ w = w' := by
 unfold maxLen at hn
 have h1 : l - (n : Int) < 0 := by omega
 go_enter Try.func125, Try.ntmps125
 go_wp2
 go_ret
 exact ⟨rfl, rfl⟩
theorem szRg_yes (n : Nat) (A : Option Addr) (c : Nat) (l : Int) (h : (n : Int) ≤ l) (hl : l ≤ 2097152) (w : World) :
  Calls Try.prog 96 #[.agg #[.slice A n c], .int .i64 l] w fun e w' => e = .returned (.int .i64 (l - n)) ∧ Below w.heap.size w w' := by
 have h1 : ¬ (l - (n : Int) < 0) := by omega
 go_enter Try.func96, Try.ntmps96
 go_wp2_with fail
 refine (szRS_yes n A c l h hl _).mono ?_
 rintro e w1 ⟨rfl, rfl⟩
 go_wp2_with fail
 go_ret
 exact ⟨rfl, (Below.refl _ _).alloc (Nat.le_refl _) _⟩
theorem szRg_no (n : Nat) (A : Option Addr) (c : Nat) (hn : n ≤ maxLen) (l : Int) (h0 : 0 ≤ l) (h : l < (n : Int)) (w : World) :
  Calls Try.prog 96 #[.agg #[.slice A n c], .int .i64 l] w fun e w' => e = .returned (.int .i64 (-1)) ∧ Below w.heap.size w w' := by
 go_enter Try.func96, Try.ntmps96
 go_wp2_with fail
 refine (szRS_no n A c hn l h0 h _).mono ?_
 rintro e w1 ⟨rfl, rfl⟩
 go_wp2_with fail
 go_ret
 exact ⟨rfl, (Below.refl _ _).alloc (Nat.le_refl _) _⟩
theorem made_rects (n : Nat) : (madeCells #[.int .i64 0, .int .i64 0, .int .i64 0, .int .i64 0] (n * 4)).toList = rcsCells (List.replicate n ⟨0, 0, 0, 0⟩) := by
 have h1 : (madeCells #[.int .i64 0, .int .i64 0, .int .i64 0, .int .i64 0] (n * 4)).toList = List.replicate (n * 4) (.int .i64 0) := by
  rw [List.eq_replicate_iff]
  refine ⟨by simp [size_madeCells], fun b hb => ?_⟩
  simp only [madeCells, Array.toList_map, Array.toList_range, List.mem_map] at hb
  obtain ⟨i, _, rfl⟩ := hb
  have : i % 4 < 4 := Nat.mod_lt _ (by omega)
  show (#[Value.int .i64 0, .int .i64 0, .int .i64 0, .int .i64 0] : Array Value)[i % 4]! = _
  obtain ⟨j, hj⟩ : ∃ j, j = i % 4 := ⟨_, rfl⟩
  rw [← hj] at this ⊢
  match j, this with
  | 0, _ => rfl
  | 1, _ => rfl
  | 2, _ => rfl
  | 3, _ => rfl
 have h2 : rcsCells (List.replicate n ⟨0, 0, 0, 0⟩) = List.replicate (n * 4) (.int .i64 0) := by
  rw [List.eq_replicate_iff]
  refine ⟨by rw [rcsCells_length, List.length_replicate], fun b hb => ?_⟩
  simp only [rcsCells, List.mem_flatMap] at hb
  obtain ⟨r, hr, hb⟩ := hb
  obtain rfl := List.eq_of_mem_replicate hr
  simp [rcCells] at hb
  exact hb
 rw [h1, h2]
theorem make_rects (n : Nat) (hn : n ≤ 2097152) (W : World) : (Instr.makeSlice 88 (.int .i64 (n : Int)) (.int .i64 (n : Int))).run Try.prog W =
  .ok (.slice (some ⟨W.heap.size, 0, none⟩) n n) (W.alloc (.cells (madeCells #[.int .i64 0, .int .i64 0, .int .i64 0, .int .i64 0] (n * 4)) 165)) := by
 obtain ⟨i0, hi, hz0, hz1, hz2⟩ := info_parts infoRect
 have h := run_make (P := Try.prog) W 88 165 i0 _ Try.underlying88 hi hz0 .i64 .i64 n n (by omega) (by omega) (by rw [hz2]; omega) (by omega)
 rw [hz1] at h
 simpa [Value.cells] using h
theorem own_made_rects (W : World) (B n : Nat) (hB : B ≤ W.heap.size) (hn : n ≤ 2097152) :
  (W.alloc (.cells (madeCells #[.int .i64 0, .int .i64 0, .int .i64 0, .int .i64 0] (n * 4)) 165)).ownsRow B 165 4 (.slice (some ⟨W.heap.size, 0, none⟩) n n) n (rcsCells (List.replicate n ⟨0, 0, 0, 0⟩)) := by
 refine ⟨by rw [rcsCells_length, List.length_replicate], .inr ⟨W.heap.size, n, _, rfl, hB, heap_alloc_new W _, Nat.le_refl _, by unfold maxLen; omega, size_madeCells _ _, ?_⟩⟩
 rw [made_rects, List.take_of_length_le (by rw [rcsCells_length, List.length_replicate]; exact Nat.le_refl _)]
def ToRS (L : List Rc) (w : World) (e : Ending) (w' : World) : Prop :=
 ∃ v, e = .returned v ∧ w'.ownsRow w.heap.size 165 4 v L.length (rcsCells L) ∧ Below w.heap.size w w'
set_option maxHeartbeats 1000000 in
set_option maxRecDepth 10000 in
theorem toRS (v : Value) (L : List Rc) (w : World) (hm : L.length ≤ 1048576) (h : LdR w v L) : Calls Try.prog 129 #[v] w (ToRS L w) := by
 obtain ⟨A, c, rfl⟩ := h.form
 obtain ⟨n, hn⟩ : ∃ n, n = L.length := ⟨_, rfl⟩
 rw [← hn] at hm h ⊢
 have Hn := Lib.hid hn
 have H := Lib.hid h
 have hmk := fun W => make_rects n (by omega) W
 clear h hn
 go_enter Try.func129, Try.ntmps129
 go_wp2_with fail
 go_loopw [4] (fun i wr => ∃ k : Nat, k ≤ n ∧ i = .int .i64 k ∧ wr.ownsRow w.heap.size 165 4 (.slice (some ⟨w.heap.size, 0, none⟩) n n) n (rcsCells (L.take k ++ List.replicate (n - k) ⟨0, 0, 0, 0⟩)) ∧ Below w.heap.size w wr) (fun i _ => n - (intOf i).toNat)
 case atStart => exact ⟨0, Nat.zero_le _, rfl, by simpa using own_made_rects w w.heap.size n (Nat.le_refl _) (by omega), (Below.refl _ _).alloc (Nat.le_refl _) _⟩
 case round =>
  obtain ⟨k, hk, rfl, hown, hb⟩ := hrel
  clear hmk
  by_cases hlt : k < n
  ·obtain ⟨a, r, rfl, hr, hA⟩ := (H.out.call hb).at_ (k := k) (by rw [← Hn.out]; exact hlt)
   have Hr := Lib.hid hr
   clear hr
   obtain ⟨c0, c1, c2, c3⟩ := hA
   have k0' : (0 : Int) ≤ (k : Int) := by omega
   have k1' : (k : Int) < (n : Int) := by omega
   go_wp2_with fail
   refine (toRect_any r _).mono ?_
   rintro e w1 ⟨rfl, hb1⟩
   have hb2 := hb.trans (hb1.mono hb.size)
   have hown2 := own_below hown hb1 (Nat.le_refl _)
   rw [show n - k = (n - (k + 1)) + 1 by omega, List.replicate_succ] at hown2
   have hlk : k = (L.take k).length := by rw [List.length_take, ← Hn.out]; omega
   have hC : C4 w1 w.heap.size (k * 4) ⟨0, 0, 0, 0⟩ := by
    obtain ⟨g', r', e1, e2, e3⟩ := (RdR.of_own hown2).at_ (k := k) (by rw [← own_len hown2]; exact hlt)
    injection e1 with e1
    injection e1 with e1
    rw [List.getElem?_append_right (by omega), ← hlk, Nat.sub_self] at e2
    injection e2 with e2
    rw [e1, e2]; exact e3
   have Hlk := Lib.hid hlk
   obtain ⟨d0, d1, d2, d3⟩ := hC.cells
   have f0 := hown2.frozenAt (k * 4)
   have f1 := hown2.frozenAt (k * 4 + 1)
   have f2 := hown2.frozenAt (k * 4 + 2)
   have f3 := hown2.frozenAt (k * 4 + 3)
   have Hown := Lib.hid hown2
   have Hb2 := Lib.hid hb2
   clear hown hown2 hb hb1 hb2 hC hlk c0 c1 c2 c3
   go_wp2_with fail
   go_roundw
   case rel =>
    obtain ⟨p1, p2⟩ := own_put4 Hown.out (j := k) Hlk.out r.x r.y r.w r.h
    refine ⟨k + 1, by omega, by go_num, ?_, Hb2.out.grown p2 Hb2.out.size (fun k hk => by injection hk with hk; omega)⟩
    rw [List.take_add_one, Hr.out, List.append_assoc]
    exact p1
   case measure => simp [intOf]; omega
  ·obtain rfl : k = n := by omega
   rw [Nat.sub_self, List.replicate_zero, List.append_nil, List.take_of_length_le (by rw [← Hn.out]; exact Nat.le_refl _)] at hown
   have Hown := Lib.hid hown
   clear hown
   go_wp2_with fail
   go_ret
   exact ⟨_, rfl, by rw [← Hn.out]; exact Hown.out, hb⟩
def ToRg (L : List Rc) (w : World) (e : Ending) (w' : World) : Prop :=
 ∃ v, e = .returned (.agg #[v]) ∧ w'.ownsRow w.heap.size 165 4 v L.length (rcsCells L) ∧ Below w.heap.size w w'
set_option maxHeartbeats 1000000 in
set_option maxRecDepth 10000 in
theorem toRg (v : Value) (L : List Rc) (w : World) (hm : L.length ≤ 1048576) (h : LdR w v L) : Calls Try.prog 102 #[.agg #[v]] w (ToRg L w) := by
 have hb0 := (((Below.refl w.heap.size w).alloc (Nat.le_refl _) (.cells #[v] 131)).alloc (by simp) (.cells #[.slice none 0 0] 90)).alloc (by simp; omega) (.cells #[.slice none 0 0] 90)
 have h2 := h.call hb0
 have hin := new_cell w v 131
 clear h
 go_enter Try.func102, Try.ntmps102
 go_wp2_with fail
 refine (toRS v L _ hm h2).mono ?_
 rintro e w1 ⟨u, rfl, hown, hb1⟩
 have h1 : w1.heap[w.heap.size + 1]? = some (.cells #[.slice none 0 0] 90 (0, 0)) := (hb1.block _ (by simp)).trans ((Below.heap_alloc _ _ _ (by simp)).trans (by have := heap_alloc_new (w.alloc (.cells #[v] 131)) (.cells #[.slice none 0 0] 90); simpa using this))
 have h3 : w1.heap[w.heap.size + 2]? = some (.cells #[.slice none 0 0] 90 (0, 0)) := (hb1.block _ (by simp)).trans (by have := heap_alloc_new ((w.alloc (.cells #[v] 131)).alloc (.cells #[.slice none 0 0] 90)) (.cells #[.slice none 0 0] 90); simpa using this)
 have r1 : w1.cell? ⟨w.heap.size + 1, 0, none⟩ = some (.slice none 0 0) := by simp [World.cell?, h1]
 have r3 : w1.cell? ⟨w.heap.size + 2, 0, none⟩ = some (.slice none 0 0) := by simp [World.cell?, h3]
 have f1 : w1.frozen? ⟨w.heap.size + 1, 0, none⟩ = false := by simp [World.frozen?, h1]
 have f3 : w1.frozen? ⟨w.heap.size + 2, 0, none⟩ = false := by simp [World.frozen?, h3]
 obtain ⟨A, c, hu⟩ := own_shape hown
 subst hu
 have hz := hb1.size
 simp at hz
 have Hb := Lib.hid (hb0.trans (hb1.mono hb0.size))
 have Hown := Lib.hid hown
 clear hown hb1 hb0 h1 h3
 go_wp2_with fail
 exact bodyPost_ret (v := .agg #[.slice A L.length c]) (by simp [results, Try.results102, go_sem, r1]) rfl ⟨_, rfl, own_set (own_set Hown.out (show w.heap.size + 2 ≤ _ by simp) (by simp) _) (Nat.le_add_right _ _) (by omega) _, (Hb.out.setCell (by simp; omega) _).setCell (by simp) _⟩
end Go.Proofs.Ytnndifemkichmaa
namespace Go.Proofs.Ytnndifemkichmaa
open Go.RowKit
theorem eqRg_same (v u : Value) (L : List Rc) (w : World) (hv : RdR w v L) (hu : RdR w u L) :
  Calls Try.prog 105 #[.agg #[v], .agg #[u]] w fun e w' => e = .returned (.bool true) ∧ Below w.heap.size w w' := by
 have hv2 := (hv.alloc (.cells #[v] 90)).alloc (.cells #[u] 90)
 have hu2 := (hu.alloc (.cells #[v] 90)).alloc (.cells #[u] 90)
 have hw := ((Below.refl w.heap.size w).alloc (Nat.le_refl _) (.cells #[v] 90)).alloc (by simp) (.cells #[u] 90)
 clear hv hu
 go_enter Try.func105, Try.ntmps105
 go_wp2_with fail
 refine (eqRectS_same v u L _ hv2 hu2).mono ?_
 rintro e w1 ⟨rfl, hb⟩
 have Hw := Lib.hid (hw.trans (hb.mono hw.size))
 clear hv2 hu2 hw hb
 go_wp2_with fail
 go_ret
 exact ⟨rfl, Hw.out⟩
end Go.Proofs.Ytnndifemkichmaa
namespace Go.Proofs.Ytnndifemkichmaa
open Go.RowKit
theorem belI_drew (w : World) : Below w.heap.size w w.drew := (Below.refl _ _).drew
structure ImV (lo hi b : Nat) (X Y : Int) (v : Value) (L : List Int) (W : World) : Prop where
 at_ : ImAt W b 58 X Y v
 own : W.ownsRow lo 3 1 v L.length (intCells L)
 lb : lo ≤ b
 hb : b < hi
 hk : ∀ k, v.ownBlock = some k → k < hi ∧ k ≠ b
 hs : hi ≤ W.heap.size
theorem ImV.call {lo hi b : Nat} {X Y : Int} {v : Value} {L : List Int} {W W' : World} (h : ImV lo hi b X Y v L W) (k : Below W.heap.size W W') : ImV lo hi b X Y v L W' :=
 ⟨h.at_.call k, ownI_call h.own k, h.lb, h.hb, h.hk, Nat.le_trans h.hs k.size⟩
theorem ImV.rd {lo hi b : Nat} {X Y : Int} {v : Value} {L : List Int} {W : World} (h : ImV lo hi b X Y v L W) : RdI W v L := RdI.of_own h.own
theorem ImV.cells {lo hi b : Nat} {X Y : Int} {v : Value} {L : List Int} {W : World} (h : ImV lo hi b X Y v L W) :
  W.cell? ⟨b, 0, none⟩ = some (.int .i64 X) ∧ W.cell? ⟨b, 1, none⟩ = some (.int .i64 Y) ∧ W.cell? ⟨b, 2, none⟩ = some v := h.at_.cells
theorem ImV.row {lo hi b : Nat} {X Y : Int} {v : Value} {L : List Int} {W : World} (h : ImV lo hi b X Y v L W) : ∀ k, v.ownBlock = some k → lo ≤ k ∧ k < hi := fun k hk => ⟨(h.own.lt k hk).1, (h.hk k hk).1⟩
theorem ImV.other {lo hi b : Nat} {X Y : Int} {v : Value} {L : List Int} {W W' : World} {row : Option Nat} (h : ImV lo hi b X Y v L W) (hg : W.grownBy W' row) (hr : ∀ k, row = some k → k < lo ∨ hi ≤ k) : ImV lo hi b X Y v L W' := by
 refine ⟨h.at_.grown hg (fun e => ?_), h.own.kept hg ?_, h.lb, h.hb, h.hk, Nat.le_trans h.hs hg.size⟩
 ·have := hr _ e.symm; have := h.lb; have := h.hb; omega
 ·by_cases hv : v.ownBlock = none
  ·exact .inl hv
  ·obtain ⟨k, hk⟩ := Option.ne_none_iff_exists'.1 hv
   refine .inr fun e => ?_
   rw [hk] at e
   have h1 := hr k e.symm
   have h2 := h.row k hk
   omega
theorem ImV.mark {lo hi b : Nat} {X Y : Int} {v : Value} {L M : List Int} {W W' : World} (h : ImV lo hi b X Y v L W) (hown : W'.ownsRow lo 3 1 v L.length (intCells M)) (hl : M.length = L.length) (hg : W.grownBy W' v.ownBlock) : ImV lo hi b X Y v M W' :=
 ⟨h.at_.grown hg (fun e => (h.hk _ e.symm).2 rfl), by rw [hl]; exact hown, h.lb, h.hb, h.hk, Nat.le_trans h.hs hg.size⟩
theorem ImV.born {X Y : Int} {v : Value} {L : List Int} {W W' : World} (hk : Below W.heap.size W W') (hown : W'.ownsRow W.heap.size 3 1 v L.length (intCells L)) :
  ImV W.heap.size (W'.heap.size + 1) W'.heap.size X Y v L (W'.alloc (.cells #[.int .i64 X, .int .i64 Y, v] 58)) :=
 ⟨ImAt.new _ _ _ _ _, hown.alloc _, hk.size, Nat.lt_succ_self _, fun k hk => by have := hown.lt k hk; omega, by simp⟩
theorem belI_mark {w W W' : World} {lo hi b : Nat} {X Y : Int} {v : Value} {L : List Int} (hw : Below w.heap.size w W) (h : ImV lo hi b X Y v L W) (hlo : w.heap.size ≤ lo) (hg : W.grownBy W' v.ownBlock) : Below w.heap.size w W' :=
 hw.grown hg hw.size (fun k hk => by have := (h.row k hk).1; omega)
end Go.Proofs.Ytnndifemkichmaa
namespace Go.Proofs.Ytnndifemkichmaa
open Go.RowKit
theorem zPa {α : Type} (l : List α) (i : Nat) (a : α) : l.toArray.setIfInBounds i a = (l.set i a).toArray := List.setIfInBounds_toArray l i a
theorem zPb {α : Type} {x : α} {xs : List α} {a : α} : (x :: xs).set 0 a = a :: xs := rfl
theorem zPc {α : Type} {x : α} {xs : List α} {i : Nat} {a : α} : (x :: xs).set (i + 1) a = x :: xs.set i a := rfl
theorem zGa {α : Type} {xs : List α} {i : Nat} (h : i < xs.toArray.size) : xs.toArray[i]'h = xs[i]'(by simpa using h) := rfl
theorem zGb {α : Type} (a : α) (l : List α) (i : Nat) (h : i + 1 < (a :: l).length) : getElem (a :: l) (i + 1) h = getElem l i (Nat.lt_of_succ_lt_succ h) := rfl
theorem zGc {α : Type} (a : α) (l : List α) (h : 0 < (a :: l).length) : getElem (a :: l) 0 h = a := rfl
theorem tcH {P : Program} {ops : Array Oper} {Q : Exit → Act → World → Prop} {md : Region.Mode} {S : World → Prop} {i : Nat} {oi : Oper} {v : Value} {fuel : Nat} {listed : Array Bool} {a : Act} {w : World} (hi : ops[i]? = some oi)
    (hy : ∀ w', S w' → (execOp a.eval oi).run P w' = .ok (.value v) w') (h : wpAnyH P md ops Q S fuel (listed.setIfInBounds i true) (a.put oi.dst v) w)
    (hs : Region.noSelect ops = true := by kernel_rfl) (hf : Region.free md ops listed i = true := by kernel_rfl) (hr : (Region.ready md ops listed).contains i = true := by kernel_rfl)
    (hQ : ∀ c a w, Q (.panic c) (a.put oi.dst v) w → Q (.panic c) a w := by exact fun _ _ _ h => h) (hw : Region.wanted oi (yielded ops a.tmps) = true := by kernel_rfl)
    (hS : S w := by assumption) : wpAnyH P md ops Q S (fuel + 1) listed a w :=
  wpAnyH_take hi hs hf hr hQ (Or.inl ⟨hw, hy⟩) hS h
theorem tnH {P : Program} {ops : Array Oper} {Q : Exit → Act → World → Prop} {md : Region.Mode} {S : World → Prop} {i : Nat} {oi : Oper} {fuel : Nat} {listed : Array Bool} {a : Act} {w : World} (hi : ops[i]? = some oi)
    (h : wpAnyH P md ops Q S fuel (listed.setIfInBounds i true) (a.put oi.dst undef) w)
    (hs : Region.noSelect ops = true := by kernel_rfl) (hf : Region.free md ops listed i = true := by kernel_rfl) (hr : (Region.ready md ops listed).contains i = true := by kernel_rfl)
    (hQ : ∀ c a w, Q (.panic c) (a.put oi.dst undef) w → Q (.panic c) a w := by exact fun _ _ _ h => h) (hw : Region.wanted oi (yielded ops a.tmps) = false := by kernel_rfl)
    (hS : S w := by assumption) : wpAnyH P md ops Q S (fuel + 1) listed a w :=
  wpAnyH_take hi hs hf hr hQ (Or.inr ⟨hw, rfl⟩) hS h
end Go.Proofs.Ytnndifemkichmaa
namespace Go.Proofs.Ytnndifemkichmaa
open Go.RowKit
def RokAns (L : List Rc) (w : World) (e : Ending) (w' : World) : Prop := e = .returned (.bool (okL L)) ∧ Below w.heap.size w w'
theorem cell_drew {w : World} {a : Addr} {v : Value} (h : w.cell? a = some v) : w.drew.cell? a = some v := h
theorem cell_drewN {w : World} {a : Addr} {v : Value} (h : w.cell? a = some v) (q : Nat) : (w.drewN q).cell? a = some v := h
theorem cell_call {w w' : World} {g o : Nat} {v : Value} (hb : Below w.heap.size w w') (h : w.cell? ⟨g, o, none⟩ = some v) : w'.cell? ⟨g, o, none⟩ = some v :=
 (hb.cell (p := ⟨g, o, none⟩) (World.block_lt_of_cell? w _ h)).trans h
theorem below_call {a w w' : World} (h : Below a.heap.size a w) (hb : Below w.heap.size w w') : Below a.heap.size a w' := h.trans (hb.mono h.size)
theorem field_rg (u : Value) (W : World) : (Instr.field 90 (.agg #[u]) 0).run Try.prog W = .ok u W := by
 simp [Instr.field, run_underlying Try.underlying90, asAgg, part, go_sem]
set_option maxHeartbeats 1000000 in
set_option maxRecDepth 10000 in
theorem rokS (v : Value) (L : List Rc) (w : World) (h : RdR w v L) : Calls Try.prog 50 #[.agg #[v]] w (RokAns L w) := by
 have hV := h.alloc (.cells #[v] 90)
 have hw := (Below.refl w.heap.size w).alloc (Nat.le_refl _) (.cells #[v] 90)
 have hc : (w.alloc (.cells #[v] 90)).cell? ⟨w.heap.size, 0, none⟩ = some v := new_cell w v _
 clear h
 go_enter Try.func50, Try.ntmps50
 go_wp2_with fail
 go_region_held3 (fun w' => w'.cell? ⟨w.heap.size, 0, none⟩ = some v)
  (with_reducible first | exact hc | exact cell_drew hc | fail)
  (first | (go_at_call 101; (with_reducible first | refine (rofS v L _ hV).mono ?_ | refine (rofS v L _ hV.drew).mono ?_); rintro e wk ⟨u, rfl, hown, hbk⟩; have hfld := field_rg u; (with_reducible first | have hV := hV.call hbk | have hV := hV.drew.call hbk); (with_reducible first | have hw := below_call hw hbk | have hw := below_call hw.drew hbk); (with_reducible first | (have hc := cell_call hbk hc) | (have hc := cell_call hbk (cell_drew hc)))) | (go_at_call 100; (with_reducible first | refine (sameS u v _ L _ (RdR.of_own hown) hV).mono ?_ | refine (sameS u v _ L _ (RdR.of_own hown).drew hV.drew).mono ?_); rintro e wk ⟨rfl, q, rfl⟩; have hw := below_drewN hw q; have hc := cell_drewN hc q))
 go_wp2_with fail
 go_ret
 exact ⟨rfl, by first | exact hw | exact hw.drew | exact below_drewN hw _⟩
set_option maxHeartbeats 1000000 in
set_option maxRecDepth 10000 in
theorem rokI (v : Value) (L : List Rc) (w : World) (h : RdR w v L) : Calls Try.prog 104 #[.agg #[v]] w (RokAns L w) := by
 have hV := h.alloc (.cells #[v] 90)
 have hw := (Below.refl w.heap.size w).alloc (Nat.le_refl _) (.cells #[v] 90)
 have hc : (w.alloc (.cells #[v] 90)).cell? ⟨w.heap.size, 0, none⟩ = some v := new_cell w v _
 clear h
 go_enter Try.func104, Try.ntmps104
 go_wp2_with fail
 go_region_held3 (fun w' => w'.cell? ⟨w.heap.size, 0, none⟩ = some v)
  (with_reducible first | exact hc | exact cell_drew hc | fail)
  (first | (go_at_call 132; (with_reducible first | refine (rofI v L _ hV).mono ?_ | refine (rofI v L _ hV.drew).mono ?_); rintro e wk ⟨u, rfl, hown, hbk⟩; have hfld := field_rg u; (with_reducible first | have hV := hV.call hbk | have hV := hV.drew.call hbk); (with_reducible first | have hw := below_call hw hbk | have hw := below_call hw.drew hbk); (with_reducible first | (have hc := cell_call hbk hc) | (have hc := cell_call hbk (cell_drew hc)))) | (go_at_call 131; (with_reducible first | refine (sameI u v _ L _ (RdR.of_own hown) hV).mono ?_ | refine (sameI u v _ L _ (RdR.of_own hown).drew hV.drew).mono ?_); rintro e wk ⟨rfl, q, rfl⟩; have hw := below_drewN hw q; have hc := cell_drewN hc q))
 go_wp2_with fail
 go_ret
 exact ⟨rfl, by first | exact hw | exact hw.drew | exact below_drewN hw _⟩
end Go.Proofs.Ytnndifemkichmaa
