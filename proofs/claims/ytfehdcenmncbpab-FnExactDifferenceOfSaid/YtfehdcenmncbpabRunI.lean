/- The contract of impl.runsOf. No statement is proved here. -/
import Derived.Test.YtfehdcenmncbpabRd
import Derived.Test.YtfehdcenmncbpabRectC
import Derived.Test.YtfehdcenmncbpabBlk4
import Derived.Test.YtfehdcenmncbpabRegM
import Derived.Test.YtfehdcenmncbpabGrid
import Derived.Test.YtfehdcenmncbpabHasC
import Derived.Test.YtfehdcenmncbpabRectEq
import Derived.Test.YtfehdcenmncbpabRds
import Derived.Test.YtfehdcenmncbpabCanS
import Derived.Test.YtfehdcenmncbpabRunP
import Derived.Test.YtfehdcenmncbpabProg
import Derived.WalkKit
import Derived.ProofKit
import Derived.OpenShut
import Derived.WalkLawsBesides
import Derived.WalkSpells
import Derived.ShutString
import Derived.ChangeOld
import Derived.Below
import Derived.Lib.Hide
import Derived.BigQuiet
import Derived.Deep.QuietTactic
import Derived.Maps.AppendAt
import Derived.Deep.Draws
import Derived.Deep.MidRow
import Derived.Deep.WholeRow
import Derived.Deep.OwnRows
import Derived.Deep.RegionHeld3
import Derived.Deep.DeepCutAuto
import Derived.OwnWalk
import Derived.Deep.AppendLies
import Derived.Deep.Onto
import Derived.Deep.LoopGhost
namespace Go.Proofs.Ytfehdcenmncbpab
open Go.RowKit
/-- What runsOf answers. -/
def RunAns (g : Nat → Bool) (y h : Nat) (w : World) (e : Ending) (w' : World) : Prop :=
  ∃ v, e = .returned v ∧ w'.ownsRow w.heap.size 31 4 v (runs g y h 0).length (rcsCells (runs g y h 0)) ∧ Below w.heap.size w w'
/-- The memory in the loop of runsOf. -/
structure RnSt (w : World) (g : Nat → Bool) (y : Nat) (v : Value) (L : List Rc) (wr : World) : Prop where
  rw : RowAt wr w.heap.size g y
  own : wr.ownsRow (w.heap.size + 1) 31 4 v L.length (rcsCells L)
  bw : Below w.heap.size w wr
theorem RnSt.grown {w wr w2 : World} {y : Nat} {g : Nat → Bool} {v v' : Value} {L L' : List Rc} (h : RnSt w g y v L wr)
    (hown : w2.ownsRow (w.heap.size + 1) 31 4 v' L'.length (rcsCells L')) (hgr : wr.grownBy w2 v.ownBlock) : RnSt w g y v' L' w2 :=
  ⟨(hgr.block _ h.rw.lt (fun e => by have := (h.own.lt _ e.symm).1; omega)).trans h.rw, hown, h.bw.grown hgr h.bw.size (fun k hk => by have := (h.own.lt k hk).1; omega)⟩
theorem RnSt.bumped {w wx : World} {y : Nat} {g : Nat → Bool} {gq cq m : Nat} {o : List Rc} {r : Rc} (hm : m = o.length) (hrow : RowAt wx w.heap.size g y) (hbw : Below w.heap.size w wx)
    (hown : wx.ownsRow (w.heap.size + 1) 31 4 (.slice (some ⟨gq, 0, none⟩) (m + 1) cq) (m + 1) (rcsCells (o ++ [r]))) :
    RnSt w g y (.slice (some ⟨gq, 0, none⟩) (m + 1) cq) (o ++ [⟨r.x, r.y, r.w + 1, r.h⟩]) (wx.setCell ⟨gq, m * 4 + 2, none⟩ (.int .i64 (r.w + 1))) := by
  subst hm
  obtain ⟨h1, h2⟩ := hown.stored (o.length * 4 + 2) (.int .i64 (r.w + 1))
  rw [rcs_bump] at h1
  have hg := (hown.lt gq rfl).1
  refine ⟨(Below.heap_setCell wx _ _ _ (by simp; omega)).trans hrow, ?_, hbw.setCell (by simp; omega) _⟩
  rw [List.length_append, List.length_singleton]
  exact h1
theorem own_last {w wx : World} {gq cq m : Nat} {o : List Rc} {r : Rc} (hm : m = o.length)
    (hown : wx.ownsRow (w.heap.size + 1) 31 4 (.slice (some ⟨gq, 0, none⟩) (m + 1) cq) (m + 1) (rcsCells (o ++ [r]))) :
    wx.cell? ⟨gq, m * 4 + 2, none⟩ = some (.int .i64 r.w) ∧ wx.frozen? ⟨gq, m * 4 + 2, none⟩ = false := by
  subst hm
  exact ⟨(hown.cellAt (o.length * 4 + 2) (by omega)).trans (rcs_last o r), hown.frozenAt _⟩
set_option maxHeartbeats 2000000 in
set_option maxRecDepth 10000 in
theorem runI (g : Nat → Bool) (y h : Nat) (w : World) : Calls Try.prog 103 #[.agg (rowCells g y), .int .i64 y, .int .i64 h] w (RunAns g y h w) := by
  obtain ⟨i0, hi, hz0, hz1, hz2⟩ := info_parts infoRect
  have hS0 : RnSt w g y (.slice none 0 0) [] (w.alloc (.cells (rowCells g y) 78)) := ⟨heap_alloc_new w _, World.ownsRow_nil _ _ _ _, (Below.refl _ _).alloc (Nat.le_refl _) _⟩
  go_enter Try.func103, Try.ntmps103
  go_wp2_with (refine wpList_load_row rfl 78 (.tmp 3) rfl w.heap.size rfl _ _ _ _ hS0.rw Try.underlying78 rfl (by rw [rowCells_size]; exact infoRow) ?_)
  go_loopg [7, 11] 16 (fun gk s7 i wr => ∃ (k : Nat) (v : Value) (L : List Rc), k ≤ 16 ∧ gk = 16 - k ∧ s7 = v ∧ i = .int .i64 k ∧ Hid (RunInv g y h L k) ∧ RnSt w g y v L wr)
  case atStart => exact ⟨0, _, [], Nat.zero_le _, rfl, rfl, rfl, Lib.hid (RunInv.start g y h), hS0⟩
  case round =>
    clear hS0
    obtain ⟨k, v, L, hk, rfl, rfl, rfl, hI, hS⟩ := hrel
    by_cases hk16 : k < 16
    · have hki : (k : Int) < 16 := by omega
      have hk0 : (0 : Int) ≤ (k : Int) := by omega
      have hix := index_row g y k hk16 wr
      obtain ⟨p, hp⟩ : ∃ p, p = g (y * 16 + k) := ⟨_, rfl⟩
      rw [← hp] at hix
      have Hp := Lib.hid hp.symm
      clear hp
      have hln := hI.out.ln
      cases p
      · go_wp2_with fail
        go_roundg (16 - (k + 1))
        case measure => omega
        case rel => exact ⟨k + 1, _, L, by omega, rfl, rfl, by go_num, Lib.hid (hI.out.no hk16 Hp.out), hS⟩
      · have hk0' := hk0
        by_cases hnew : k = 0 ∨ g (y * 16 + (k - 1)) = false
        · have hI2 : Hid (RunInv g y h (L ++ [⟨(k : Nat), y, 0 + 1, h⟩]) (k + 1)) := Lib.hid (hI.out.new hk16 Hp.out hnew)
          have Hnew := Lib.hid hnew
          clear hnew
          (by_cases hz : k = 0)
          (have hzb : ((k : Int) == 0) = true := by rw [beq_iff_eq]; omega
           clear hz)
          rotate_left
          (have hzb : ((k : Int) == 0) = false := by rw [beq_eq_false_iff_ne]; omega
           have hprev := hS.rw.cell (k - 1) (by omega)
           rw [show g (y * 16 + (k - 1)) = false from Hnew.out.resolve_left hz] at hprev
           have hk1 : (0 : Int) ≤ (k : Int) - 1 := by omega
           have hk2 : (k : Int) - 1 < 16 := by omega)
          all_goals
            go_wp2_with (at_builtin; refine wpList_append_own _ rfl _ _ 32 rfl (w.heap.size + 1) 31 i0 (.agg #[.int .i64 0, .int .i64 0, .int .i64 0, .int .i64 0]) 4 32 Try.underlying32 hi hz0 hz1 hz2 rfl (by decide) _ _ _ rfl (hS.own.alloc _) ⟨_, 0, none⟩ 1 1 _ rfl rfl (World.news_of_block (cs := #[.int .i64 k, .int .i64 y, .int .i64 0, .int .i64 h]) (fr := (0, 0)) (heap_alloc_new _ _)) (by intro u' hu'; simp at hu'; rcases hu' with rfl | rfl | rfl | rfl <;> rfl) (by unfold maxLen; omega) (by omega) (by have := hS.bw.size; have := hS.rw.lt; simp; omega) ?_)
            intro v2 w2 hown2 hgrow _
            obtain ⟨gq, cq, hvq, _, _⟩ := hown2.form (by omega)
            subst hvq
            have hrow : RowAt w2 w.heap.size g y := (hgrow.block _ (by have := hS.rw.lt; simp; omega) (fun e => by have := (hS.own.lt _ e.symm).1; omega)).trans ((Below.heap_alloc wr _ _ hS.rw.lt).trans hS.rw)
            have hbw : Below w.heap.size w w2 := (hS.bw.alloc hS.bw.size _).grown hgrow (by have := hS.bw.size; simp; omega) (fun k hk => by have := (hS.own.lt k hk).1; omega)
            have hown3 : w2.ownsRow (w.heap.size + 1) 31 4 (.slice (some ⟨gq, 0, none⟩) (L.length + 1) cq) (L.length + 1) (rcsCells (L ++ [⟨k, y, 0, h⟩])) := by rw [rcsCells_append, rcsCells_one]; exact hown2
            obtain ⟨lc, lf⟩ := own_last rfl hown3
            have HS := Lib.hid (RnSt.bumped rfl hrow hbw hown3)
            clear hown2 hown3 hgrow hrow hbw
            go_wp2_with fail
            go_roundg (16 - (k + 1))
            case measure => omega
            case rel => exact ⟨k + 1, _, L ++ [⟨(k : Nat), y, 0 + 1, h⟩], by omega, rfl, rfl, by go_num, hI2, HS.out⟩
        · have hz : ¬ k = 0 := fun e => hnew (.inl e)
          have hpt : g (y * 16 + (k - 1)) = true := by
            rcases e : g (y * 16 + (k - 1)) with _ | _
            · exact absurd (.inr e) hnew
            · rfl
          obtain ⟨o, r, ho, hr0, hr1, hI2⟩ := hI.out.more hk16 Hp.out (by omega) hpt
          have HI2 := Lib.hid hI2
          have hprev := hS.rw.cell (k - 1) (by omega)
          rw [hpt] at hprev
          have hzb : ((k : Int) == 0) = false := by rw [beq_eq_false_iff_ne]; omega
          have hk1 : (0 : Int) ≤ (k : Int) - 1 := by omega
          have hk2 : (k : Int) - 1 < 16 := by omega
          obtain ⟨m, hm⟩ : ∃ m, m = o.length := ⟨_, rfl⟩
          have hown3 := hS.own
          rw [ho, List.length_append, List.length_singleton, ← hm] at hown3
          obtain ⟨gq, cq, hvq, _, _⟩ := hown3.form (by omega)
          subst hvq
          obtain ⟨lc, lf⟩ := own_last hm hown3
          have HS := Lib.hid (RnSt.bumped hm hS.rw hS.bw hown3)
          rw [ho, List.length_append, List.length_singleton, ← hm] at hln
          obtain ⟨rw, hrw⟩ : ∃ z, z = r.w := ⟨_, rfl⟩
          rw [← hrw] at lc hr0 hr1
          have Hrw := Lib.hid hrw
          have Hm := Lib.hid hm
          clear hown3 hnew hpt hI2 hI ho hrw hm hS
          go_wp2_with fail
          go_roundg (16 - (k + 1))
          case measure => omega
          case rel => exact ⟨k + 1, _, o ++ [⟨r.x, r.y, r.w + 1, r.h⟩], by omega, rfl, rfl, by go_num, HI2, by rw [Hrw.out]; exact HS.out⟩
    · have hki : ¬ (k : Int) < 16 := by omega
      have hd := hI.out.done (by omega)
      have Hd := Lib.hid hd
      clear hd
      go_wp2_with fail
      go_ret
      have h1 := hS.own.mono (show w.heap.size ≤ w.heap.size + 1 by omega)
      rw [Hd.out] at h1
      exact ⟨_, rfl, h1, hS.bw⟩
end Go.Proofs.Ytfehdcenmncbpab
