/- Drawn color maps: the contracts of spec.l08Map and spec.DrawColor. No statement is proved here. -/
import Derived.Test.YtfehdcenmncbpaaRd
import Derived.Test.YtfehdcenmncbpaaIntR
import Derived.Test.YtfehdcenmncbpaaImR
import Derived.Test.YtfehdcenmncbpaaRectC
import Derived.Test.YtfehdcenmncbpaaPixM
import Derived.Test.YtfehdcenmncbpaaAllR
import Derived.Test.YtfehdcenmncbpaaPixA
import Derived.Test.YtfehdcenmncbpaaColM
import Derived.Test.YtfehdcenmncbpaaImV
import Derived.Test.YtfehdcenmncbpaaBk
import Derived.Test.YtfehdcenmncbpaaCmB
import Derived.Test.YtfehdcenmncbpaaBlk4
import Derived.Test.YtfehdcenmncbpaaHasC
import Derived.Test.YtfehdcenmncbpaaRectEq
import Derived.Test.YtfehdcenmncbpaaRds
import Derived.Test.YtfehdcenmncbpaaCpyB
import Derived.Test.YtfehdcenmncbpaaCmP
import Derived.Test.YtfehdcenmncbpaaCmQ
import Derived.Test.YtfehdcenmncbpaaFilB
import Derived.Test.YtfehdcenmncbpaaCrpB
import Derived.Test.YtfehdcenmncbpaaLaw
import Derived.Test.YtfehdcenmncbpaaSclB
import Derived.Test.YtfehdcenmncbpaaCurC
import Derived.Test.YtfehdcenmncbpaaPixD
import Derived.Test.YtfehdcenmncbpaaCmJ
import Derived.Test.YtfehdcenmncbpaaProg
import Derived.WalkKit
import Derived.ProofKit
import Derived.OpenShut
import Derived.WalkLawsBesides
import Derived.WalkSpells
import Derived.ShutString
import Derived.ChangeOld
import Derived.Below
import Derived.Lib.Hide
import Derived.BigQuiet
import Derived.Deep.QuietTactic
import Derived.Maps.AppendAt
import Derived.Deep.OwnRows
import Derived.Handy
import Derived.Deep.Draws
import Derived.OwnWalk
import Derived.Deep.AppendLies
import Derived.Deep.LoopGhost
import Derived.Deep.Onto
import Derived.Laws.BitsAllLaws
import Derived.Lib.QuoteBits
import Derived.Test.YtfehdcenmncbpaaShelf
import Derived.Laws.CopyOwn
import Derived.Deep.RegionLaw
import Derived.Deep.RegionHeld3
import Derived.Deep.DeepCutAuto
import Derived.Great.BuildSlice
import Derived.Deep.MidRow
import Derived.Deep.WholeRow
import Derived.Laws.AppendOwn
import Derived.ChangeKeysEq
namespace Go.Proofs.Ytfehdcenmncbpaa
open Go.RowKit
theorem all_set {L : List Int} {lo hi : Int} {k : Nat} {x : Int} (h : allIn L lo hi) (hx : lo ≤ x ∧ x ≤ hi) : allIn (L.set k x) lo hi := by
  intro j y hj
  by_cases e : j = k
  · subst e
    have hl : j < L.length := by have := (List.getElem?_eq_some_iff.1 hj).1; rwa [List.length_set] at this
    rw [List.getElem?_set_self hl] at hj
    rw [← Option.some.inj hj]; exact hx
  · rw [List.getElem?_set_ne (Ne.symm e)] at hj
    exact h j y hj
theorem w7_ok {x : Int} (hx : x ∈ [0, 85, 256, -64, 128, 1024, -1024]) : -1024 ≤ x ∧ x ≤ 1024 := by
  simp only [List.mem_cons, List.not_mem_nil, or_false] at hx
  omega
/-- A curve of which the first k points were drawn, ascending, the last one y. -/
def ascTo (C : List Int) (k : Nat) (y : Int) : Prop := C.length = 17 ∧ 0 ≤ y ∧ y ≤ 256 ∧ (∀ i j : Nat, i ≤ j → j < k → C.getD i 0 ≤ C.getD j 0) ∧ ∀ j : Nat, j < k → 0 ≤ C.getD j 0 ∧ C.getD j 0 ≤ y
theorem getD_set (L : List Int) (k : Nat) (x : Int) (hk : k < L.length) (j : Nat) : (L.set k x).getD j 0 = if j = k then x else L.getD j 0 := by
  rw [List.getD_eq_getElem?_getD, List.getD_eq_getElem?_getD]
  by_cases e : j = k
  · subst e; rw [List.getElem?_set_self hk, if_pos rfl]; rfl
  · rw [List.getElem?_set_ne (Ne.symm e), if_neg e]
theorem ascTo.next {C : List Int} {k : Nat} {y z : Int} (h : ascTo C k y) (h1 : y ≤ z) (h2 : z ≤ 256) (hk : k < 17) : ascTo (C.set k z) (k + 1) z := by
  obtain ⟨hl, y0, y1, ha, hb⟩ := h
  refine ⟨by rw [List.length_set]; exact hl, by omega, h2, fun i j hij hj => ?_, fun j hj => ?_⟩
  · rw [getD_set C k z (by omega), getD_set C k z (by omega)]
    by_cases e : j = k
    · rw [if_pos e]
      by_cases e2 : i = k
      · rw [if_pos e2]; omega
      · rw [if_neg e2]; have := hb i (by omega); omega
    · rw [if_neg e, if_neg (by omega)]; exact ha i j hij (by omega)
  · rw [getD_set C k z (by omega)]
    by_cases e : j = k
    · rw [if_pos e]; omega
    · rw [if_neg e]; have := hb j (by omega); omega
theorem ascTo.start (y : Int) (h0 : 0 ≤ y) (h1 : y ≤ 256) : ascTo idC 0 y := ⟨rfl, h0, h1, fun _ _ _ h => by omega, fun _ h => by omega⟩
theorem ascTo.done {C : List Int} {y : Int} (h : ascTo C 17 y) : allIn C 0 256 ∧ ascC C := by
  obtain ⟨hl, y0, y1, ha, hb⟩ := h
  refine ⟨fun k x hx => ?_, fun i j hij hj => ha i j hij (by omega)⟩
  have hk : k < C.length := (List.getElem?_eq_some_iff.1 hx).1
  have := hb k (by omega)
  rw [List.getD_eq_getElem?_getD, hx] at this
  exact ⟨this.1, Int.le_trans this.2 y1⟩
theorem own_at_putM {W : World} {B g n c : Nat} {M : List Int} (h : W.ownsRow B 3 1 (.slice (some ⟨g, 0, none⟩) n c) n (intCells M)) {j : Nat} (hj : j < n) :
    W.cell? ⟨g, j, none⟩ = some (.int .i64 (M.getD j 0)) ∧ W.frozen? ⟨g, j, none⟩ = false := by
  have hl : M.length = n := by have := h.1; rw [intCells_length] at this; omega
  refine ⟨?_, h.frozenAt j⟩
  rw [h.cellAt j (by omega), intCells_get, List.getD_eq_getElem?_getD, List.getElem?_eq_getElem (by omega)]; rfl
/-- A slice of the seven weights is made, in a free order. -/
theorem run_build7 (w : World) : (Instr.buildSlice 24 7 #[(0, .int .i64 0), (1, .int .i64 85), (2, .int .i64 256), (3, .int .i64 (-64)), (4, .int .i64 128), (5, .int .i64 1024), (6, .int .i64 (-1024))]).run Try.prog w =
    .ok (.slice (some ⟨w.heap.size, 0, none⟩) 7 7) (w.alloc (.cells #[.int .i64 0, .int .i64 85, .int .i64 256, .int .i64 (-64), .int .i64 128, .int .i64 1024, .int .i64 (-1024)] 3)) := by kernel_rfl
theorem wp_build7 {op : Oper} {a : Act} {w : World} {K : Act → World → Prop} {Q : Exit → Act → World → Prop} (d : Nat)
    (ho : op.op = .buildSlice 24 7 #[(0, .const (.int .i64 0)), (1, .const (.int .i64 85)), (2, .const (.int .i64 256)), (3, .const (.int .i64 (-64))), (4, .const (.int .i64 128)), (5, .const (.int .i64 1024)), (6, .const (.int .i64 (-1024)))]) (hd : op.dst = some d)
    (h : ∀ g W', Below w.heap.size w W' → Rd W' (.slice (some ⟨g, 0, none⟩) 7 7) [0, 85, 256, -64, 128, 1024, -1024].length (intCells [0, 85, 256, -64, 128, 1024, -1024]) → w.heap.size ≤ g → K (a.put (some d) (.slice (some ⟨g, 0, none⟩) 7 7)) W') : op.wp Try.prog a w K Q := by
  have h1 := h w.heap.size _ (belI_box w (.cells #[.int .i64 0, .int .i64 85, .int .i64 256, .int .i64 (-64), .int .i64 128, .int .i64 1024, .int .i64 (-1024)] 3)) (rd_built w [0, 85, 256, -64, 128, 1024, -1024] 3 _ rfl (by simp)) (Nat.le_refl _)
  have hz := run_build7 w
  unfold Oper.wp execOp
  simp only [ho, List.map_toArray, List.map_cons, List.map_nil, Act.eval, Sem.run_bind, hz, Result.andThen_ok, Sem.run_pure]
  rw [← hd] at h1
  exact h1
theorem grown_belowM {w W W' : World} {g : Nat} (h : w.grownBy W (some g)) (hb : Below W.heap.size W W') : w.grownBy W' (some g) :=
  ⟨hb.os.trans h.os, hb.tape.trans h.tape, hb.output.trans h.output, Nat.le_trans h.size hb.size, fun k hk hne => (hb.block k (Nat.lt_of_lt_of_le hk h.size)).trans (h.block k hk hne)⟩
/-- What l08Map keeps in memory: the answer's block, the map's own, the curve's row, the cursor. -/
structure DmR (w : World) (g b g1 c1 g2 c2 : Nat) (C : List Int) (W : World) : Prop where
  t : BkAt W w.heap.size 26 #[.slice none 0 0, .slice none 0 0]
  bk : BkAt W b 26 #[.slice (some ⟨g1, 0, none⟩) 9 c1, .slice (some ⟨g2, 0, none⟩) 17 c2]
  o2 : W.ownsRow (w.heap.size + 1) 3 1 (.slice (some ⟨g2, 0, none⟩) 17 c2) 17 (intCells C)
  cur : Cur W g
  gr : w.grownBy W (some g)
  gg : g < w.heap.size
  lb : w.heap.size < b
  l1 : w.heap.size < g1
  n12 : g1 ≠ g2
  m1 : b ≠ g1
  m2 : b ≠ g2
/-- The same with the matrix. -/
structure DmS (w : World) (g b g1 c1 g2 c2 : Nat) (M C : List Int) (W : World) : Prop where
  r : DmR w g b g1 c1 g2 c2 C W
  o1 : W.ownsRow (w.heap.size + 1) 3 1 (.slice (some ⟨g1, 0, none⟩) 9 c1) 9 (intCells M)
section
variable {w : World} {g b g1 c1 g2 c2 : Nat} {M C : List Int} {W W' : World}
theorem DmR.l2 (h : DmR w g b g1 c1 g2 c2 C W) : w.heap.size < g2 := by have := (h.o2.lt g2 rfl).1; omega
theorem DmR.call (h : DmR w g b g1 c1 g2 c2 C W) (hb : Below W.heap.size W W') : DmR w g b g1 c1 g2 c2 C W' :=
  ⟨h.t.call hb, h.bk.call hb, ownI_call h.o2 hb, h.cur.below hb h.cur.lt, grown_belowM h.gr hb, h.gg, h.lb, h.l1, h.n12, h.m1, h.m2⟩
theorem DmR.drew (h : DmR w g b g1 c1 g2 c2 C W) : DmR w g b g1 c1 g2 c2 C W.drew := h.call (belI_drew _)
theorem DmR.turn (h : DmR w g b g1 c1 g2 c2 C W) (hg : W.grownBy W' (some g)) (hc : Cur W' g) : DmR w g b g1 c1 g2 c2 C W' :=
  ⟨h.t.grown hg (fun e => by injection e with e; have := h.gg; omega), h.bk.grown hg (fun e => by injection e with e; have := h.gg; have := h.lb; omega),
    h.o2.kept hg (.inr fun e => by have e2 : g2 = g := (by simpa [Value.ownBlock] using e); have := h.gg; have := h.l2; omega), hc, h.gr.trans hg, h.gg, h.lb, h.l1, h.n12, h.m1, h.m2⟩
theorem DmR.set {q : Nat} (h : DmR w g b g1 c1 g2 c2 C W) (hg : W.grownBy W' (some q)) (hq : q = g1 ∨ False) : DmR w g b g1 c1 g2 c2 C W' := by
  obtain rfl : q = g1 := hq.resolve_right id
  exact ⟨h.t.grown hg (fun e => by injection e with e; have := h.l1; omega), h.bk.grown hg (fun e => h.m1 (Option.some.inj e)),
    h.o2.kept hg (.inr fun e => by have e2 : g2 = q := (by simpa [Value.ownBlock] using e); exact h.n12 e2.symm), h.cur.grown hg (fun k hk => by injection hk with hk; have := h.gg; have := h.l1; omega), h.gr.andThen hg (fun j hj => by injection hj with hj; have := h.l1; exact .inl (by omega)), h.gg, h.lb, h.l1, h.n12, h.m1, h.m2⟩
theorem DmS.call (h : DmS w g b g1 c1 g2 c2 M C W) (hb : Below W.heap.size W W') : DmS w g b g1 c1 g2 c2 M C W' := ⟨h.r.call hb, ownI_call h.o1 hb⟩
theorem DmS.turn (h : DmS w g b g1 c1 g2 c2 M C W) (hg : W.grownBy W' (some g)) (hc : Cur W' g) : DmS w g b g1 c1 g2 c2 M C W' :=
  ⟨h.r.turn hg hc, h.o1.kept hg (.inr fun e => by have e2 : g1 = g := (by simpa [Value.ownBlock] using e); have := h.r.gg; have := h.r.l1; omega)⟩
theorem DmS.put (h : DmS w g b g1 c1 g2 c2 M C W) (k : Nat) (x : Int) : DmS w g b g1 c1 g2 c2 M (C.set k x) (W.setCell ⟨g2, k, none⟩ (.int .i64 x)) := by
  obtain ⟨p1, hg⟩ := ownI_put h.r.o2 k x
  have l2 := h.r.l2
  exact ⟨⟨h.r.t.grown hg (fun e => by injection e with e; omega), h.r.bk.grown hg (fun e => h.r.m2 (Option.some.inj e)), p1, h.r.cur.grown hg (fun k hk => by injection hk with hk; have := h.r.gg; omega), h.r.gr.andThen hg (fun j hj => by injection hj with hj; exact .inl (by omega)), h.r.gg, h.r.lb, h.r.l1, h.r.n12, h.r.m1, h.r.m2⟩,
    h.o1.kept hg (.inr fun e => by have e2 : g1 = g2 := (by simpa [Value.ownBlock] using e); exact h.r.n12 e2)⟩
end
/-- What l08Map answers: a valid map with an ascending curve. -/
def DrawnMap (w : World) (g : Nat) (e : Ending) (w' : World) : Prop :=
  ∃ (u v : Value) (M C : List Int), e = .returned (.agg #[u, v]) ∧ colOk M C ∧ ascC C ∧ w'.ownsRow w.heap.size 3 1 u M.length (intCells M) ∧ w'.ownsRow w.heap.size 3 1 v C.length (intCells C) ∧ Cur w' g ∧ w.grownBy w' (some g)
theorem dm_end {w : World} {g b g1 c1 g2 c2 : Nat} {M C : List Int} {W : World} (h : DmS w g b g1 c1 g2 c2 M C W) (hM : M.length = 9 ∧ allIn M (-1024) 1024) (hC : C.length = 17 ∧ allIn C 0 256 ∧ ascC C) :
    DrawnMap w g (.returned (.agg #[.slice (some ⟨g1, 0, none⟩) 9 c1, .slice (some ⟨g2, 0, none⟩) 17 c2])) ((W.setCell ⟨w.heap.size, 0, none⟩ (.slice (some ⟨g1, 0, none⟩) 9 c1)).setCell ⟨w.heap.size, 1, none⟩ (.slice (some ⟨g2, 0, none⟩) 17 c2)) := by
  have hg := (grown_setI W w.heap.size 0 (.slice (some ⟨g1, 0, none⟩) 9 c1)).trans (grown_setI _ w.heap.size 1 (.slice (some ⟨g2, 0, none⟩) 17 c2))
  have l2 := h.r.l2
  have h1 := (h.o1.kept hg (.inr fun e => by have e2 : g1 = w.heap.size := (by simpa [Value.ownBlock] using e); have := h.r.l1; omega)).mono (show w.heap.size ≤ _ by omega)
  have h2 := (h.r.o2.kept hg (.inr fun e => by have e2 : g2 = w.heap.size := (by simpa [Value.ownBlock] using e); omega)).mono (show w.heap.size ≤ _ by omega)
  exact ⟨_, _, M, C, rfl, ⟨hM.1, hC.1, hM.2, hC.2.1⟩, hC.2.2, by rw [hM.1]; exact h1, by rw [hC.1]; exact h2, h.r.cur.grown hg (fun k hk => by injection hk with hk; have := h.r.gg; omega), h.r.gr.andThen hg (fun j hj => by injection hj with hj; exact .inl (by omega))⟩
set_option maxHeartbeats 2000000 in
set_option maxRecDepth 10000 in
theorem l08Map_any (w : World) (g : Nat) (hc : Cur w g) : Calls Try.prog 55 #[.pointer (some ⟨g, 0, none⟩)] w (DrawnMap w g) := by
  have hg := hc.lt
  go_enter Try.func55, Try.ntmps55
  go_wp2_with fail
  refine (idSp _).mono ?_
  rintro e w1 ⟨u, v, rfl, h1, h2, hne, hb⟩
  rw [show idM.length = 9 from rfl] at h1
  rw [show idC.length = 17 from rfl] at h2
  obtain ⟨g1, c1, e1, l1, _⟩ := h1.form (by omega)
  obtain ⟨g2, c2, e2, l2, _⟩ := h2.form (by omega)
  subst e1
  subst e2
  have hsz : (w.alloc (.cells #[.slice none 0 0, .slice none 0 0] 26)).heap.size = w.heap.size + 1 := by simp
  obtain ⟨b, hbq⟩ : ∃ b, b = w1.heap.size := ⟨_, rfl⟩
  have hg1 := (h1.lt g1 rfl).2
  have hg2 := (h2.lt g2 rfl).2
  rw [hsz] at h1 h2 l1 l2
  have hbs := hb.size
  rw [hsz] at hbs
  have hb2 := belI_box w1 (.cells #[.slice (some ⟨g1, 0, none⟩) 9 c1, .slice (some ⟨g2, 0, none⟩) 17 c2] 26)
  have hB := belI_call hb hb2
  have hB2 := belI_call (belI_box w (.cells #[.slice none 0 0, .slice none 0 0] 26)) hB
  have HD : Hid (DmS w g b g1 c1 g2 c2 idM idC (w1.alloc (.cells #[.slice (some ⟨g1, 0, none⟩) 9 c1, .slice (some ⟨g2, 0, none⟩) 17 c2] 26))) := Lib.hid ⟨⟨(BkAt.new w _ _).call hB, BkAt.newAt hbq.symm _ _, ownI_call h2 hb2, hc.below hB2 hg, grown_belowM (World.grownBy.refl w (some g)) hB2, hg, by omega, by omega, fun e => hne g1 rfl (by rw [e]; rfl), by omega, by omega⟩, ownI_call h1 hb2⟩
  have HBQ := Lib.hid hbq
  clear hc h1 h2 hne hb l1 l2 hg1 hg2 hbs hb2 hB hB2 hsz hbq
  go_wp2_with fail
  rw [← HBQ.out]
  refine (once_any _ _ _ (by omega) HD.out.r.cur).mono ?_
  rintro e w2 ⟨t1, rfl, hc2, hg2⟩
  replace HD := Lib.hid (HD.out.turn hg2 hc2)
  clear hc2 hg2
  go_upto_if 9 with fail
  go_cut [4] (fun s4 wx => ∃ (x : Value) (M : List Int), s4 = x ∧ Hid (M.length = 9 ∧ allIn M (-1024) 1024) ∧ DmS w g b g1 c1 g2 c2 M idC wx)
  case first =>
    cases t1
    · go_wp2_with fail
      go_meet
      case rel => exact ⟨_, idM, rfl, Lib.hid ⟨rfl, id_ok.2.2.1⟩, HD.out⟩
    · go_wp2_with fail
      go_loopg [4] 9 (fun gh s4 wr => ∃ (k : Nat) (M : List Int) (V : World), V = wr ∧ k ≤ 9 ∧ gh = 9 - k ∧ s4 = .int .i64 k ∧ Hid (M.length = 9 ∧ allIn M (-1024) 1024) ∧ DmS w g b g1 c1 g2 c2 M idC V)
      case atStart => exact ⟨0, idM, _, rfl, by omega, by omega, rfl, Lib.hid ⟨rfl, id_ok.2.2.1⟩, HD.out⟩
      case round =>
        clear HD
        obtain ⟨k, M, wx, hV, hk, rfl, rfl, HM, hD⟩ := hrel
        subst hV
        by_cases hkl : k < 9
        · have k1 : (k : Int) < 9 := by omega
          have k0 : (0 : Int) ≤ (k : Int) := by omega
          have hT := hD.r
          go_upto_region 6 with fail
          refine wp_region_held_drew (S := fun V => DmR w g b g1 c1 g2 c2 idC V) (by kernel_rfl) hT.drew (fun hS => ?_)
          have hOw := show World.ownsRow wx.drew _ _ _ _ _ _ from hD.o1
          refine wpAnyH_take (i := 0) (v := .pointer (some ⟨b, 0, none⟩)) rfl (by kernel_rfl) (by kernel_rfl) (by kernel_rfl) (fun _ _ _ h => h) (Or.inl ⟨by kernel_rfl, by intro w' hSw; (try dsimp only at hSw); (have a0 := hSw.bk.cell 0 rfl); (have a1 := hSw.bk.cell 1 rfl); go_simp⟩) (by assumption) ?_
          refine wpAnyH_take (i := 1) (v := .slice (some ⟨g1, 0, none⟩) 9 c1) rfl (by kernel_rfl) (by kernel_rfl) (by kernel_rfl) (fun _ _ _ h => h) (Or.inl ⟨by kernel_rfl, by intro w' hSw; (try dsimp only at hSw); (have a0 := hSw.bk.cell 0 rfl); (have a1 := hSw.bk.cell 1 rfl); go_simp⟩) (by assumption) ?_
          refine wpAnyH_take (i := 2) (v := .int .i64 (k : Int)) rfl (by kernel_rfl) (by kernel_rfl) (by kernel_rfl) (fun _ _ _ h => h) (Or.inl ⟨by kernel_rfl, by intro w' hSw; (try dsimp only at hSw); (have a0 := hSw.bk.cell 0 rfl); (have a1 := hSw.bk.cell 1 rfl); go_simp⟩) (by assumption) ?_
          refine wpAnyH_take (i := 3) (v := .pointer (some ⟨g, 0, none⟩)) rfl (by kernel_rfl) (by kernel_rfl) (by kernel_rfl) (fun _ _ _ h => h) (Or.inl ⟨by kernel_rfl, by intro w' hSw; (try dsimp only at hSw); (have a0 := hSw.bk.cell 0 rfl); (have a1 := hSw.bk.cell 1 rfl); go_simp⟩) (by assumption) ?_
          (try simp only [Act.put]); (try simp only [List.setIfInBounds_toArray]); (try simp only [List.set_cons_zero, List.set_cons_succ])
          refine wpAnyH_ready (rs := [4]) (by kernel_rfl) (by simp) ?_
          refine (AllReadyH.cons rfl (fun K hK => ?_) AllReadyH.nil)
          · rw [if_pos (by kernel_rfl)]
            (try simp only [List.getElem_toArray]); (try simp only [List.getElem_cons_succ]); (try simp only [List.getElem_cons_zero])
            refine wp_build7 18 rfl rfl ?_
            intro gb W' hb hR lb
            have lg : g < gb := by have := hS.gg; have := hS.gr.size; omega
            have hOw := ownI_call hOw hb
            refine hK.out _ _ (hS.call hb) (fun hS => ?_)
            clear hK
            (try simp only [Act.put]); (try simp only [List.setIfInBounds_toArray]); (try simp only [List.set_cons_zero, List.set_cons_succ])
            refine wpAnyH_ready (rs := [5]) (by kernel_rfl) (by simp) ?_
            refine (AllReadyH.cons rfl (fun K hK => ?_) AllReadyH.nil)
            · rw [if_pos (by kernel_rfl)]
              (try simp only [List.getElem_toArray]); (try simp only [List.getElem_cons_succ]); (try simp only [List.getElem_cons_zero])
              go_simp
              with_reducible refine (pickI_any _ _ _ g (by simp) hS.cur hR (fun k hk => by have e2 : gb = k := (by simpa [Value.ownBlock] using hk); omega)).mono ?_
              rintro e W' ⟨x, rfl, hx, hc2, hg2⟩
              dsimp only
              have cS := (own_at_putM (hOw.kept hg2 (.inr fun e => by have e2 : g1 = g := (by simpa [Value.ownBlock] using e); have := hS.gg; have := hS.l1; omega)) (j := k) (by omega)).1
              have fS := (own_at_putM (hOw.kept hg2 (.inr fun e => by have e2 : g1 = g := (by simpa [Value.ownBlock] using e); have := hS.gg; have := hS.l1; omega)) (j := k) (by omega)).2
              replace hOw := hOw.kept hg2 (.inr fun e => by have e2 : g1 = g := (by simpa [Value.ownBlock] using e); have := hS.gg; have := hS.l1; omega)
              skip
              refine hK.out _ _ (hS.turn hg2 hc2) (fun hS => ?_)
              clear hK
              (try simp only [Act.put]); (try simp only [List.setIfInBounds_toArray]); (try simp only [List.set_cons_zero, List.set_cons_succ])
              refine wpAnyH_take (i := 6) (v := .pointer (some ⟨g1, k, none⟩)) rfl (by kernel_rfl) (by kernel_rfl) (by kernel_rfl) (fun _ _ _ h => h) (Or.inl ⟨by kernel_rfl, by intro w' hSw; (try dsimp only at hSw); (have a0 := hSw.bk.cell 0 rfl); (have a1 := hSw.bk.cell 1 rfl); go_simp⟩) (by assumption) ?_
              (try simp only [Act.put]); (try simp only [List.setIfInBounds_toArray]); (try simp only [List.set_cons_zero, List.set_cons_succ])
              refine wpAnyH_ready (rs := [7]) (by kernel_rfl) (by simp) ?_
              refine (AllReadyH.cons rfl (fun K hK => ?_) AllReadyH.nil)
              · rw [if_pos (by kernel_rfl)]
                (try simp only [List.getElem_toArray]); (try simp only [List.getElem_cons_succ]); (try simp only [List.getElem_cons_zero])
                go_simp
                skip
                skip
                refine hK.out _ _ (hS.set (grown_setI _ g1 k _) (.inl rfl)) (fun hS => ?_)
                clear hK
                (try simp only [Act.put]); (try simp only [List.setIfInBounds_toArray]); (try simp only [List.set_cons_zero, List.set_cons_succ])
                refine wpAnyH_done (by kernel_rfl) ?_ _
                go_wp2_with fail
                go_roundg (9 - (k + 1))
                case measure => omega
                case rel => exact ⟨k + 1, _, _, rfl, by omega, by omega, by go_num, Lib.hid ⟨by rw [List.length_set]; exact HM.out.1, all_set HM.out.2 (w7_ok hx)⟩, ⟨hS, (ownI_put hOw k x).1⟩⟩
        · have k1 : ¬ (k : Int) < 9 := by omega
          go_wp2_with fail
          go_meet
          case rel => exact ⟨_, M, rfl, HM, hD⟩
  case rest =>
    clear HD
    obtain ⟨x4, M, rfl, HM, hD⟩ := hcut
    go_wp2_with fail
    refine (once_any _ _ _ (by omega) hD.r.cur).mono ?_
    rintro e w4 ⟨t2, rfl, hc2, hg2⟩
    have HD := Lib.hid (hD.turn hg2 hc2)
    clear hc2 hg2 hD
    go_upto_if 22 with fail
    go_cut [5, 6] (fun s5 s6 wx => ∃ (x y : Value) (C : List Int), s5 = x ∧ s6 = y ∧ Hid (C.length = 17 ∧ allIn C 0 256 ∧ ascC C) ∧ DmS w g b g1 c1 g2 c2 M C wx)
    case first =>
      cases t2
      · go_wp2_with fail
        go_meet
        case rel => exact ⟨_, _, idC, rfl, rfl, Lib.hid ⟨rfl, id_ok.2.2.2, id_asc⟩, HD.out⟩
      · go_wp2_with fail
        go_loopw [5, 6] (fun s5 s6 wr => ∃ (k : Nat) (y : Int) (C : List Int), k ≤ 17 ∧ s6 = .int .i64 k ∧ s5 = .int .i64 y ∧ Hid (ascTo C k y) ∧ DmS w g b g1 c1 g2 c2 M C wr) (fun _ s6 _ => 17 - (intOf s6).toNat)
        case atStart => exact ⟨0, 0, idC, by omega, rfl, rfl, Lib.hid (ascTo.start 0 (by omega) (by omega)), HD.out⟩
        case round =>
          clear HD
          obtain ⟨k, y, C, hk, rfl, rfl, HY, hD⟩ := hrel
          by_cases hkl : k < 17
          · have k1 : (k : Int) < 17 := by omega
            have k0 : (0 : Int) ≤ (k : Int) := by omega
            have y0 := HY.out.2.1
            have y1 := HY.out.2.2.1
            go_wp2_with fail
            refine (below_any _ _ _ (by omega) hD.r.cur).mono ?_
            rintro e w5 ⟨d, rfl, d0, d1, _, hc5, hg5⟩
            have d2 : d < 40 := d1 (by omega)
            have hD5 := hD.turn hg5 hc5
            clear hD hc5 hg5 d1
            have a1 := hD5.r.bk.cell 1 rfl
            obtain ⟨z, hz⟩ : ∃ z, z = min 256 (y + d) := ⟨_, rfl⟩
            have hmin : (if (256 : Int) < y + d then 256 else y + d) = z := by rw [hz]; split <;> omega
            obtain ⟨cS, fS⟩ := own_at_putM hD5.r.o2 hkl
            have HN := Lib.hid (HY.out.next (z := z) (by omega) (by omega) hkl)
            have HD5 := Lib.hid (hD5.put k z)
            have HZ := Lib.hid hz
            clear hD5 hmin
            go_wp2_with fail
            rw [← HZ.out]
            go_roundw
            case rel => exact ⟨k + 1, z, _, by omega, by go_num, rfl, HN, HD5.out⟩
            case measure => simp [intOf]; omega
          · obtain rfl : k = 17 := by omega
            have HC := Lib.hid (show C.length = 17 ∧ allIn C 0 256 ∧ ascC C from ⟨HY.out.1, HY.out.done⟩)
            go_wp2_with fail
            go_meet
            case rel => exact ⟨_, _, C, rfl, rfl, HC, hD⟩
    case rest =>
      clear HD
      obtain ⟨x5, x6, C, rfl, rfl, HC, hD⟩ := hcut
      have a0 := hD.r.bk.cell 0 rfl
      have a1 := hD.r.bk.cell 1 rfl
      have r0 := hD.r.t.cell 0 rfl
      have r1 := hD.r.t.cell 1 rfl
      have f0 := hD.r.t.frozen 0
      have f1 := hD.r.t.frozen 1
      have HJ := Lib.hid ((hD.r.t.set 0 (.slice (some ⟨g1, 0, none⟩) 9 c1)).set 1 (.slice (some ⟨g2, 0, none⟩) 17 c2))
      have HD := Lib.hid hD
      clear hD
      go_wp2_with fail
      have s0 := HJ.out.cell 0 rfl
      have s1 := HJ.out.cell 1 rfl
      exact bodyPost_ret (v := .agg #[.slice (some ⟨g1, 0, none⟩) 9 c1, .slice (some ⟨g2, 0, none⟩) 17 c2]) (by simp [results, Try.results55, go_sem, s0, s1]) rfl (dm_end HD.out HM.out HC.out)
end Go.Proofs.Ytfehdcenmncbpaa
