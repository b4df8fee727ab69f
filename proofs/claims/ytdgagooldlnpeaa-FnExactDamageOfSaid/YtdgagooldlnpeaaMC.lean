/- Texts of mine in one file: CanS, RunP, RunI, SrB, AppN, CanI, RgnC, MarkR, OriQ, OriP, SclM, CurC, RectD, ComP, BoundI, FormA. No statement is proved here. -/
import Derived.Test.YtdgagooldlnpeaaMA
import Derived.Test.YtdgagooldlnpeaaProg
import Derived.WalkKit
import Derived.ProofKit
import Derived.OpenShut
import Derived.WalkLawsBesides
import Derived.WalkSpells
import Derived.ShutString
import Derived.ChangeOld
import Derived.Below
import Derived.Lib.Hide
import Derived.BigQuiet
import Derived.Deep.QuietTactic
import Derived.Maps.AppendAt
import Derived.Deep.Draws
import Derived.Deep.MidRow
import Derived.Deep.WholeRow
import Derived.Deep.OwnRows
import Derived.Deep.RegionHeld3
import Derived.Deep.DeepCutAuto
import Derived.OwnWalk
import Derived.Deep.AppendLies
import Derived.Deep.Onto
import Derived.Deep.LoopGhost
import Derived.Laws.AppendOwn
import Derived.Handy
import Derived.Laws.BitsAllLaws
import Derived.Lib.QuoteBits
import Derived.Deep.RegionWith
import Derived.Great.BuildSlice
namespace Go.Proofs.Ytdgagooldlnpeaa
open Go.RowKit
theorem infoRect : (Try.prog.info? 81).map (fun i => (i.zero, i.size, i.bytes)) = some (some (.agg #[.int .i64 0, .int .i64 0, .int .i64 0, .int .i64 0]), 4, 32) := by kernel_rfl
theorem rowS' (b : Nat) (g : Nat → Bool) (y z : Nat) (zi : Int) (hzi : zi = (z : Int)) (hy : y < 16) (hz : z < 16) (w : World) (hG : GrAt w b 4 g) :
  Calls Try.prog 143 #[.slice (some ⟨b, 0, none⟩) 256 256, .int .i64 y, .int .i64 zi] w fun e w' => e = .returned (.bool (rowEq g y z)) ∧ ∃ q, w' = w.drewN q := by
 subst hzi
 exact rowS b g y z hy hz w hG
def CanAns (g : Nat → Bool) (w : World) (e : Ending) (w' : World) : Prop :=
 ∃ v, e = .returned (.agg #[v]) ∧ w'.ownsRow w.heap.size 81 4 v (canon g).length (rcsCells (canon g)) ∧ Below w.heap.size w w'
structure CaSt (w : World) (b : Nat) (g : Nat → Bool) (v : Value) (L : List Rc) (wr : World) : Prop where
 rs : wr.heap[w.heap.size]? = some (.cells #[.slice none 0 0] 28 (0, 0))
 out : wr.heap[w.heap.size + 1]? = some (.cells #[v] 28 (0, 0))
 own : wr.ownsRow (w.heap.size + 2) 81 4 v L.length (rcsCells L)
 gr : GrAt wr b 4 g
 bl : b < w.heap.size
 bw : Below w.heap.size w wr
theorem CaSt.drewN {w wr : World} {b : Nat} {g : Nat → Bool} {v : Value} {L : List Rc} (h : CaSt w b g v L wr) (q : Nat) : CaSt w b g v L (wr.drewN q) :=
 ⟨h.rs, h.out, own_drewN h.own q, h.gr.drewN q, h.bl, below_drewN h.bw q⟩
theorem CaSt.size {w wr : World} {b : Nat} {g : Nat → Bool} {v : Value} {L : List Rc} (h : CaSt w b g v L wr) : w.heap.size + 1 < wr.heap.size := (Array.getElem?_eq_some_iff.1 h.out).1
theorem CaSt.cell {w wr : World} {b : Nat} {g : Nat → Bool} {v : Value} {L : List Rc} (h : CaSt w b g v L wr) : wr.cell? ⟨w.heap.size + 1, 0, none⟩ = some v := by
 have := h.out; simp [World.cell?, this]
theorem CaSt.frozen {w wr : World} {b : Nat} {g : Nat → Bool} {v : Value} {L : List Rc} (h : CaSt w b g v L wr) : wr.frozen? ⟨w.heap.size + 1, 0, none⟩ = false := by
 have := h.out; simp [World.frozen?, this]
theorem CaSt.rcell {w wr : World} {b : Nat} {g : Nat → Bool} {v : Value} {L : List Rc} (h : CaSt w b g v L wr) : wr.cell? ⟨w.heap.size, 0, none⟩ = some (.slice none 0 0) := by
 have := h.rs; simp [World.cell?, this]
theorem CaSt.rfrozen {w wr : World} {b : Nat} {g : Nat → Bool} {v : Value} {L : List Rc} (h : CaSt w b g v L wr) : wr.frozen? ⟨w.heap.size, 0, none⟩ = false := by
 have := h.rs; simp [World.frozen?, this]
theorem grown_setc (w : World) (g o : Nat) (v : Value) : w.grownBy (w.setCell ⟨g, o, none⟩ v) (some g) :=
 ⟨rfl, rfl, rfl, by simp [World.setCell], fun k hk hne => Below.heap_setCell w _ v k (by simpa using hne)⟩
theorem heap_set0 {w : World} {g : Nat} {s : Value} {T : TypeId} (hg : w.heap[g]? = some (.cells #[s] T (0, 0))) (v : Value) :
  (w.setCell ⟨g, 0, none⟩ v).heap[g]? = some (.cells #[v] T (0, 0)) := by rw [heap_setCell_same w g 0 _ T v hg]; rfl
theorem CaSt.next {w wr w2 : World} {b : Nat} {g : Nat → Bool} {v v' : Value} {L : List Rc} {o : Obj} (h : CaSt w b g v L wr) (r : Rc)
  (hown : w2.ownsRow (w.heap.size + 2) 81 4 v' (L.length + 1) (rcsCells L ++ rcCells r)) (hgr : (wr.alloc o).grownBy w2 v.ownBlock) :
  CaSt w b g v' (L ++ [r]) (w2.setCell ⟨w.heap.size + 1, 0, none⟩ v') := by
 have hlow : ∀ k, k < w.heap.size + 2 → some k ≠ v.ownBlock := fun k hk e => by have := (h.own.lt k e.symm).1; omega
 have hs := h.size
 have hk : ∀ k, k < w.heap.size + 2 → w2.heap[k]? = wr.heap[k]? := fun k hk => (hgr.block k (by simp; omega) (hlow k hk)).trans (Below.heap_alloc wr o k (by omega))
 refine ⟨?_, heap_set0 ((hk _ (by omega)).trans h.out) v', ?_, ?_, h.bl, ?_⟩
 ·exact (Below.heap_setCell w2 _ v' _ (by simp)).trans ((hk _ (by omega)).trans h.rs)
 ·have := hown.kept (row := some (w.heap.size + 1)) (w' := w2.setCell ⟨w.heap.size + 1, 0, none⟩ v') (grown_setc w2 _ _ v') (by
   by_cases hv : v'.ownBlock = none
   ·exact .inl hv
   ·refine .inr fun e => ?_
    have := (hown.lt _ e).1
    omega)
  rw [List.length_append, rcsCells_append, rcsCells_one]
  exact this
 ·exact (Below.heap_setCell w2 _ v' _ (by have := h.bl; simp; omega)).trans ((hk _ (by have := h.bl; omega)).trans h.gr)
 ·exact ((h.bw.alloc h.bw.size o).grown hgr (by have := h.bw.size; simp; omega) (fun k hk => by have := (h.own.lt k hk).1; omega)).setCell (by simp) _
theorem CaSt.form {w wr : World} {b : Nat} {g : Nat → Bool} {v : Value} {L : List Rc} (h : CaSt w b g v L wr) : ∃ A n c, v = .slice A n c := by
 obtain ⟨A, c, rfl⟩ := (RdR.of_own h.own).form
 exact ⟨A, _, c, rfl⟩
theorem CaSt.mid {w wr w2 : World} {b : Nat} {g : Nat → Bool} {v : Value} {L : List Rc} {o : Obj} (h : CaSt w b g v L wr) (hgr : (wr.alloc o).grownBy w2 v.ownBlock) :
  w2.cell? ⟨w.heap.size + 1, 0, none⟩ = some v ∧ w2.frozen? ⟨w.heap.size + 1, 0, none⟩ = false := by
 have hs := h.size
 have hk : w2.heap[w.heap.size + 1]? = wr.heap[w.heap.size + 1]? := (hgr.block _ (by simp; omega) (fun e => by have := (h.own.lt _ e.symm).1; omega)).trans (Below.heap_alloc wr o _ (by omega))
 have := hk.trans h.out
 exact ⟨by simp [World.cell?, this], by simp [World.frozen?, this]⟩
set_option maxHeartbeats 2000000 in
set_option maxRecDepth 10000 in
theorem canS (b : Nat) (g : Nat → Bool) (w : World) (hG : GrAt w b 4 g) : Calls Try.prog 103 #[.slice (some ⟨b, 0, none⟩) 256 256] w (CanAns g w) := by
  have hbl := hG.lt
  obtain ⟨i0, hi, hz0, hz1, hz2⟩ := info_parts infoRect
  have hS0 : CaSt w b g (.slice none 0 0) [] ((w.alloc (.cells #[.slice none 0 0] 28)).alloc (.cells #[.slice none 0 0] 28)) :=
    ⟨(Below.heap_alloc _ _ _ (by simp)).trans (heap_alloc_new w _), by have := heap_alloc_new (w.alloc (.cells #[.slice none 0 0] 28)) (.cells #[.slice none 0 0] 28); simpa using this,
      World.ownsRow_nil _ _ _ _, (hG.alloc _).alloc _, hbl, ((Below.refl _ _).alloc (Nat.le_refl _) _).alloc (by simp) _⟩
  clear hG
  go_enter Try.func103, Try.ntmps103
  go_wp2_with fail
  go_loopg [4] 16 (fun gk i wr => ∃ (y : Nat) (v : Value) (L : List Rc), y ≤ 16 ∧ gk = 16 - y ∧ i = .int .i64 y ∧ Hid (canon g = L ++ bands g y) ∧ CaSt w b g v L wr)
  case atStart => exact ⟨0, _, [], Nat.zero_le _, rfl, rfl, Lib.hid rfl, hS0⟩
  case round =>
    clear hS0
    obtain ⟨y, v, L, hy, rfl, rfl, hB, hS⟩ := hrel
    by_cases hy16 : y < 16
    · have hy16i : (y : Int) < 16 := by omega
      go_wp2_with fail
      go_loopg [5] 15 (fun g2 i2 wy => ∃ h : Nat, 1 ≤ h ∧ y + h ≤ 16 ∧ g2 = 16 - h ∧ i2 = .int .i64 h ∧ Hid (bandFrom g y h = bandH g y) ∧ CaSt w b g v L wy)
      case atStart => exact ⟨1, Nat.le_refl _, by omega, by omega, rfl, Lib.hid rfl, hS⟩
      case round =>
        clear hS
        obtain ⟨h, hh1, hh2, rfl, rfl, hH, hS⟩ := hrel
        by_cases hc : y + h < 16 ∧ rowEq g y (y + h) = true
        · have hyh := hc.1
          have hyi : (y : Int) + (h : Int) < 16 := by omega
          have Hre := Lib.hid hc.2
          clear hc
          go_wp2_with fail
          refine (rowS' b g y (y + h) _ (by omega) (by omega) (by omega) _ hS.gr).mono ?_
          rintro e w1 ⟨rfl, q, rfl⟩
          rw [Hre.out]
          go_wp2_with fail
          go_roundg (16 - (h + 1))
          case measure => omega
          case rel => exact ⟨h + 1, by omega, by omega, rfl, by go_num, Lib.hid ((bandFrom_go hyh Hre.out).symm.trans hH.out), hS.drewN q⟩
        · have hB2 : Hid (canon g = L ++ (runs g y h 0 ++ bands g (y + h))) := Lib.hid (by rw [hB.out, bands_open g y h hy16 (hH.out.symm.trans (bandFrom_stop hc))])
          have Hc := Lib.hid hc
          clear hc hB hH
          (by_cases hyh : y + h < 16)
          (have hyi : (y : Int) + (h : Int) < 16 := by omega
           have hre : rowEq g y (y + h) = false := by
            rcases e : rowEq g y (y + h) with _ | _
            · rfl
            · exact absurd ⟨hyh, e⟩ Hc.out
           have Hre := Lib.hid hre
           clear hre
           go_wp2_with fail
           refine (rowS' b g y (y + h) _ (by omega) (by omega) (by omega) _ hS.gr).mono ?_
           rintro e w1 ⟨rfl, q, rfl⟩
           rw [Hre.out]
           have hS := hS.drewN q
           clear hyi
           go_wp2_with fail)
          rotate_left
          (have hyi : ¬ (y : Int) + (h : Int) < 16 := by omega
           go_wp2_with fail)
          all_goals
            go_loopg [6] 17 (fun g3 i3 wx => ∃ (x : Nat) (v : Value) (L : List Rc), x ≤ 17 ∧ g3 = 17 - x ∧ i3 = .int .i64 x ∧ Hid (canon g = L ++ (runs g y h x ++ bands g (y + h))) ∧ CaSt w b g v L wx)
            case atStart => exact ⟨0, v, L, by omega, rfl, rfl, hB2, hS⟩
            case round =>
              clear hS hB2
              obtain ⟨x, v, L, hx, rfl, rfl, hB3, hS⟩ := hrel
              by_cases hx16 : x < 16
              · have hxi : (x : Int) < 16 := by omega
                go_wp2_with fail
                go_loopg [7] 16 (fun g4 i4 wu => ∃ u : Nat, x + u ≤ 16 ∧ g4 = 16 - u ∧ i4 = .int .i64 u ∧ Hid (runFrom g y x u = runW g y x) ∧ CaSt w b g v L wu)
                case atStart => exact ⟨0, by omega, rfl, rfl, Lib.hid rfl, hS⟩
                case round =>
                  clear hS
                  obtain ⟨u, hu1, rfl, rfl, hU, hS⟩ := hrel
                  by_cases hc : x + u < 16 ∧ g (y * 16 + (x + u)) = true
                  · have hxui : (x : Int) + (u : Int) < 16 := by omega
                    have b0 : (0 : Int) ≤ (y : Int) * 16 + (x : Int) + (u : Int) := by omega
                    have b1 : (y : Int) * 16 + (x : Int) + (u : Int) < 256 := by omega
                    have hcell := hS.gr.cell (y * 16 + x + u) (by omega)
                    rw [show g (y * 16 + x + u) = true by rw [Nat.add_assoc]; exact hc.2] at hcell
                    have Hc := Lib.hid hc
                    clear hc
                    go_wp2_with fail
                    go_roundg (16 - (u + 1))
                    case measure => omega
                    case rel => exact ⟨u + 1, by omega, rfl, by go_num, Lib.hid ((runFrom_go Hc.out.1 Hc.out.2).symm.trans hU.out), hS⟩
                  · have hB4 : Hid (canon g = L ++ (((if 0 < u then [⟨x, y, u, h⟩] else []) ++ runs g y h (x + u + 1)) ++ bands g (y + h))) :=
                      Lib.hid (by rw [hB3.out, runs_open g y h x u hx16 (hU.out.symm.trans (runFrom_stop hc))])
                    have hLl : L.length ≤ 256 := canon_part hB4.out
                    have Hc := Lib.hid hc
                    have oc := hS.cell
                    have of := hS.frozen
                    clear hc hB3 hU
                    by_cases hu0 : 0 < u
                    · rw [if_pos hu0] at hB4
                      have hu0i : (0 : Int) < (u : Int) := by omega
                      (by_cases hxu : x + u < 16)
                      (have hxui : (x : Int) + (u : Int) < 16 := by omega
                       have b0 : (0 : Int) ≤ (y : Int) * 16 + (x : Int) + (u : Int) := by omega
                       have b1 : (y : Int) * 16 + (x : Int) + (u : Int) < 256 := by omega
                       have hcell := hS.gr.cell (y * 16 + x + u) (by omega)
                       rw [show g (y * 16 + x + u) = false by
                        rw [Nat.add_assoc]
                        rcases e : g (y * 16 + (x + u)) with _ | _
                        · rfl
                        · exact absurd ⟨hxu, e⟩ Hc.out] at hcell)
                      rotate_left
                      (have hxui : ¬ (x : Int) + (u : Int) < 16 := by omega)
                      all_goals
                        go_wp2_with (at_builtin; refine wpList_append_own _ rfl _ _ 26 rfl (w.heap.size + 2) 81 i0 (.agg #[.int .i64 0, .int .i64 0, .int .i64 0, .int .i64 0]) 4 32 Try.underlying26 hi hz0 hz1 hz2 rfl (by decide) _ _ _ rfl (hS.own.alloc _) ⟨_, 0, none⟩ 1 1 _ rfl rfl (World.news_of_block (cs := #[.int .i64 x, .int .i64 y, .int .i64 u, .int .i64 h]) (fr := (0, 0)) (heap_alloc_new _ _)) (by intro u' hu'; simp at hu'; rcases hu' with rfl | rfl | rfl | rfl <;> rfl) (by unfold maxLen; omega) (by omega) (by have := hS.size; simp; omega) ?_)
                        intro v2 w2 hown2 hgrow _
                        obtain ⟨gq, cq, hvq, _, _⟩ := hown2.form (by omega)
                        subst hvq
                        obtain ⟨oc2, of2⟩ := hS.mid hgrow
                        have hS := hS.next ⟨x, y, u, h⟩ hown2 hgrow
                        clear hown2 hgrow oc of
                        go_wp2_with fail
                        go_roundg (17 - (x + u + 1))
                        case measure => omega
                        case rel => exact ⟨x + u + 1, _, L ++ [⟨x, y, u, h⟩], by omega, rfl, by go_num, Lib.hid (by rw [hB4.out]; simp only [List.append_assoc]), hS⟩
                    · obtain rfl : u = 0 := by omega
                      rw [if_neg (by omega), List.nil_append] at hB4
                      have b0 : (0 : Int) ≤ (y : Int) * 16 + (x : Int) := by omega
                      have b1 : (y : Int) * 16 + (x : Int) < 256 := by omega
                      have hcell := hS.gr.cell (y * 16 + x) (by omega)
                      rw [show g (y * 16 + x) = false by
                        rcases e : g (y * 16 + x) with _ | _
                        · rfl
                        · exact absurd ⟨hx16, e⟩ Hc.out] at hcell
                      go_wp2_with fail
                      go_roundg (17 - (x + 0 + 1))
                      case measure => omega
                      case rel => exact ⟨x + 0 + 1, v, L, by omega, rfl, by go_num, hB4, hS⟩
              · have hxi : ¬ (x : Int) < 16 := by omega
                go_wp2_with fail
                go_roundg (16 - (y + h))
                case measure => omega
                case rel => exact ⟨y + h, v, L, by omega, rfl, by go_num, Lib.hid (by rw [hB3.out, runs_end g y h x (by omega), List.nil_append]), hS⟩
    · obtain ⟨A, nv, cv, rfl⟩ := hS.form
      have hy16i : ¬ (y : Int) < 16 := by omega
      have hB2 : L = canon g := by rw [hB.out, bands_end g y (by omega), List.append_nil]
      have oc := hS.cell
      have of := hS.frozen
      have rc := hS.rcell
      have rf := hS.rfrozen
      have hsz := hS.size
      go_wp2_with fail
      exact bodyPost_ret (v := .agg #[.slice A nv cv]) (by simp [results, Try.results103, go_sem, rc]) rfl ⟨_, rfl, by
        have h1 := (hS.own.mono (show w.heap.size ≤ w.heap.size + 2 by omega)).kept (row := some w.heap.size) (grown_setc wr _ 0 (.slice A nv cv)) (by
          by_cases hv : (Value.slice A nv cv).ownBlock = none
          · exact .inl hv
          · refine .inr fun e => ?_
            have := (hS.own.lt _ e).1
            omega)
        rw [hB2] at h1
        exact h1, hS.bw.setCell (Nat.le_refl _) _⟩
end Go.Proofs.Ytdgagooldlnpeaa
namespace Go.Proofs.Ytdgagooldlnpeaa
open Go.RowKit
def rowCells0 (g : Nat → Bool) (y : Nat) : Array Value := Array.ofFn (n := 16) fun i => .bool (g (y * 16 + i.val))
theorem rowCells_ex (g : Nat → Bool) (y : Nat) : ∃ c : Array Value, c = rowCells0 g y := ⟨_, rfl⟩
noncomputable def rowCells (g : Nat → Bool) (y : Nat) : Array Value := Classical.choose (rowCells_ex g y)
theorem rowCells_eq (g : Nat → Bool) (y : Nat) : rowCells g y = rowCells0 g y := Classical.choose_spec (rowCells_ex g y)
theorem rowCells_size (g : Nat → Bool) (y : Nat) : (rowCells g y).size = 16 := by rw [rowCells_eq]; simp [rowCells0]
theorem rowCells_get (g : Nat → Bool) (y k : Nat) (h : k < 16) : (rowCells g y)[k]? = some (.bool (g (y * 16 + k))) := by rw [rowCells_eq]; simp [rowCells0, h]
theorem GrAt.row_at {w : World} {b : Nat} {t : TypeId} {g : Nat → Bool} (h : GrAt w b t g) (y : Nat) (hy : y < 16) : w.rangeAt b (y * 16) (rowCells g y).toList := fun j v hv => by
 have hj : j < 16 := by have := (List.getElem?_eq_some_iff.1 hv).1; rw [Array.length_toList, rowCells_size] at this; exact this
 rw [Array.getElem?_toList, rowCells_get g y j hj] at hv
 rw [h.cell (y * 16 + j) (by omega), hv]
theorem infoRow : (Try.prog.info? 130).map (·.size) = some 16 := by kernel_rfl
theorem wp_load_gridrow {op : Oper} {a : Act} {w : World} {K : Act → World → Prop} {Q : Exit → Act → World → Prop} (x : Operand) (ho : op.op = .load 130 x)
  (b y : Nat) (g : Nat → Bool) (t : TypeId) (hy : y < 16) (hx : a.eval x = .pointer (some ⟨b, y * 16, none⟩)) (hG : GrAt w b t g)
  (h : K (a.put op.dst (.agg (rowCells g y))) w) : op.wp Try.prog a w K Q :=
 wp_load_mid 130 x ho b (y * 16) hx (rowCells g y).toList _ (hG.row_at y hy) Try.underlying130 rfl (by rw [Array.length_toList, rowCells_size]; exact infoRow) (by simpa using h)
def RowAt (w : World) (b : Nat) (g : Nat → Bool) (y : Nat) : Prop := w.heap[b]? = some (.cells (rowCells g y) 130 (0, 0))
theorem RowAt.lt {w : World} {b y : Nat} {g : Nat → Bool} (h : RowAt w b g y) : b < w.heap.size := (Array.getElem?_eq_some_iff.1 h).1
theorem RowAt.cell {w : World} {b y : Nat} {g : Nat → Bool} (h : RowAt w b g y) (k : Nat) (hk : k < 16) : w.cell? ⟨b, k, none⟩ = some (.bool (g (y * 16 + k))) := by
 rw [cell_of_row w b k _ _ _ h, rowCells_get g y k hk]
theorem index_row (g : Nat → Bool) (y k : Nat) (hk : k < 16) (w : World) : (Instr.index 130 (.agg (rowCells g y)) (.int .i64 (k : Int))).run Try.prog w = .ok (.bool (g (y * 16 + k))) w := by
 have hn : 0 ≤ (k : Int) ∧ (k : Int) < ((16 : Nat) : Int) := by omega
 have hg := rowCells_get g y k hk
 simp [Instr.index, run_underlying Try.underlying130, asIntOf, hn, go_sem, hg]
 intro h16
 omega
structure RunInv (g : Nat → Bool) (y h : Nat) (out : List Rc) (k : Nat) : Prop where
 it : iterI g y h out k = runs g y h 0
 wd : ∀ r ∈ out, 0 ≤ r.w ∧ r.w ≤ k
 ne : 0 < k → g (y * 16 + (k - 1)) = true → out ≠ []
 ln : out.length ≤ k
theorem RunInv.start (g : Nat → Bool) (y h : Nat) : RunInv g y h [] 0 := ⟨iterI_all g y h, fun r hr => (by cases hr), fun h0 => (by omega), Nat.le_refl _⟩
theorem RunInv.no {g : Nat → Bool} {y h k : Nat} {out : List Rc} (i : RunInv g y h out k) (hk : k < 16) (hg : g (y * 16 + k) = false) : RunInv g y h out (k + 1) := by
 refine ⟨by rw [← i.it, iterI_go _ _ _ _ _ hk, stepI_no hg], fun r hr => ?_, fun _ h1 => ?_, ?_⟩
 ·have := i.wd r hr; push_cast; omega
 ·rw [show k + 1 - 1 = k by omega, hg] at h1; cases h1
 ·have := i.ln; omega
theorem RunInv.new {g : Nat → Bool} {y h k : Nat} {out : List Rc} (i : RunInv g y h out k) (hk : k < 16) (hg : g (y * 16 + k) = true) (hp : k = 0 ∨ g (y * 16 + (k - 1)) = false) : RunInv g y h (out ++ [⟨k, y, 0 + 1, h⟩]) (k + 1) := by
 refine ⟨by rw [← i.it, iterI_go _ _ _ _ _ hk, stepI_new hg hp]; rfl, fun r hr => ?_, fun _ _ => by simp, ?_⟩
 ·rcases List.mem_append.1 hr with hr | hr
  ·have := i.wd r hr; push_cast; omega
  ·obtain rfl := List.mem_singleton.1 hr
   show (0 : Int) ≤ 0 + 1 ∧ (0 : Int) + 1 ≤ ((k + 1 : Nat) : Int)
   constructor <;> omega
 ·have := i.ln; rw [List.length_append, List.length_singleton]; omega
theorem RunInv.more {g : Nat → Bool} {y h k : Nat} {out : List Rc} (i : RunInv g y h out k) (hk : k < 16) (hg : g (y * 16 + k) = true) (h0 : 0 < k) (hp : g (y * 16 + (k - 1)) = true) :
  ∃ (o : List Rc) (r : Rc), out = o ++ [r] ∧ 0 ≤ r.w ∧ r.w ≤ k ∧ RunInv g y h (o ++ [⟨r.x, r.y, r.w + 1, r.h⟩]) (k + 1) := by
 have hne := i.ne h0 hp
 have hw := i.wd (out.getLast hne) (List.getLast_mem hne)
 have e := (List.dropLast_concat_getLast hne).symm
 refine ⟨out.dropLast, out.getLast hne, e, hw.1, hw.2, ?_, fun r hr => ?_, fun _ _ => by simp, ?_⟩
 ·rw [← i.it, iterI_go _ _ _ _ _ hk, stepI_more hg (fun hx => hx.elim (fun h1 => by omega) (fun h1 => by rw [hp] at h1; cases h1))]
  conv => rhs; rw [e]
  rw [bump_last]
 ·rcases List.mem_append.1 hr with hr | hr
  ·have := i.wd r ((List.dropLast_sublist out).subset hr); push_cast; omega
  ·obtain rfl := List.mem_singleton.1 hr
   show (0 : Int) ≤ (out.getLast hne).w + 1 ∧ (out.getLast hne).w + 1 ≤ ((k + 1 : Nat) : Int)
   constructor <;> omega
 ·have := i.ln
  have h2 := congrArg List.length e
  rw [List.length_append] at h2 ⊢
  simp only [List.length_singleton] at h2 ⊢
  omega
theorem RunInv.done {g : Nat → Bool} {y h k : Nat} {out : List Rc} (i : RunInv g y h out k) (hk : 16 ≤ k) : out = runs g y h 0 := by rw [← i.it, iterI_end _ _ _ _ _ hk]
theorem rcs_bump (o : List Rc) (r : Rc) : (rcsCells (o ++ [r])).set (o.length * 4 + 2) (.int .i64 (r.w + 1)) = rcsCells (o ++ [⟨r.x, r.y, r.w + 1, r.h⟩]) := by
 rw [rcsCells_append, rcsCells_append, rcsCells_one, rcsCells_one, List.set_append_right _ _ (by rw [rcsCells_length]; omega), rcsCells_length]
 congr 1
 rw [show o.length * 4 + 2 - o.length * 4 = 2 by omega]
 rfl
theorem rcs_last (o : List Rc) (r : Rc) : (rcsCells (o ++ [r]))[o.length * 4 + 2]? = some (.int .i64 r.w) := by
 rw [rcs_get (o ++ [r]) o.length 2 r (by simp) (by omega)]
 rfl
end Go.Proofs.Ytdgagooldlnpeaa
namespace Go.Proofs.Ytdgagooldlnpeaa
open Go.RowKit
def RunAns (g : Nat → Bool) (y h : Nat) (w : World) (e : Ending) (w' : World) : Prop :=
 ∃ v, e = .returned v ∧ w'.ownsRow w.heap.size 81 4 v (runs g y h 0).length (rcsCells (runs g y h 0)) ∧ Below w.heap.size w w'
structure RnSt (w : World) (g : Nat → Bool) (y : Nat) (v : Value) (L : List Rc) (wr : World) : Prop where
 rw : RowAt wr w.heap.size g y
 own : wr.ownsRow (w.heap.size + 1) 81 4 v L.length (rcsCells L)
 bw : Below w.heap.size w wr
theorem RnSt.grown {w wr w2 : World} {y : Nat} {g : Nat → Bool} {v v' : Value} {L L' : List Rc} (h : RnSt w g y v L wr)
  (hown : w2.ownsRow (w.heap.size + 1) 81 4 v' L'.length (rcsCells L')) (hgr : wr.grownBy w2 v.ownBlock) : RnSt w g y v' L' w2 :=
 ⟨(hgr.block _ h.rw.lt (fun e => by have := (h.own.lt _ e.symm).1; omega)).trans h.rw, hown, h.bw.grown hgr h.bw.size (fun k hk => by have := (h.own.lt k hk).1; omega)⟩
theorem RnSt.bumped {w wx : World} {y : Nat} {g : Nat → Bool} {gq cq m : Nat} {o : List Rc} {r : Rc} (hm : m = o.length) (hrow : RowAt wx w.heap.size g y) (hbw : Below w.heap.size w wx)
  (hown : wx.ownsRow (w.heap.size + 1) 81 4 (.slice (some ⟨gq, 0, none⟩) (m + 1) cq) (m + 1) (rcsCells (o ++ [r]))) :
  RnSt w g y (.slice (some ⟨gq, 0, none⟩) (m + 1) cq) (o ++ [⟨r.x, r.y, r.w + 1, r.h⟩]) (wx.setCell ⟨gq, m * 4 + 2, none⟩ (.int .i64 (r.w + 1))) := by
 subst hm
 obtain ⟨h1, h2⟩ := hown.stored (o.length * 4 + 2) (.int .i64 (r.w + 1))
 rw [rcs_bump] at h1
 have hg := (hown.lt gq rfl).1
 refine ⟨(Below.heap_setCell wx _ _ _ (by simp; omega)).trans hrow, ?_, hbw.setCell (by simp; omega) _⟩
 rw [List.length_append, List.length_singleton]
 exact h1
theorem own_last {w wx : World} {gq cq m : Nat} {o : List Rc} {r : Rc} (hm : m = o.length)
  (hown : wx.ownsRow (w.heap.size + 1) 81 4 (.slice (some ⟨gq, 0, none⟩) (m + 1) cq) (m + 1) (rcsCells (o ++ [r]))) :
  wx.cell? ⟨gq, m * 4 + 2, none⟩ = some (.int .i64 r.w) ∧ wx.frozen? ⟨gq, m * 4 + 2, none⟩ = false := by
 subst hm
 exact ⟨(hown.cellAt (o.length * 4 + 2) (by omega)).trans (rcs_last o r), hown.frozenAt _⟩
set_option maxHeartbeats 2000000 in
set_option maxRecDepth 10000 in
theorem runI (g : Nat → Bool) (y h : Nat) (w : World) : Calls Try.prog 145 #[.agg (rowCells g y), .int .i64 y, .int .i64 h] w (RunAns g y h w) := by
  obtain ⟨i0, hi, hz0, hz1, hz2⟩ := info_parts infoRect
  have hS0 : RnSt w g y (.slice none 0 0) [] (w.alloc (.cells (rowCells g y) 130)) := ⟨heap_alloc_new w _, World.ownsRow_nil _ _ _ _, (Below.refl _ _).alloc (Nat.le_refl _) _⟩
  go_enter Try.func145, Try.ntmps145
  go_wp2_with (refine wpList_load_row rfl 130 (.tmp 3) rfl w.heap.size rfl _ _ _ _ hS0.rw Try.underlying130 rfl (by rw [rowCells_size]; exact infoRow) ?_)
  go_loopg [7, 11] 16 (fun gk s7 i wr => ∃ (k : Nat) (v : Value) (L : List Rc), k ≤ 16 ∧ gk = 16 - k ∧ s7 = v ∧ i = .int .i64 k ∧ Hid (RunInv g y h L k) ∧ RnSt w g y v L wr)
  case atStart => exact ⟨0, _, [], Nat.zero_le _, rfl, rfl, rfl, Lib.hid (RunInv.start g y h), hS0⟩
  case round =>
    clear hS0
    obtain ⟨k, v, L, hk, rfl, rfl, rfl, hI, hS⟩ := hrel
    by_cases hk16 : k < 16
    · have hki : (k : Int) < 16 := by omega
      have hk0 : (0 : Int) ≤ (k : Int) := by omega
      have hix := index_row g y k hk16 wr
      obtain ⟨p, hp⟩ : ∃ p, p = g (y * 16 + k) := ⟨_, rfl⟩
      rw [← hp] at hix
      have Hp := Lib.hid hp.symm
      clear hp
      have hln := hI.out.ln
      cases p
      · go_wp2_with fail
        go_roundg (16 - (k + 1))
        case measure => omega
        case rel => exact ⟨k + 1, _, L, by omega, rfl, rfl, by go_num, Lib.hid (hI.out.no hk16 Hp.out), hS⟩
      · have hk0' := hk0
        by_cases hnew : k = 0 ∨ g (y * 16 + (k - 1)) = false
        · have hI2 : Hid (RunInv g y h (L ++ [⟨(k : Nat), y, 0 + 1, h⟩]) (k + 1)) := Lib.hid (hI.out.new hk16 Hp.out hnew)
          have Hnew := Lib.hid hnew
          clear hnew
          (by_cases hz : k = 0)
          (have hzb : ((k : Int) == 0) = true := by rw [beq_iff_eq]; omega
           clear hz)
          rotate_left
          (have hzb : ((k : Int) == 0) = false := by rw [beq_eq_false_iff_ne]; omega
           have hprev := hS.rw.cell (k - 1) (by omega)
           rw [show g (y * 16 + (k - 1)) = false from Hnew.out.resolve_left hz] at hprev
           have hk1 : (0 : Int) ≤ (k : Int) - 1 := by omega
           have hk2 : (k : Int) - 1 < 16 := by omega)
          all_goals
            go_wp2_with (at_builtin; refine wpList_append_own _ rfl _ _ 26 rfl (w.heap.size + 1) 81 i0 (.agg #[.int .i64 0, .int .i64 0, .int .i64 0, .int .i64 0]) 4 32 Try.underlying26 hi hz0 hz1 hz2 rfl (by decide) _ _ _ rfl (hS.own.alloc _) ⟨_, 0, none⟩ 1 1 _ rfl rfl (World.news_of_block (cs := #[.int .i64 k, .int .i64 y, .int .i64 0, .int .i64 h]) (fr := (0, 0)) (heap_alloc_new _ _)) (by intro u' hu'; simp at hu'; rcases hu' with rfl | rfl | rfl | rfl <;> rfl) (by unfold maxLen; omega) (by omega) (by have := hS.bw.size; have := hS.rw.lt; simp; omega) ?_)
            intro v2 w2 hown2 hgrow _
            obtain ⟨gq, cq, hvq, _, _⟩ := hown2.form (by omega)
            subst hvq
            have hrow : RowAt w2 w.heap.size g y := (hgrow.block _ (by have := hS.rw.lt; simp; omega) (fun e => by have := (hS.own.lt _ e.symm).1; omega)).trans ((Below.heap_alloc wr _ _ hS.rw.lt).trans hS.rw)
            have hbw : Below w.heap.size w w2 := (hS.bw.alloc hS.bw.size _).grown hgrow (by have := hS.bw.size; simp; omega) (fun k hk => by have := (hS.own.lt k hk).1; omega)
            have hown3 : w2.ownsRow (w.heap.size + 1) 81 4 (.slice (some ⟨gq, 0, none⟩) (L.length + 1) cq) (L.length + 1) (rcsCells (L ++ [⟨k, y, 0, h⟩])) := by rw [rcsCells_append, rcsCells_one]; exact hown2
            obtain ⟨lc, lf⟩ := own_last rfl hown3
            have HS := Lib.hid (RnSt.bumped rfl hrow hbw hown3)
            clear hown2 hown3 hgrow hrow hbw
            go_wp2_with fail
            go_roundg (16 - (k + 1))
            case measure => omega
            case rel => exact ⟨k + 1, _, L ++ [⟨(k : Nat), y, 0 + 1, h⟩], by omega, rfl, rfl, by go_num, hI2, HS.out⟩
        · have hz : ¬ k = 0 := fun e => hnew (.inl e)
          have hpt : g (y * 16 + (k - 1)) = true := by
            rcases e : g (y * 16 + (k - 1)) with _ | _
            · exact absurd (.inr e) hnew
            · rfl
          obtain ⟨o, r, ho, hr0, hr1, hI2⟩ := hI.out.more hk16 Hp.out (by omega) hpt
          have HI2 := Lib.hid hI2
          have hprev := hS.rw.cell (k - 1) (by omega)
          rw [hpt] at hprev
          have hzb : ((k : Int) == 0) = false := by rw [beq_eq_false_iff_ne]; omega
          have hk1 : (0 : Int) ≤ (k : Int) - 1 := by omega
          have hk2 : (k : Int) - 1 < 16 := by omega
          obtain ⟨m, hm⟩ : ∃ m, m = o.length := ⟨_, rfl⟩
          have hown3 := hS.own
          rw [ho, List.length_append, List.length_singleton, ← hm] at hown3
          obtain ⟨gq, cq, hvq, _, _⟩ := hown3.form (by omega)
          subst hvq
          obtain ⟨lc, lf⟩ := own_last hm hown3
          have HS := Lib.hid (RnSt.bumped hm hS.rw hS.bw hown3)
          rw [ho, List.length_append, List.length_singleton, ← hm] at hln
          obtain ⟨rw, hrw⟩ : ∃ z, z = r.w := ⟨_, rfl⟩
          rw [← hrw] at lc hr0 hr1
          have Hrw := Lib.hid hrw
          have Hm := Lib.hid hm
          clear hown3 hnew hpt hI2 hI ho hrw hm hS
          go_wp2_with fail
          go_roundg (16 - (k + 1))
          case measure => omega
          case rel => exact ⟨k + 1, _, o ++ [⟨r.x, r.y, r.w + 1, r.h⟩], by omega, rfl, rfl, by go_num, HI2, by rw [Hrw.out]; exact HS.out⟩
    · have hki : ¬ (k : Int) < 16 := by omega
      have hd := hI.out.done (by omega)
      have Hd := Lib.hid hd
      clear hd
      go_wp2_with fail
      go_ret
      have h1 := hS.own.mono (show w.heap.size ≤ w.heap.size + 1 by omega)
      rw [Hd.out] at h1
      exact ⟨_, rfl, h1, hS.bw⟩
end Go.Proofs.Ytdgagooldlnpeaa
namespace Go.Proofs.Ytdgagooldlnpeaa
open Go.RowKit
set_option maxHeartbeats 600000 in
set_option maxRecDepth 10000 in
theorem srB (b : Nat) (g : Nat → Bool) (y z : Nat) (hy : y < 16) (hz : z < 16) (c d : Nat) (w : World) (hG : GrAt w b 132 g) :
  Calls Try.prog 144 #[.slice (some ⟨b, z * 16, none⟩) 16 c, .slice (some ⟨b, y * 16, none⟩) 16 d] w fun e w' => e = .returned (.bool (rowEq g y z)) ∧ ∃ q, w' = w.drewN q := by
 have HG := Lib.hid hG
 clear hG
 go_enter Try.func144, Try.ntmps144
 go_wp2_with fail
 go_loopw [13] (fun i wr => ∃ k : Nat, k ≤ 16 ∧ i = .int .i64 k ∧ (∀ j, j < k → g (y * 16 + j) = g (z * 16 + j)) ∧ ∃ q, wr = w.drewN q) (fun i _ => 16 - (intOf i).toNat)
 case atStart => exact ⟨0, Nat.zero_le _, rfl, fun j hj => by omega, 0, rfl⟩
 case round =>
  obtain ⟨k, hk, rfl, hall, q, rfl⟩ := hrel
  have Hall := Lib.hid hall
  clear hall
  by_cases hlt : k < 16
  ·have hki : (k : Int) < 16 := by omega
   have c1 := HG.out.cell (y * 16 + k) (by omega)
   have c2 := HG.out.cell (z * 16 + k) (by omega)
   obtain ⟨p, hp⟩ : ∃ p, p = g (y * 16 + k) := ⟨_, rfl⟩
   obtain ⟨r, hr⟩ : ∃ r, r = g (z * 16 + k) := ⟨_, rfl⟩
   rw [← hp] at c1
   rw [← hr] at c2
   have b0 : (0 : Int) ≤ (k : Int) := by omega
   have Hp := Lib.hid hp
   have Hr := Lib.hid hr
   clear hp hr
   by_cases hpr : p = r
   ·subst hpr
    go_wp2_with fail
    go_quiet (fail)
    go_wp2_with fail
    rename_i nq
    go_roundw
    case rel =>
     refine ⟨k + 1, by omega, by go_num, fun j hj => ?_, _, rfl⟩
     by_cases e : j < k
     ·exact Hall.out j e
     ·obtain rfl : j = k := by omega
      rw [← Hp.out, ← Hr.out]
    case measure => simp [intOf]; omega
   ·have hb : (r == p) = false := by rw [beq_eq_false_iff_ne]; exact Ne.symm hpr
    have hne : rowEq g y z = false := by
     rcases he : rowEq g y z with _ | _
     ·rfl
     ·exact absurd ((rowEq_iff g y z).1 he k hlt) (by rw [← Hp.out, ← Hr.out]; exact hpr)
    have Hne := Lib.hid hne
    clear hne hpr
    go_wp2_with fail
    go_quiet (fail)
    go_wp2_with fail
    go_ret
    exact ⟨ret_bool Hne.out.symm, q + _, by first | rfl | exact World.drewN_drewN _ _ _⟩
  ·obtain rfl : k = 16 := by omega
   have heq : rowEq g y z = true := (rowEq_iff g y z).2 Hall.out
   have Heq := Lib.hid heq
   clear heq
   go_wp2_with fail
   go_ret
   exact ⟨ret_bool Heq.out.symm, _, rfl⟩
end Go.Proofs.Ytdgagooldlnpeaa
namespace Go.Proofs.Ytdgagooldlnpeaa
theorem run_append_none {P : Program} (w : World) (base : Nat) (t ty e : TypeId) (i : TypeInfo) (size : Nat) (ht : P.underlying t = some (.slice e)) (hi : P.info? e = some i)
  (v : Value) (n : Nat) (xs : List Value) (hown : w.ownsRow base e size v n xs) :
  (Builtin.append_ #[t, t] ty #[v, .slice none 0 0]).run P w = .ok v w := by
 rcases hown.2 with ⟨rfl, rfl⟩ | ⟨g, cap, cur, rfl, _, _, hn, _, _, _⟩
 ·simp [Builtin.append_, run_underlying ht, sizeOf, typeInfo, hi, Builtin.lenOf, Builtin.firstCells]
 ·simp [Builtin.append_, run_underlying ht, sizeOf, typeInfo, hi, Builtin.lenOf, Builtin.firstCells, loadCells, storeCells, hn]
theorem wpList_append_row {P : Program} {ops : Array Oper} {rest : List Oper} {o : Oper} {a : Act} {w : World} {Q : Exit → Act → World → Prop} (hgd : o.guard = none) (s x : Operand) (t : TypeId)
  (ho : o.op = .call { callee := .builtin .append, args := #[s, x], argTypes := #[t, t] })
  (base base' : Nat) (e : TypeId) (i : TypeInfo) (z : Value) (size bytes : Nat) (ht : P.underlying t = some (.slice e)) (hi : P.info? e = some i) (hz : i.zero = some z)
  (hsize : i.size = size) (hby : i.bytes = bytes) (hzs : z.cells.size = size) (hsz : 0 < size)
  (v : Value) (n : Nat) (xs : List Value) (hs : a.eval s = v) (hown : w.ownsRow base e size v n xs)
  (u : Value) (m : Nat) (news : List Value) (hx : a.eval x = u) (hu : w.ownsRow base' e size u m news) (h1 : ∀ u ∈ news, u.oneCell' = true)
  (h63 : n + m ≤ maxLen) (hbytes : (n + m) * bytes ≤ 140737488355328) (hbase : base ≤ w.heap.size)
  (h : ∀ v' w', w'.ownsRow base e size v' (n + m) (xs ++ news) → w.grownBy w' v.ownBlock → wpList P ops Q rest (a.put o.dst v') w') : wpList P ops Q (o :: rest) a w := by
 rcases hu.2 with ⟨rfl, rfl⟩ | ⟨g, cap, cur, rfl, _, _, hn, _, _, _⟩
 ·have hnil : news = [] := List.eq_nil_of_length_eq_zero (by have := hu.1; omega)
  subst hnil
  refine wpList_plain hgd fun K hK => ?_
  have hr := run_append_none w base t o.type e i size ht hi v n xs hown
  unfold Oper.wp execOp
  simp only [ho, resolve, invoke, builtin, Sem.run_bind, Sem.run_pure, Result.andThen_ok, List.map_toArray, List.map_cons, List.map_nil, hs, hx, hr]
  refine hK _ _ (h v w (by simpa using hown) ⟨rfl, rfl, rfl, Nat.le_refl _, fun _ _ _ => rfl⟩)
 ·exact wpList_append_own w hgd s x t ho base e i z size bytes ht hi hz hsize hby hzs hsz v n xs hs hown ⟨g, 0, none⟩ m cap news hx hu.1 (hu.cells rfl) h1 h63 hbytes hbase (fun v' w' h2 h3 _ => h v' w' h2 h3)
end Go.Proofs.Ytdgagooldlnpeaa
namespace Go.Proofs.Ytdgagooldlnpeaa
open Go.RowKit
structure CiSt (w : World) (g : Nat → Bool) (v : Value) (L : List Rc) (wr : World) : Prop where
 gr : GrAt wr w.heap.size 132 g
 rs : wr.heap[w.heap.size + 1]? = some (.cells #[.slice none 0 0] 28 (0, 0))
 own : wr.ownsRow (w.heap.size + 2) 81 4 v L.length (rcsCells L)
 bw : Below w.heap.size w wr
theorem CiSt.drewN {w wr : World} {g : Nat → Bool} {v : Value} {L : List Rc} (h : CiSt w g v L wr) (q : Nat) : CiSt w g v L (wr.drewN q) :=
 ⟨h.gr.drewN q, h.rs, own_drewN h.own q, below_drewN h.bw q⟩
theorem CiSt.size {w wr : World} {g : Nat → Bool} {v : Value} {L : List Rc} (h : CiSt w g v L wr) : w.heap.size + 1 < wr.heap.size := (Array.getElem?_eq_some_iff.1 h.rs).1
theorem CiSt.call {w wr w' : World} {g : Nat → Bool} {v : Value} {L : List Rc} (h : CiSt w g v L wr) (hb : Below wr.heap.size wr w') : CiSt w g v L w' :=
 ⟨h.gr.below hb h.gr.lt, (hb.block _ h.size).trans h.rs, own_below h.own hb (Nat.le_refl _), h.bw.trans (hb.mono h.bw.size)⟩
theorem CiSt.next {w wr w2 : World} {g : Nat → Bool} {v v' : Value} {L M : List Rc} (h : CiSt w g v L wr)
  (hown : w2.ownsRow (w.heap.size + 2) 81 4 v' (L.length + M.length) (rcsCells L ++ rcsCells M)) (hgr : wr.grownBy w2 v.ownBlock) : CiSt w g v' (L ++ M) w2 := by
 have hlow : ∀ k, k < w.heap.size + 2 → some k ≠ v.ownBlock := fun k hk e => by have := (h.own.lt k e.symm).1; omega
 refine ⟨h.gr.grown hgr (hlow _ (by omega)), (hgr.block _ h.size (hlow _ (by omega))).trans h.rs, ?_, h.bw.grown hgr h.bw.size (fun k hk => by have := (h.own.lt k hk).1; omega)⟩
 rw [List.length_append, rcsCells_append]
 exact hown
theorem runI' (g : Nat → Bool) (y h : Nat) (hi : Int) (e : hi = (h : Int)) (w : World) : Calls Try.prog 145 #[.agg (rowCells g y), .int .i64 y, .int .i64 hi] w (RunAns g y h w) := by
 subst e
 exact runI g y h w
set_option maxHeartbeats 2000000 in
set_option maxRecDepth 10000 in
theorem canI (g : Nat → Bool) (w : World) : Calls Try.prog 107 #[.agg (gCells g)] w (CanAns g w) := by
  obtain ⟨i0, hi, hz0, hz1, hz2⟩ := info_parts infoRect
  have hS0 : CiSt w g (.slice none 0 0) [] ((w.alloc (.cells (gCells g) 132)).alloc (.cells #[.slice none 0 0] 28)) :=
    ⟨(GrAt.new _ _ _).alloc _, by have := heap_alloc_new (w.alloc (.cells (gCells g) 132)) (.cells #[.slice none 0 0] 28); simpa using this,
      World.ownsRow_nil _ _ _ _, ((Below.refl _ _).alloc (Nat.le_refl _) _).alloc (by simp) _⟩
  go_enter Try.func107, Try.ntmps107
  go_wp2_with fail
  go_loopg [3, 4] 16 (fun gk s3 i wr => ∃ (y : Nat) (L : List Rc), y ≤ 16 ∧ gk = 16 - y ∧ i = .int .i64 y ∧ Hid (canon g = L ++ bands g y) ∧ CiSt w g s3 L wr)
  case atStart => exact ⟨0, [], Nat.zero_le _, rfl, rfl, Lib.hid rfl, hS0⟩
  case round =>
    clear hS0
    obtain ⟨y, L, hy, rfl, rfl, hB, hS⟩ := hrel
    by_cases hy16 : y < 16
    · have hy16i : (y : Int) < 16 := by omega
      have hy0 : (0 : Int) ≤ (y : Int) := by omega
      go_wp2_with fail
      go_loopg [5] 15 (fun g2 i2 wy => ∃ h : Nat, 1 ≤ h ∧ y + h ≤ 16 ∧ g2 = 16 - h ∧ i2 = .int .i64 ((y : Int) + (h : Int)) ∧ Hid (bandFrom g y h = bandH g y) ∧ CiSt w g u3 L wy)
      case atStart => exact ⟨1, Nat.le_refl _, by omega, by omega, by go_num, Lib.hid rfl, hS⟩
      case round =>
        clear hS
        obtain ⟨h, hh1, hh2, rfl, rfl, hH, hS⟩ := hrel
        by_cases hc : y + h < 16 ∧ rowEq g y (y + h) = true
        · have hyh := hc.1
          have hyi : (y : Int) + (h : Int) < 16 := by omega
          have hyi0 : (0 : Int) ≤ (y : Int) + (h : Int) := by omega
          have Hre := Lib.hid hc.2
          clear hc
          have hsr : ∀ q, Calls Try.prog 144 #[.slice (some ⟨w.heap.size, (y + h) * 16, none⟩) 16 16, .slice (some ⟨w.heap.size, y * 16, none⟩) 16 16] (wr.drewN q) fun e w' => e = .returned (.bool true) ∧ ∃ m, w' = (wr.drewN q).drewN m := fun q => by
            have := srB w.heap.size g y (y + h) (by omega) (by omega) 16 16 (wr.drewN q) (hS.gr.drewN q)
            rw [Hre.out] at this
            exact this
          have Hsr := Lib.hid hsr
          clear hsr
          have hba : ((y : Int) + (h : Int)).toNat = y + h := by omega
          go_wp2_with fail
          go_quiet ((go_at_call 144; refine Calls.quiet_of (Hsr.out _)))
          go_wp2_with fail
          rename_i nq
          go_roundg (16 - (h + 1))
          case measure => omega
          case rel => exact ⟨h + 1, by omega, by omega, rfl, by go_num, Lib.hid ((bandFrom_go hyh Hre.out).symm.trans hH.out), hS.drewN _⟩
        · have hbh : bandH g y = h := hH.out.symm.trans (bandFrom_stop hc)
          have hB2 : Hid (canon g = (L ++ runs g y h 0) ++ bands g (y + h)) := Lib.hid (by rw [hB.out, bands_open g y h hy16 hbh, List.append_assoc])
          have hlen : L.length + (runs g y h 0).length ≤ 256 := by have := canon_part hB2.out; rwa [List.length_append] at this
          have Hc := Lib.hid hc
          clear hc hB hH hbh
          (by_cases hyh : y + h < 16)
          (have hyi : (y : Int) + (h : Int) < 16 := by omega
           have hyi0 : (0 : Int) ≤ (y : Int) + (h : Int) := by omega
           have hre : rowEq g y (y + h) = false := by
            rcases e : rowEq g y (y + h) with _ | _
            · rfl
            · exact absurd ⟨hyh, e⟩ Hc.out
           have Hre := Lib.hid hre
           clear hre
           have hsr : ∀ q, Calls Try.prog 144 #[.slice (some ⟨w.heap.size, (y + h) * 16, none⟩) 16 16, .slice (some ⟨w.heap.size, y * 16, none⟩) 16 16] (wr.drewN q) fun e w' => e = .returned (.bool false) ∧ ∃ m, w' = (wr.drewN q).drewN m := fun q => by
            have := srB w.heap.size g y (y + h) (by omega) (by omega) 16 16 (wr.drewN q) (hS.gr.drewN q)
            rw [Hre.out] at this
            exact this
           have Hsr := Lib.hid hsr
           clear hsr
           have hba : ((y : Int) + (h : Int)).toNat = y + h := by omega
           go_wp2_with fail
           go_quiet ((go_at_call 144; refine Calls.quiet_of (Hsr.out _)))
           rename_i nq
           have hS := hS.drewN nq
           clear Hsr hba hyi0 hyi)
          · skip
            go_upto_region 7 with fail
            iterate 12 (first | (refine wp_load_gridrow (.tmp 25) rfl w.heap.size y g _ hy16 rfl hS.gr ?_) | go_step)
            go_wp2_with fail
            refine (runI' g y h ((y : Int) + (h : Int) - (y : Int)) (by omega) _).mono ?_
            rintro e w2 ⟨vr, rfl, hownr, hbr⟩
            have hS := hS.call hbr
            go_wp2_with (at_builtin; refine wpList_append_row rfl _ _ 26 rfl (w.heap.size + 2) _ 81 i0 (.agg #[.int .i64 0, .int .i64 0, .int .i64 0, .int .i64 0]) 4 32 Try.underlying26 hi hz0 hz1 hz2 rfl (by decide) _ _ _ rfl hS.own _ _ _ rfl hownr (rcs_one _) (by unfold maxLen; omega) (by omega) (by have := hS.size; omega) ?_)
            intro v2 w3 hown3 hgrow
            have hS := hS.next hown3 hgrow
            clear hown3 hgrow hownr hbr
            go_wp2_with fail
            go_roundg (16 - (y + h))
            case measure => omega
            case rel => exact ⟨y + h, L ++ runs g y h 0, by omega, rfl, by go_num, hB2, hS⟩
          · skip
            (have hyi : ¬ (y : Int) + (h : Int) < 16 := by omega
             go_wp2_with fail
             have hyd : ((y : Int) + (h : Int) < 16) = False := by apply eq_false; omega
             go_quiet (fail)
             rename_i nq
             have hS := hS.drewN nq
             clear hyi hyd)
            go_upto_region 7 with fail
            iterate 12 (first | (refine wp_load_gridrow (.tmp 25) rfl w.heap.size y g _ hy16 rfl hS.gr ?_) | go_step)
            go_wp2_with fail
            refine (runI' g y h ((y : Int) + (h : Int) - (y : Int)) (by omega) _).mono ?_
            rintro e w2 ⟨vr, rfl, hownr, hbr⟩
            have hS := hS.call hbr
            go_wp2_with (at_builtin; refine wpList_append_row rfl _ _ 26 rfl (w.heap.size + 2) _ 81 i0 (.agg #[.int .i64 0, .int .i64 0, .int .i64 0, .int .i64 0]) 4 32 Try.underlying26 hi hz0 hz1 hz2 rfl (by decide) _ _ _ rfl hS.own _ _ _ rfl hownr (rcs_one _) (by unfold maxLen; omega) (by omega) (by have := hS.size; omega) ?_)
            intro v2 w3 hown3 hgrow
            have hS := hS.next hown3 hgrow
            clear hown3 hgrow hownr hbr
            go_wp2_with fail
            go_roundg (16 - (y + h))
            case measure => omega
            case rel => exact ⟨y + h, L ++ runs g y h 0, by omega, rfl, by go_num, hB2, hS⟩
    · have hy16i : ¬ (y : Int) < 16 := by omega
      have hB2 : L = canon g := by rw [hB.out, bands_end g y (by omega), List.append_nil]
      obtain ⟨A, cv, hv⟩ := (RdR.of_own hS.own).form
      subst hv
      have rc : wr.cell? ⟨w.heap.size + 1, 0, none⟩ = some (.slice none 0 0) := by have := hS.rs; simp [World.cell?, this]
      have rf : wr.frozen? ⟨w.heap.size + 1, 0, none⟩ = false := by have := hS.rs; simp [World.frozen?, this]
      have hsz := hS.size
      have HB2 := Lib.hid hB2
      clear hB2
      go_wp2_with fail
      exact bodyPost_ret (v := .agg #[.slice A L.length cv]) (by simp [results, Try.results107, go_sem, rc]) rfl ⟨_, rfl, by
        have h1 := (hS.own.mono (show w.heap.size ≤ w.heap.size + 2 by omega)).kept (row := some (w.heap.size + 1)) (grown_setc wr _ 0 (.slice A L.length cv)) (by
          by_cases hv : (Value.slice A L.length cv).ownBlock = none
          · exact .inl hv
          · refine .inr fun e => ?_
            have := (hS.own.lt _ e).1
            omega)
        rw [← HB2.out]
        exact h1, hS.bw.setCell (by simp) _⟩
end Go.Proofs.Ytdgagooldlnpeaa
namespace Go.Proofs.Ytdgagooldlnpeaa
open Go.RowKit
def RofAns (L : List Rc) (w : World) (e : Ending) (w' : World) : Prop :=
 ∃ v, e = .returned (.agg #[v]) ∧ w'.ownsRow w.heap.size 81 4 v (canon (gridOf L)).length (rcsCells (canon (gridOf L))) ∧ Below w.heap.size w w'
theorem rg_cell {w w' : World} {o : Obj} (h : Below (w.alloc o).heap.size (w.alloc o) w') {v : Value} (ho : o = .cells #[v] 28) : w'.heap[w.heap.size]? = some (.cells #[v] 28 (0, 0)) := by
 subst ho
 exact (h.block _ (by simp)).trans (heap_alloc_new w _)
theorem own_shape {w : World} {B n : Nat} {e : TypeId} {v : Value} {xs : List Value} (h : w.ownsRow B e 4 v n xs) : ∃ A c, v = .slice A n c := by
 rcases h.2 with ⟨rfl, rfl⟩ | ⟨g, cap, cur, rfl, _⟩
 ·exact ⟨none, 0, rfl⟩
 ·exact ⟨_, _, rfl⟩
theorem own_set {w : World} {B B' n g : Nat} {e : TypeId} {v : Value} {xs : List Value} (h : w.ownsRow B' e 4 v n xs) (hB : B ≤ B') (hg : g < B') (u : Value) : (w.setCell ⟨g, 0, none⟩ u).ownsRow B e 4 v n xs :=
 (h.mono hB).kept (row := some g) (grown_setc w _ 0 u) (by
  by_cases hv : v.ownBlock = none
  ·exact .inl hv
  ·refine .inr fun e => ?_
   have := (h.lt _ e).1
   omega)
set_option maxHeartbeats 1000000 in
set_option maxRecDepth 10000 in
theorem rofS (v : Value) (L : List Rc) (w : World) (h : RdR w v L) : Calls Try.prog 52 #[v] w (RofAns L w) := by
 have h1 := h.alloc (.cells #[.slice none 0 0] 28)
 have H := Lib.hid h1
 clear h h1
 go_enter Try.func52, Try.ntmps52
 go_wp2_with fail
 refine (gridS v L _ H.out).mono ?_
 rintro e w1 ⟨b, rfl, hb0, hG, hb1⟩
 go_wp2_with fail
 refine (canS b (gridOf L) _ hG).mono ?_
 rintro e w2 ⟨u, rfl, hown, hb2⟩
 have hz := hb1.size
 have hh := rg_cell (hb1.trans (hb2.mono hb1.size)) rfl
 have hw := ((Below.refl w.heap.size w).alloc (Nat.le_refl _) (.cells #[.slice none 0 0] 28)).trans ((hb1.trans (hb2.mono hb1.size)).mono (by simp))
 obtain ⟨A, c, hu⟩ := own_shape hown
 subst hu
 have rc : w2.cell? ⟨w.heap.size, 0, none⟩ = some (.slice none 0 0) := by simp [World.cell?, hh]
 have rf : w2.frozen? ⟨w.heap.size, 0, none⟩ = false := by simp [World.frozen?, hh]
 have Hown := Lib.hid hown
 simp at hz
 clear hown hb1 hb2 hG hb0 hh
 go_wp2_with fail
 exact bodyPost_ret (v := .agg #[.slice A (canon (gridOf L)).length c]) (by simp [results, Try.results52, go_sem, rc]) rfl ⟨_, rfl, own_set Hown.out (by omega) (by omega) _, hw.setCell (by simp) _⟩
set_option maxHeartbeats 1000000 in
set_option maxRecDepth 10000 in
theorem rofI (v : Value) (L : List Rc) (w : World) (h : RdR w v L) : Calls Try.prog 56 #[v] w (RofAns L w) := by
 have h1 := h.alloc (.cells #[.slice none 0 0] 28)
 have H := Lib.hid h1
 clear h h1
 go_enter Try.func56, Try.ntmps56
 go_wp2_with fail
 refine (gridI v L _ H.out).mono ?_
 rintro e w1 ⟨rfl, hb1⟩
 go_wp2_with fail
 refine (canI (gridOf L) _).mono ?_
 rintro e w2 ⟨u, rfl, hown, hb2⟩
 have hz := hb1.size
 have hh := rg_cell (hb1.trans (hb2.mono hb1.size)) rfl
 have hw := ((Below.refl w.heap.size w).alloc (Nat.le_refl _) (.cells #[.slice none 0 0] 28)).trans ((hb1.trans (hb2.mono hb1.size)).mono (by simp))
 obtain ⟨A, c, hu⟩ := own_shape hown
 subst hu
 have rc : w2.cell? ⟨w.heap.size, 0, none⟩ = some (.slice none 0 0) := by simp [World.cell?, hh]
 have rf : w2.frozen? ⟨w.heap.size, 0, none⟩ = false := by simp [World.frozen?, hh]
 have Hown := Lib.hid hown
 simp at hz
 clear hown hb1 hb2 hh
 go_wp2_with fail
 exact bodyPost_ret (v := .agg #[.slice A (canon (gridOf L)).length c]) (by simp [results, Try.results56, go_sem, rc]) rfl ⟨_, rfl, own_set Hown.out (by omega) (by omega) _, hw.setCell (by simp) _⟩
end Go.Proofs.Ytdgagooldlnpeaa
namespace Go.Proofs.Ytdgagooldlnpeaa
open Go.RowKit
set_option maxHeartbeats 1000000 in
set_option maxRecDepth 10000 in
theorem heldRS (v : Value) (k0 n : Nat) (w : World) (hm : k0 + n ≤ 1000000000) (hrd : RdR w v (marksL k0 n)) :
  Calls Try.prog 63 #[v, .int .i64 k0] w fun ed w' => ed = .returned (.int .i64 ((k0 + 4 * n : Nat) : Int)) ∧ w' = w := by
 obtain ⟨A, c, rfl⟩ := hrd.form
 rw [marksL_length] at hrd ⊢
 have Hrd := Lib.hid hrd
 clear hrd
 go_enter Try.func63, Try.ntmps63
 go_wp2_with fail
 go_loopw [1, 5] (fun s1 i wr => ∃ (k : Nat) (t : Int), k ≤ n ∧ i = .int .i64 k ∧ s1 = .int .i64 t ∧ Hid (t = ((k0 + 4 * k : Nat) : Int)) ∧ wr = w) (fun _ i _ => n - (intOf i).toNat)
 case atStart => exact ⟨0, k0, Nat.zero_le _, rfl, rfl, Lib.hid (by simp), rfl⟩
 case round =>
  obtain ⟨k, t, hk, rfl, rfl, Ht, rfl⟩ := hrel
  have ht0 : 0 ≤ t := by have := Ht.out; omega
  have ht1 : t ≤ 5000000000 := by have := Ht.out; omega
  by_cases hlt : k < n
  ·obtain ⟨gq, r, rfl, hr, hC⟩ := Hrd.out.at_ (k := k) (by rw [marksL_length]; exact hlt)
   rw [marksL_get k0 n k hlt] at hr
   injection hr with hr
   have e0 : r.x = t := by rw [← hr, Ht.out]
   have e1 : r.y = t + 1 := by rw [← hr]; have := Ht.out; dsimp only; omega
   have e2 : r.w = t + 2 := by rw [← hr]; have := Ht.out; dsimp only; omega
   have e3 : r.h = t + 3 := by rw [← hr]; have := Ht.out; dsimp only; omega
   obtain ⟨c0, c1, c2, c3⟩ := hC.cells
   rw [e0] at c0
   rw [e1] at c1
   rw [e2] at c2
   rw [e3] at c3
   have k0' : (0 : Int) ≤ (k : Int) := by omega
   have k1' : (k : Int) < (n : Int) := by omega
   clear hr e0 e1 e2 e3 hC
   go_wp2_with fail
   go_roundw
   case rel => exact ⟨k + 1, _, by omega, by go_num, rfl, Lib.hid (by have := Ht.out; omega), by first | rfl | trivial⟩
   case measure => simp [intOf]; omega
  ·obtain rfl : k = n := by omega
   go_wp2_with fail
   go_ret
   exact ⟨ret_int Ht.out, rfl⟩
theorem markRg (B : Nat) (v : Value) (L : List Rc) (k0 : Nat) (w : World) (hm : k0 + L.length ≤ 1000000000) (hown : w.ownsRow B 81 4 v L.length (rcsCells L)) :
  Calls Try.prog 16 #[.agg #[v], .int .i64 k0] w fun ed w' => ed = .returned (.int .i64 ((k0 + 4 * L.length : Nat) : Int)) ∧ w'.ownsRow B 81 4 v L.length (rcsCells (marksL k0 L.length)) ∧ w.grownBy w' v.ownBlock := by
 have hown2 := hown.alloc (.cells #[v] 28)
 have hg := World.grownBy_alloc w (.cells #[v] 28) v.ownBlock
 have hc : (w.alloc (.cells #[v] 28)).cell? ⟨w.heap.size, 0, none⟩ = some v := new_cell w v _
 clear hown
 go_enter Try.func16, Try.ntmps16
 go_wp2_with fail
 refine (markRS B _ v L k0 _ hm hown2).mono ?_
 rintro e w1 ⟨rfl, h1, h2⟩
 have H1 := Lib.hid h1
 have H2 := Lib.hid (hg.trans h2)
 clear h1 h2 hg hown2
 go_wp2_with fail
 go_ret
 exact ⟨rfl, H1.out, H2.out⟩
theorem heldRg (v : Value) (k0 n : Nat) (w : World) (hm : k0 + n ≤ 1000000000) (hrd : RdR w v (marksL k0 n)) :
  Calls Try.prog 17 #[.agg #[v], .int .i64 k0] w fun ed w' => ed = .returned (.int .i64 ((k0 + 4 * n : Nat) : Int)) ∧ Below w.heap.size w w' := by
 have h2 := hrd.alloc (.cells #[v] 28)
 clear hrd
 have c1 : ¬ ((k0 + 4 * n : Nat) : Int) < 0 := by omega
 go_enter Try.func17, Try.ntmps17
 go_wp2_with fail
 refine (heldRS v k0 n _ hm h2).mono ?_
 rintro e w1 ⟨rfl, rfl⟩
 clear h2
 go_wp2_with fail
 go_ret
 exact ⟨rfl, (Below.refl _ _).alloc (Nat.le_refl _) _⟩
theorem eqRg_same (v u : Value) (L : List Rc) (w : World) (hv : RdR w v L) (hu : RdR w u L) :
  Calls Try.prog 13 #[.agg #[v], .agg #[u]] w fun e w' => e = .returned (.bool true) ∧ Below w.heap.size w w' := by
 have hv2 := (hv.alloc (.cells #[v] 28)).alloc (.cells #[u] 28)
 have hu2 := (hu.alloc (.cells #[v] 28)).alloc (.cells #[u] 28)
 have hw := ((Below.refl w.heap.size w).alloc (Nat.le_refl _) (.cells #[v] 28)).alloc (by simp) (.cells #[u] 28)
 clear hv hu
 go_enter Try.func13, Try.ntmps13
 go_wp2_with fail
 refine (eqRectS_same v u L _ hv2 hu2).mono ?_
 rintro e w1 ⟨rfl, hb⟩
 have Hw := Lib.hid (hw.trans (hb.mono hw.size))
 clear hv2 hu2 hw hb
 go_wp2_with fail
 go_ret
 exact ⟨rfl, Hw.out⟩
end Go.Proofs.Ytdgagooldlnpeaa
namespace Go.Proofs.Ytdgagooldlnpeaa
open Go.RowKit
theorem enterM (args : Array Value) (w : World) : (callFunc 165 args).run Try.prog w = .ok (.enter 165 args) w := by simp [go_sem]
theorem enterQ (args : Array Value) (w : World) : (callFunc 163 args).run Try.prog w = .ok (.enter 163 args) w := by simp [go_sem]
theorem repM (p : Pp) (o : Int) (ho : orOk o) (hp : p.ok) (w : World) : Calls Try.prog 162 #[.func (.func 165) #[] #[], .int .i64 (o / 4), .agg #[.int .i64 p.w, .int .i64 p.h, .int .i64 p.x, .int .i64 p.y]] w (PpAns (Pp.rep Pp.mir (o / 4).toNat p) w) := by
 obtain ⟨h1, h2⟩ := ho
 have h := repOI 165 Pp.mir enterM (fun p W h => mir_any p h W) (fun _ => Pp.mir_ok) (o / 4).toNat (by omega) p hp w
 rw [show (((o / 4).toNat : Nat) : Int) = o / 4 by omega] at h
 exact h
theorem repQ (p : Pp) (o : Int) (ho : orOk o) (hp : p.ok) (w : World) : Calls Try.prog 162 #[.func (.func 163) #[] #[], .int .i64 (o % 4), .agg #[.int .i64 p.w, .int .i64 p.h, .int .i64 p.x, .int .i64 p.y]] w (PpAns (Pp.rep Pp.qt (o % 4).toNat p) w) := by
 obtain ⟨h1, h2⟩ := ho
 have h := repOI 163 Pp.qt enterQ (fun p W h => qt_any p h W) (fun _ => Pp.qt_ok) (o % 4).toNat (by omega) p hp w
 rw [show (((o % 4).toNat : Nat) : Int) = o % 4 by omega] at h
 exact h
structure OpSt (w : World) (p : Pp) (W : World) : Prop where
 pt : BkAt W w.heap.size 163 #[.int .i64 p.w, .int .i64 p.h, .int .i64 p.x, .int .i64 p.y]
 bw : Below w.heap.size w W
theorem OpSt.drew {w : World} {p : Pp} {W : World} (h : OpSt w p W) : OpSt w p W.drew := ⟨h.pt, h.bw.drew⟩
theorem OpSt.call {w : World} {p : Pp} {W W' : World} (h : OpSt w p W) (hb : Below W.heap.size W W') : OpSt w p W' := ⟨h.pt.call hb, h.bw.trans (hb.mono h.bw.size)⟩
theorem OpSt.set {w : World} {p : Pp} {W W' : World} (h : OpSt w p W) (hg : W.grownBy W' (some (w.heap.size + 1))) : OpSt w p W' :=
 ⟨h.pt.grown hg (fun e => by injection e with e; omega), h.bw.grown hg h.bw.size (fun k hk => by injection hk with hk; omega)⟩
set_option maxHeartbeats 600000 in
set_option maxRecDepth 10000 in
theorem orPt_any (p : Pp) (o : Int) (ho : orOk o) (hp : p.ok) (w : World) : Calls Try.prog 139 #[.agg #[.int .i64 p.w, .int .i64 p.h, .int .i64 p.x, .int .i64 p.y], .int .i64 o] w (PpAns (Pp.ori o p) w) := by
 have hT : OpSt w p ((w.alloc (.cells #[.int .i64 p.w, .int .i64 p.h, .int .i64 p.x, .int .i64 p.y] 163)).alloc (.cells #[.int .i64 0, .int .i64 0, .int .i64 0, .int .i64 0] 163)) :=
  ⟨(BkAt.new _ _ _).alloc _, ((Below.refl _ _).alloc (Nat.le_refl _) _).alloc (by simp) _⟩
 have hR : BkAt ((w.alloc (.cells #[.int .i64 p.w, .int .i64 p.h, .int .i64 p.x, .int .i64 p.y] 163)).alloc (.cells #[.int .i64 0, .int .i64 0, .int .i64 0, .int .i64 0] 163)) (w.heap.size + 1) 163 #[.int .i64 0, .int .i64 0, .int .i64 0, .int .i64 0] := BkAt.newAt (by simp) _ _
 have hq : (Pp.rep Pp.mir (o / 4).toNat p).ok := Pp.rep_ok (fun _ => Pp.mir_ok) _ hp
 have Hq := Lib.hid hq
 have Ho := Lib.hid ho
 have Hp := Lib.hid hp
 clear hq ho hp
 go_enter Try.func139, Try.ntmps139
 go_upto_region 1 with fail
 refine wp_region_held_drew (S := fun V => OpSt w p V) (by kernel_rfl) hT.drew (fun hS => ?_)
 replace hR := hR.drew
 refine tcH (i := 0) (v := .int .i64 o) rfl (by intro w' hSw; (try dsimp only at hSw); (obtain ⟨c0, c1, c2, c3⟩ := hSw.pt.cells4); go_simp) ?_
 refine tcH (i := 2) (v := .int .i64 o) rfl (by intro w' hSw; (try dsimp only at hSw); (obtain ⟨c0, c1, c2, c3⟩ := hSw.pt.cells4); go_simp) ?_
 refine tcH (i := 4) (v := .agg #[.int .i64 p.w, .int .i64 p.h, .int .i64 p.x, .int .i64 p.y]) rfl (by intro w' hSw; (try dsimp only at hSw); (obtain ⟨c0, c1, c2, c3⟩ := hSw.pt.cells4); go_simp) ?_
 (try simp only [Act.put]); (try simp only [zPa]); (try simp only [zPb, zPc])
 refine wpAnyH_ready (rs := [1]) (by kernel_rfl) (by simp) ?_
 refine (AllReadyH.cons rfl (fun K hK => ?_) AllReadyH.nil)
 ·rw [if_pos (by kernel_rfl)]
  (try simp only [zGa]); (try simp only [zGb]); (try simp only [zGc])
  go_simp
  with_reducible refine (turns_any o Ho.out _).mono ?_
  rintro e W' ⟨rfl, rfl⟩
  dsimp only
  skip
  refine hK.out _ _ (hS) (fun hS => ?_)
  clear hK
  (try simp only [Act.put]); (try simp only [zPa]); (try simp only [zPb, zPc])
  refine wpAnyH_ready (rs := [3]) (by kernel_rfl) (by simp) ?_
  refine (AllReadyH.cons rfl (fun K hK => ?_) AllReadyH.nil)
  ·rw [if_pos (by kernel_rfl)]
   (try simp only [zGa]); (try simp only [zGb]); (try simp only [zGc])
   go_simp
   with_reducible refine (mirrors_any o Ho.out _).mono ?_
   rintro e W' ⟨rfl, rfl⟩
   dsimp only
   skip
   refine hK.out _ _ (hS) (fun hS => ?_)
   clear hK
   (try simp only [Act.put]); (try simp only [zPa]); (try simp only [zPb, zPc])
   refine wpAnyH_ready (rs := [5]) (by kernel_rfl) (by simp) ?_
   refine (AllReadyH.cons rfl (fun K hK => ?_) AllReadyH.nil)
   ·rw [if_pos (by kernel_rfl)]
    (try simp only [zGa]); (try simp only [zGb]); (try simp only [zGc])
    go_simp
    with_reducible refine (repM p o Ho.out Hp.out _).mono ?_
    rintro e W' ⟨rfl, hb⟩
    dsimp only
    have hR := hR.call hb
    refine hK.out _ _ (hS.call hb) (fun hS => ?_)
    clear hK
    (try simp only [Act.put]); (try simp only [zPa]); (try simp only [zPb, zPc])
    refine wpAnyH_ready (rs := [6]) (by kernel_rfl) (by simp) ?_
    refine (AllReadyH.cons rfl (fun K hK => ?_) AllReadyH.nil)
    ·rw [if_pos (by kernel_rfl)]
     (try simp only [zGa]); (try simp only [zGb]); (try simp only [zGc])
     go_simp
     with_reducible refine (repQ (Pp.rep Pp.mir (o / 4).toNat p) o Ho.out Hq.out _).mono ?_
     rintro e W' ⟨rfl, hb⟩
     dsimp only
     have hR := hR.call hb
     refine hK.out _ _ (hS.call hb) (fun hS => ?_)
     clear hK
     (try simp only [Act.put]); (try simp only [zPa]); (try simp only [zPb, zPc])
     refine wpAnyH_ready (rs := [7]) (by kernel_rfl) (by simp) ?_
     refine (AllReadyH.cons rfl (fun K hK => ?_) AllReadyH.nil)
     ·rw [if_pos (by kernel_rfl)]
      (try simp only [zGa]); (try simp only [zGb]); (try simp only [zGc])
      refine wp_store_bk 163 (.tmp 4) (.tmp 11) rfl (w.heap.size + 1) 163 _ #[.int .i64 (Pp.ori o p).w, .int .i64 (Pp.ori o p).h, .int .i64 (Pp.ori o p).x, .int .i64 (Pp.ori o p).y] (by kernel_rfl) (by rfl) (by simp [Value.oneCell']) rfl (by first | with_reducible rfl | (go_simp; done) | rfl) hR ?_
      intro W3 IB hgB
      skip
      refine hK.out _ _ (hS.set hgB) (fun hS => ?_)
      clear hK
      (try simp only [Act.put]); (try simp only [zPa]); (try simp only [zPb, zPc])
      refine wpAnyH_done (by kernel_rfl) ?_ _
      obtain ⟨z0, z1, z2, z3⟩ := IB.cells4
      go_wp2_with fail
      exact bodyPost_ret (v := .agg #[.int .i64 (Pp.ori o p).w, .int .i64 (Pp.ori o p).h, .int .i64 (Pp.ori o p).x, .int .i64 (Pp.ori o p).y]) (by simp [results, Try.results139, go_sem, z0, z1, z2, z3]) rfl ⟨rfl, hS.bw⟩
end Go.Proofs.Ytdgagooldlnpeaa
namespace Go.Proofs.Ytdgagooldlnpeaa
open Go.RowKit
open Classical in
noncomputable def osM (w h o : Int) : Int × Int := if szOk w h ∧ orOk o then (orW w h o, orH w h o) else (0, 0)
theorem os_yes {w h o : Int} (h1 : szOk w h) (h2 : orOk o) : osM w h o = (orW w h o, orH w h o) := if_pos ⟨h1, h2⟩
theorem os_no {w h o : Int} (h0 : ¬ (szOk w h ∧ orOk o)) : osM w h o = (0, 0) := if_neg h0
def TwoAns (p : Int × Int) (w : World) (e : Ending) (w' : World) : Prop := e = .returned (.tuple #[.int .i64 p.1, .int .i64 p.2]) ∧ Below w.heap.size w w'
theorem ret_two {a b : Int} {p : Int × Int} (h : p = (a, b)) : Ending.returned (.tuple #[.int .i64 a, .int .i64 b]) = .returned (.tuple #[.int .i64 p.1, .int .i64 p.2]) := by rw [h]
set_option maxHeartbeats 600000 in
theorem osI (a b o : Int) (w : World) : Calls Try.prog 136 #[.int .i64 a, .int .i64 b, .int .i64 o] w (TwoAns (osM a b o) w) := by
 by_cases hs : szOk a b
 ·by_cases ho : orOk o
  ·have HA := Lib.hid (os_yes hs ho)
   have Hs := Lib.hid hs
   have Ho := Lib.hid ho
   have hp : (⟨a, b, 0, 0⟩ : Pp).ok := by unfold szOk at hs; unfold Pp.ok; dsimp only; omega
   have Hp := Lib.hid hp
   have R := fun W => orPt_any ⟨a, b, 0, 0⟩ o ho hp W
   have e1 := ori_w ho ⟨a, b, 0, 0⟩
   have e2 := ori_h ho ⟨a, b, 0, 0⟩
   dsimp only at R e1 e2
   unfold PpAns at R
   rw [e1, e2] at R
   have HR := Lib.hid R
   clear hs ho hp R e1 e2
   go_enter Try.func136, Try.ntmps136
   go_wp2_with fail
   refine (szI_yes _ _ Hs.out _).mono ?_
   rintro e w' ⟨rfl, rfl⟩
   go_wp2_with fail
   refine (isOrI_yes _ Ho.out _).mono ?_
   rintro e w' ⟨rfl, rfl⟩
   go_wp2_with fail
   refine (HR.out _).mono ?_
   rintro e w2 ⟨rfl, hb⟩
   have Hb := Lib.hid hb
   clear hb
   go_wp2_with fail
   go_quiet (fail)
   go_wp2_with fail
   go_ret2
   exact ⟨ret_two HA.out, below_drewN (Hb.out.alloc Hb.out.size _) _⟩
  ·have HA := Lib.hid (os_no (w := a) (h := b) fun h => ho h.2)
   have Hs := Lib.hid hs
   have Ho := Lib.hid ho
   clear hs ho
   go_enter Try.func136, Try.ntmps136
   go_wp2_with fail
   refine (szI_yes _ _ Hs.out _).mono ?_
   rintro e w' ⟨rfl, rfl⟩
   go_wp2_with fail
   refine (isOrI_no _ Ho.out _).mono ?_
   rintro e w' ⟨rfl, rfl⟩
   go_wp2_with fail
   go_ret2
   exact ⟨ret_two HA.out, Below.refl _ _⟩
 ·have HA := Lib.hid (os_no (o := o) fun h => hs h.1)
  have Hs := Lib.hid hs
  clear hs
  go_enter Try.func136, Try.ntmps136
  go_wp2_with fail
  refine (szI_no _ _ Hs.out _).mono ?_
  rintro e w' ⟨rfl, rfl⟩
  go_wp2_with fail
  go_ret2
  exact ⟨ret_two HA.out, Below.refl _ _⟩
set_option maxHeartbeats 600000 in
theorem osS (a b o : Int) (w : World) : Calls Try.prog 105 #[.int .i64 a, .int .i64 b, .int .i64 o] w (TwoAns (osM a b o) w) := by
 by_cases ha : 1 ≤ a ∧ a ≤ 16
 ·obtain ⟨a1, a2⟩ := ha
  by_cases hb : 1 ≤ b ∧ b ≤ 16
  ·obtain ⟨b1, b2⟩ := hb
   by_cases ho : 0 ≤ o ∧ o ≤ 7
   ·obtain ⟨o1, o2⟩ := ho
    have HA := Lib.hid (os_yes (w := a) (h := b) (o := o) ⟨a1, a2, b1, b2⟩ ⟨o1, o2⟩)
    by_cases hq : o % 2 = 1
    ·have HE := Lib.hid (show osM a b o = (b, a) by rw [HA.out]; unfold orW orH; rw [if_pos hq, if_pos hq])
     go_enter Try.func105, Try.ntmps105
     go_wp2_with ((go_at_call 70; (with_reducible refine (inS_yes _ _ _ _ (by omega) (by omega)).mono ?_); rintro e w' ⟨rfl, rfl⟩))
     go_ret2
     exact ⟨ret_two HE.out, Below.refl _ _⟩
    ·have HE := Lib.hid (show osM a b o = (a, b) by rw [HA.out]; unfold orW orH; rw [if_neg hq, if_neg hq])
     go_enter Try.func105, Try.ntmps105
     go_wp2_with ((go_at_call 70; (with_reducible refine (inS_yes _ _ _ _ (by omega) (by omega)).mono ?_); rintro e w' ⟨rfl, rfl⟩))
     go_ret2
     exact ⟨ret_two HE.out, Below.refl _ _⟩
   ·have HA := Lib.hid (os_no (w := a) (h := b) (o := o) fun h => ho h.2)
    have h7 : o < 0 ∨ 7 < o := by omega
    have H7 := Lib.hid h7
    clear h7 ho
    go_enter Try.func105, Try.ntmps105
    go_wp2_with (first | (go_at_call 70; (with_reducible refine (inS_yes _ _ _ _ (by omega) (by omega)).mono ?_); rintro e w' ⟨rfl, rfl⟩) | (go_at_call 70; (with_reducible refine (inS_no _ _ _ _ H7.out).mono ?_); rintro e w' ⟨rfl, rfl⟩))
    go_ret2
    exact ⟨ret_two HA.out, Below.refl _ _⟩
  ·have HA := Lib.hid (os_no (w := a) (h := b) (o := o) fun h => hb ⟨h.1.2.2.1, h.1.2.2.2⟩)
   have h7 : b < 1 ∨ 16 < b := by omega
   have H7 := Lib.hid h7
   clear h7 hb
   go_enter Try.func105, Try.ntmps105
   go_wp2_with (first | (go_at_call 70; (with_reducible refine (inS_yes _ _ _ _ (by omega) (by omega)).mono ?_); rintro e w' ⟨rfl, rfl⟩) | (go_at_call 70; (with_reducible refine (inS_no _ _ _ _ H7.out).mono ?_); rintro e w' ⟨rfl, rfl⟩))
   go_ret2
   exact ⟨ret_two HA.out, Below.refl _ _⟩
 ·have HA := Lib.hid (os_no (w := a) (h := b) (o := o) fun h => ha ⟨h.1.1, h.1.2.1⟩)
  have h7 : a < 1 ∨ 16 < a := by omega
  have H7 := Lib.hid h7
  clear h7 ha
  go_enter Try.func105, Try.ntmps105
  go_wp2_with (first | (go_at_call 70; (with_reducible refine (inS_no _ _ _ _ H7.out).mono ?_); rintro e w' ⟨rfl, rfl⟩))
  go_ret2
  exact ⟨ret_two HA.out, Below.refl _ _⟩
end Go.Proofs.Ytdgagooldlnpeaa
namespace Go.Proofs.Ytdgagooldlnpeaa
open Go.RowKit
def sclN (f t k : Nat) : Nat := k * f / t
theorem sclN_lt {f t k : Nat} (h1 : 1 ≤ f) (h2 : k < t) : sclN f t k < f := by
 unfold sclN
 exact Nat.div_lt_of_lt_mul (Nat.mul_lt_mul_of_pos_right h2 h1)
end Go.Proofs.Ytdgagooldlnpeaa
namespace Go.Proofs.Ytdgagooldlnpeaa
open Go.RowKit
theorem IsRow.lt {k : IntKind} {w : World} {a : Option Addr} {len cap : Nat} {zs : List Int} (h : IsRow k w a len cap zs) : ∀ x, a = some x → 0 < cap → x.block < w.heap.size := by
 rintro x rfl hl
 rcases h with ⟨h, _⟩ | ⟨y, hy, h1, h2, h3, h4, h5⟩
 ·cases h
 ·cases hy
  have := World.block_lt_of_cell? w _ (h4 0 (by omega))
  have e2 : (x.add 0).block = x.block := by unfold Addr.add; split <;> rfl
  rw [e2] at this
  exact this
end Go.Proofs.Ytdgagooldlnpeaa
namespace Go.Proofs.Ytdgagooldlnpeaa
open Go.RowKit
theorem RcAt.grown {w w' : World} {g : Nat} {row : Option Nat} {r : Rc} (h : RcAt w g r) (hb : w.grownBy w' row) (hg : some g ≠ row) : RcAt w' g r := (hb.block g h.lt hg).trans h
end Go.Proofs.Ytdgagooldlnpeaa
namespace Go.Proofs.Ytdgagooldlnpeaa
open Go.RowKit
theorem GrAt.call {w w' : World} {b : Nat} {t : TypeId} {g : Nat → Bool} (h : GrAt w b t g) (hb : Below w.heap.size w w') : GrAt w' b t g := h.below hb h.lt
end Go.Proofs.Ytdgagooldlnpeaa
namespace Go.Proofs.Ytdgagooldlnpeaa
open Go.RowKit
theorem RcAt.call {w w' : World} {g : Nat} {r : Rc} (h : RcAt w g r) (hb : Below w.heap.size w w') : RcAt w' g r := h.below hb h.lt
end Go.Proofs.Ytdgagooldlnpeaa
namespace Go.Proofs.Ytdgagooldlnpeaa
open Go.RowKit
theorem wp_append_row {P : Program} {o : Oper} {a : Act} {w : World} {K : Act → World → Prop} {Q : Exit → Act → World → Prop} (s x : Operand) (t : TypeId)
  (ho : o.op = .call { callee := .builtin .append, args := #[s, x], argTypes := #[t, t] })
  (base base' : Nat) (e : TypeId) (i : TypeInfo) (z : Value) (size bytes : Nat) (ht : P.underlying t = some (.slice e)) (hi : P.info? e = some i) (hz : i.zero = some z)
  (hsize : i.size = size) (hby : i.bytes = bytes) (hzs : z.cells.size = size) (hsz : 0 < size)
  (v : Value) (n : Nat) (xs : List Value) (hs : a.eval s = v) (hown : w.ownsRow base e size v n xs)
  (u : Value) (m : Nat) (news : List Value) (hx : a.eval x = u) (hu : w.ownsRow base' e size u m news) (h1 : ∀ u ∈ news, u.oneCell' = true)
  (h63 : n + m ≤ maxLen) (hbytes : (n + m) * bytes ≤ 140737488355328) (hbase : base ≤ w.heap.size)
  (h : ∀ v' w', w'.ownsRow base e size v' (n + m) (xs ++ news) → w.grownBy w' v.ownBlock → (v'.ownBlock = v.ownBlock ∨ v'.ownBlock = some w.heap.size) → K (a.put o.dst v') w') : o.wp P a w K Q := by
 rcases hu.2 with ⟨rfl, rfl⟩ | ⟨g, cap, cur, rfl, _, _, hn, _, _, _⟩
 ·have hnil : news = [] := List.eq_nil_of_length_eq_zero (by have := hu.1; omega)
  subst hnil
  have hr := run_append_none w base t o.type e i size ht hi v n xs hown
  unfold Oper.wp execOp
  simp only [ho, resolve, invoke, builtin, Sem.run_bind, Sem.run_pure, Result.andThen_ok, List.map_toArray, List.map_cons, List.map_nil, hs, hx, hr]
  exact h v w (by simpa using hown) ⟨rfl, rfl, rfl, Nat.le_refl _, fun _ _ _ => rfl⟩ (.inl rfl)
 ·obtain ⟨v', w', hr, h2, h3, _, h5⟩ := run_append_own_at (P := P) w base t o.type e i z size bytes ht hi hz hsize hby hzs hsz v n xs hown ⟨g, 0, none⟩ m cap news hu.1 (hu.cells rfl) h1 h63 hbytes hbase
  unfold Oper.wp execOp
  simp only [ho, resolve, invoke, builtin, Sem.run_bind, Sem.run_pure, Result.andThen_ok, List.map_toArray, List.map_cons, List.map_nil, hs, hx, hr]
  exact h v' w' h2 h3 h5
theorem own_call2 {w w' : World} {B n : Nat} {e : TypeId} {v : Value} {xs : List Value} (h : w.ownsRow B e 4 v n xs) (hb : Below w.heap.size w w') : w'.ownsRow B e 4 v n xs :=
 h.kept (row := none) ⟨hb.os, hb.tape, hb.output, hb.size, fun k hk _ => hb.block k hk⟩ (by
  by_cases hv : v.ownBlock = none
  ·exact .inl hv
  ·exact .inr hv)
end Go.Proofs.Ytdgagooldlnpeaa
