/- The contract of spec.l03Canon. No statement is proved here. -/
import Derived.Test.YtfehdcenmncbpabRd
import Derived.Test.YtfehdcenmncbpabRectC
import Derived.Test.YtfehdcenmncbpabFrame
import Derived.Test.YtfehdcenmncbpabBlk4
import Derived.Test.YtfehdcenmncbpabRegM
import Derived.Test.YtfehdcenmncbpabGrid
import Derived.Test.YtfehdcenmncbpabHasC
import Derived.Test.YtfehdcenmncbpabRectEq
import Derived.Test.YtfehdcenmncbpabRds
import Derived.Test.YtfehdcenmncbpabRowS
import Derived.Test.YtfehdcenmncbpabRegP
import Derived.Test.YtfehdcenmncbpabProg
import Derived.WalkKit
import Derived.ProofKit
import Derived.OpenShut
import Derived.WalkLawsBesides
import Derived.WalkSpells
import Derived.ShutString
import Derived.ChangeOld
import Derived.Below
import Derived.Lib.Hide
import Derived.BigQuiet
import Derived.Deep.QuietTactic
import Derived.Maps.AppendAt
import Derived.Deep.Draws
import Derived.Deep.MidRow
import Derived.Deep.WholeRow
import Derived.Deep.OwnRows
import Derived.Deep.RegionHeld3
import Derived.Deep.DeepCutAuto
import Derived.OwnWalk
import Derived.Deep.AppendLies
import Derived.Deep.Onto
import Derived.Deep.LoopGhost
namespace Go.Proofs.Ytfehdcenmncbpab
open Go.RowKit
theorem infoRect : (Try.prog.info? 31).map (fun i => (i.zero, i.size, i.bytes)) = some (some (.agg #[.int .i64 0, .int .i64 0, .int .i64 0, .int .i64 0]), 4, 32) := by kernel_rfl
theorem rowS' (b : Nat) (g : Nat → Bool) (y z : Nat) (zi : Int) (hzi : zi = (z : Int)) (hy : y < 16) (hz : z < 16) (w : World) (hG : GrAt w b 4 g) :
    Calls Try.prog 114 #[.slice (some ⟨b, 0, none⟩) 256 256, .int .i64 y, .int .i64 zi] w fun e w' => e = .returned (.bool (rowEq g y z)) ∧ ∃ q, w' = w.drewN q := by
  subst hzi
  exact rowS b g y z hy hz w hG
/-- What l03Canon answers. -/
def CanAns (g : Nat → Bool) (w : World) (e : Ending) (w' : World) : Prop :=
  ∃ v, e = .returned (.agg #[v]) ∧ w'.ownsRow w.heap.size 31 4 v (canon g).length (rcsCells (canon g)) ∧ Below w.heap.size w w'
/-- The memory in the loops of l03Canon. -/
structure CaSt (w : World) (b : Nat) (g : Nat → Bool) (v : Value) (L : List Rc) (wr : World) : Prop where
  rs : wr.heap[w.heap.size]? = some (.cells #[.slice none 0 0] 34 (0, 0))
  out : wr.heap[w.heap.size + 1]? = some (.cells #[v] 34 (0, 0))
  own : wr.ownsRow (w.heap.size + 2) 31 4 v L.length (rcsCells L)
  gr : GrAt wr b 4 g
  bl : b < w.heap.size
  bw : Below w.heap.size w wr
theorem CaSt.drewN {w wr : World} {b : Nat} {g : Nat → Bool} {v : Value} {L : List Rc} (h : CaSt w b g v L wr) (q : Nat) : CaSt w b g v L (wr.drewN q) :=
  ⟨h.rs, h.out, own_drewN h.own q, h.gr.drewN q, h.bl, below_drewN h.bw q⟩
theorem CaSt.size {w wr : World} {b : Nat} {g : Nat → Bool} {v : Value} {L : List Rc} (h : CaSt w b g v L wr) : w.heap.size + 1 < wr.heap.size := (Array.getElem?_eq_some_iff.1 h.out).1
theorem CaSt.cell {w wr : World} {b : Nat} {g : Nat → Bool} {v : Value} {L : List Rc} (h : CaSt w b g v L wr) : wr.cell? ⟨w.heap.size + 1, 0, none⟩ = some v := by
  have := h.out; simp [World.cell?, this]
theorem CaSt.frozen {w wr : World} {b : Nat} {g : Nat → Bool} {v : Value} {L : List Rc} (h : CaSt w b g v L wr) : wr.frozen? ⟨w.heap.size + 1, 0, none⟩ = false := by
  have := h.out; simp [World.frozen?, this]
theorem CaSt.rcell {w wr : World} {b : Nat} {g : Nat → Bool} {v : Value} {L : List Rc} (h : CaSt w b g v L wr) : wr.cell? ⟨w.heap.size, 0, none⟩ = some (.slice none 0 0) := by
  have := h.rs; simp [World.cell?, this]
theorem CaSt.rfrozen {w wr : World} {b : Nat} {g : Nat → Bool} {v : Value} {L : List Rc} (h : CaSt w b g v L wr) : wr.frozen? ⟨w.heap.size, 0, none⟩ = false := by
  have := h.rs; simp [World.frozen?, this]
theorem grown_setc (w : World) (g o : Nat) (v : Value) : w.grownBy (w.setCell ⟨g, o, none⟩ v) (some g) :=
  ⟨rfl, rfl, rfl, by simp [World.setCell], fun k hk hne => Below.heap_setCell w _ v k (by simpa using hne)⟩
theorem heap_set0 {w : World} {g : Nat} {s : Value} {T : TypeId} (hg : w.heap[g]? = some (.cells #[s] T (0, 0))) (v : Value) :
    (w.setCell ⟨g, 0, none⟩ v).heap[g]? = some (.cells #[v] T (0, 0)) := by rw [heap_setCell_same w g 0 _ T v hg]; rfl
theorem CaSt.next {w wr w2 : World} {b : Nat} {g : Nat → Bool} {v v' : Value} {L : List Rc} {o : Obj} (h : CaSt w b g v L wr) (r : Rc)
    (hown : w2.ownsRow (w.heap.size + 2) 31 4 v' (L.length + 1) (rcsCells L ++ rcCells r)) (hgr : (wr.alloc o).grownBy w2 v.ownBlock) :
    CaSt w b g v' (L ++ [r]) (w2.setCell ⟨w.heap.size + 1, 0, none⟩ v') := by
  have hlow : ∀ k, k < w.heap.size + 2 → some k ≠ v.ownBlock := fun k hk e => by have := (h.own.lt k e.symm).1; omega
  have hs := h.size
  have hk : ∀ k, k < w.heap.size + 2 → w2.heap[k]? = wr.heap[k]? := fun k hk => (hgr.block k (by simp; omega) (hlow k hk)).trans (Below.heap_alloc wr o k (by omega))
  refine ⟨?_, heap_set0 ((hk _ (by omega)).trans h.out) v', ?_, ?_, h.bl, ?_⟩
  · exact (Below.heap_setCell w2 _ v' _ (by simp)).trans ((hk _ (by omega)).trans h.rs)
  · have := hown.kept (row := some (w.heap.size + 1)) (w' := w2.setCell ⟨w.heap.size + 1, 0, none⟩ v') (grown_setc w2 _ _ v') (by
      by_cases hv : v'.ownBlock = none
      · exact .inl hv
      · refine .inr fun e => ?_
        have := (hown.lt _ e).1
        omega)
    rw [List.length_append, rcsCells_append, rcsCells_one]
    exact this
  · exact (Below.heap_setCell w2 _ v' _ (by have := h.bl; simp; omega)).trans ((hk _ (by have := h.bl; omega)).trans h.gr)
  · exact ((h.bw.alloc h.bw.size o).grown hgr (by have := h.bw.size; simp; omega) (fun k hk => by have := (h.own.lt k hk).1; omega)).setCell (by simp) _
theorem CaSt.form {w wr : World} {b : Nat} {g : Nat → Bool} {v : Value} {L : List Rc} (h : CaSt w b g v L wr) : ∃ A n c, v = .slice A n c := by
  obtain ⟨A, c, rfl⟩ := (RdR.of_own h.own).form
  exact ⟨A, _, c, rfl⟩
theorem CaSt.mid {w wr w2 : World} {b : Nat} {g : Nat → Bool} {v : Value} {L : List Rc} {o : Obj} (h : CaSt w b g v L wr) (hgr : (wr.alloc o).grownBy w2 v.ownBlock) :
    w2.cell? ⟨w.heap.size + 1, 0, none⟩ = some v ∧ w2.frozen? ⟨w.heap.size + 1, 0, none⟩ = false := by
  have hs := h.size
  have hk : w2.heap[w.heap.size + 1]? = wr.heap[w.heap.size + 1]? := (hgr.block _ (by simp; omega) (fun e => by have := (h.own.lt _ e.symm).1; omega)).trans (Below.heap_alloc wr o _ (by omega))
  have := hk.trans h.out
  exact ⟨by simp [World.cell?, this], by simp [World.frozen?, this]⟩
set_option maxHeartbeats 2000000 in
set_option maxRecDepth 10000 in
theorem canS (b : Nat) (g : Nat → Bool) (w : World) (hG : GrAt w b 4 g) : Calls Try.prog 82 #[.slice (some ⟨b, 0, none⟩) 256 256] w (CanAns g w) := by
  have hbl := hG.lt
  obtain ⟨i0, hi, hz0, hz1, hz2⟩ := info_parts infoRect
  have hS0 : CaSt w b g (.slice none 0 0) [] ((w.alloc (.cells #[.slice none 0 0] 34)).alloc (.cells #[.slice none 0 0] 34)) :=
    ⟨(Below.heap_alloc _ _ _ (by simp)).trans (heap_alloc_new w _), by have := heap_alloc_new (w.alloc (.cells #[.slice none 0 0] 34)) (.cells #[.slice none 0 0] 34); simpa using this,
      World.ownsRow_nil _ _ _ _, (hG.alloc _).alloc _, hbl, ((Below.refl _ _).alloc (Nat.le_refl _) _).alloc (by simp) _⟩
  clear hG
  go_enter Try.func82, Try.ntmps82
  go_wp2_with fail
  go_loopg [4] 16 (fun gk i wr => ∃ (y : Nat) (v : Value) (L : List Rc), y ≤ 16 ∧ gk = 16 - y ∧ i = .int .i64 y ∧ Hid (canon g = L ++ bands g y) ∧ CaSt w b g v L wr)
  case atStart => exact ⟨0, _, [], Nat.zero_le _, rfl, rfl, Lib.hid rfl, hS0⟩
  case round =>
    clear hS0
    obtain ⟨y, v, L, hy, rfl, rfl, hB, hS⟩ := hrel
    by_cases hy16 : y < 16
    · have hy16i : (y : Int) < 16 := by omega
      go_wp2_with fail
      go_loopg [5] 15 (fun g2 i2 wy => ∃ h : Nat, 1 ≤ h ∧ y + h ≤ 16 ∧ g2 = 16 - h ∧ i2 = .int .i64 h ∧ Hid (bandFrom g y h = bandH g y) ∧ CaSt w b g v L wy)
      case atStart => exact ⟨1, Nat.le_refl _, by omega, by omega, rfl, Lib.hid rfl, hS⟩
      case round =>
        clear hS
        obtain ⟨h, hh1, hh2, rfl, rfl, hH, hS⟩ := hrel
        by_cases hc : y + h < 16 ∧ rowEq g y (y + h) = true
        · have hyh := hc.1
          have hyi : (y : Int) + (h : Int) < 16 := by omega
          have Hre := Lib.hid hc.2
          clear hc
          go_wp2_with fail
          refine (rowS' b g y (y + h) _ (by omega) (by omega) (by omega) _ hS.gr).mono ?_
          rintro e w1 ⟨rfl, q, rfl⟩
          rw [Hre.out]
          go_wp2_with fail
          go_roundg (16 - (h + 1))
          case measure => omega
          case rel => exact ⟨h + 1, by omega, by omega, rfl, by go_num, Lib.hid ((bandFrom_go hyh Hre.out).symm.trans hH.out), hS.drewN q⟩
        · have hB2 : Hid (canon g = L ++ (runs g y h 0 ++ bands g (y + h))) := Lib.hid (by rw [hB.out, bands_open g y h hy16 (hH.out.symm.trans (bandFrom_stop hc))])
          have Hc := Lib.hid hc
          clear hc hB hH
          (by_cases hyh : y + h < 16)
          (have hyi : (y : Int) + (h : Int) < 16 := by omega
           have hre : rowEq g y (y + h) = false := by
            rcases e : rowEq g y (y + h) with _ | _
            · rfl
            · exact absurd ⟨hyh, e⟩ Hc.out
           have Hre := Lib.hid hre
           clear hre
           go_wp2_with fail
           refine (rowS' b g y (y + h) _ (by omega) (by omega) (by omega) _ hS.gr).mono ?_
           rintro e w1 ⟨rfl, q, rfl⟩
           rw [Hre.out]
           have hS := hS.drewN q
           clear hyi
           go_wp2_with fail)
          rotate_left
          (have hyi : ¬ (y : Int) + (h : Int) < 16 := by omega
           go_wp2_with fail)
          all_goals
            go_loopg [6] 17 (fun g3 i3 wx => ∃ (x : Nat) (v : Value) (L : List Rc), x ≤ 17 ∧ g3 = 17 - x ∧ i3 = .int .i64 x ∧ Hid (canon g = L ++ (runs g y h x ++ bands g (y + h))) ∧ CaSt w b g v L wx)
            case atStart => exact ⟨0, v, L, by omega, rfl, rfl, hB2, hS⟩
            case round =>
              clear hS hB2
              obtain ⟨x, v, L, hx, rfl, rfl, hB3, hS⟩ := hrel
              by_cases hx16 : x < 16
              · have hxi : (x : Int) < 16 := by omega
                go_wp2_with fail
                go_loopg [7] 16 (fun g4 i4 wu => ∃ u : Nat, x + u ≤ 16 ∧ g4 = 16 - u ∧ i4 = .int .i64 u ∧ Hid (runFrom g y x u = runW g y x) ∧ CaSt w b g v L wu)
                case atStart => exact ⟨0, by omega, rfl, rfl, Lib.hid rfl, hS⟩
                case round =>
                  clear hS
                  obtain ⟨u, hu1, rfl, rfl, hU, hS⟩ := hrel
                  by_cases hc : x + u < 16 ∧ g (y * 16 + (x + u)) = true
                  · have hxui : (x : Int) + (u : Int) < 16 := by omega
                    have b0 : (0 : Int) ≤ (y : Int) * 16 + (x : Int) + (u : Int) := by omega
                    have b1 : (y : Int) * 16 + (x : Int) + (u : Int) < 256 := by omega
                    have hcell := hS.gr.cell (y * 16 + x + u) (by omega)
                    rw [show g (y * 16 + x + u) = true by rw [Nat.add_assoc]; exact hc.2] at hcell
                    have Hc := Lib.hid hc
                    clear hc
                    go_wp2_with fail
                    go_roundg (16 - (u + 1))
                    case measure => omega
                    case rel => exact ⟨u + 1, by omega, rfl, by go_num, Lib.hid ((runFrom_go Hc.out.1 Hc.out.2).symm.trans hU.out), hS⟩
                  · have hB4 : Hid (canon g = L ++ (((if 0 < u then [⟨x, y, u, h⟩] else []) ++ runs g y h (x + u + 1)) ++ bands g (y + h))) :=
                      Lib.hid (by rw [hB3.out, runs_open g y h x u hx16 (hU.out.symm.trans (runFrom_stop hc))])
                    have hLl : L.length ≤ 256 := canon_part hB4.out
                    have Hc := Lib.hid hc
                    have oc := hS.cell
                    have of := hS.frozen
                    clear hc hB3 hU
                    by_cases hu0 : 0 < u
                    · rw [if_pos hu0] at hB4
                      have hu0i : (0 : Int) < (u : Int) := by omega
                      (by_cases hxu : x + u < 16)
                      (have hxui : (x : Int) + (u : Int) < 16 := by omega
                       have b0 : (0 : Int) ≤ (y : Int) * 16 + (x : Int) + (u : Int) := by omega
                       have b1 : (y : Int) * 16 + (x : Int) + (u : Int) < 256 := by omega
                       have hcell := hS.gr.cell (y * 16 + x + u) (by omega)
                       rw [show g (y * 16 + x + u) = false by
                        rw [Nat.add_assoc]
                        rcases e : g (y * 16 + (x + u)) with _ | _
                        · rfl
                        · exact absurd ⟨hxu, e⟩ Hc.out] at hcell)
                      rotate_left
                      (have hxui : ¬ (x : Int) + (u : Int) < 16 := by omega)
                      all_goals
                        go_wp2_with (at_builtin; refine wpList_append_own _ rfl _ _ 32 rfl (w.heap.size + 2) 31 i0 (.agg #[.int .i64 0, .int .i64 0, .int .i64 0, .int .i64 0]) 4 32 Try.underlying32 hi hz0 hz1 hz2 rfl (by decide) _ _ _ rfl (hS.own.alloc _) ⟨_, 0, none⟩ 1 1 _ rfl rfl (World.news_of_block (cs := #[.int .i64 x, .int .i64 y, .int .i64 u, .int .i64 h]) (fr := (0, 0)) (heap_alloc_new _ _)) (by intro u' hu'; simp at hu'; rcases hu' with rfl | rfl | rfl | rfl <;> rfl) (by unfold maxLen; omega) (by omega) (by have := hS.size; simp; omega) ?_)
                        intro v2 w2 hown2 hgrow _
                        obtain ⟨gq, cq, hvq, _, _⟩ := hown2.form (by omega)
                        subst hvq
                        obtain ⟨oc2, of2⟩ := hS.mid hgrow
                        have hS := hS.next ⟨x, y, u, h⟩ hown2 hgrow
                        clear hown2 hgrow oc of
                        go_wp2_with fail
                        go_roundg (17 - (x + u + 1))
                        case measure => omega
                        case rel => exact ⟨x + u + 1, _, L ++ [⟨x, y, u, h⟩], by omega, rfl, by go_num, Lib.hid (by rw [hB4.out]; simp only [List.append_assoc]), hS⟩
                    · obtain rfl : u = 0 := by omega
                      rw [if_neg (by omega), List.nil_append] at hB4
                      have b0 : (0 : Int) ≤ (y : Int) * 16 + (x : Int) := by omega
                      have b1 : (y : Int) * 16 + (x : Int) < 256 := by omega
                      have hcell := hS.gr.cell (y * 16 + x) (by omega)
                      rw [show g (y * 16 + x) = false by
                        rcases e : g (y * 16 + x) with _ | _
                        · rfl
                        · exact absurd ⟨hx16, e⟩ Hc.out] at hcell
                      go_wp2_with fail
                      go_roundg (17 - (x + 0 + 1))
                      case measure => omega
                      case rel => exact ⟨x + 0 + 1, v, L, by omega, rfl, by go_num, hB4, hS⟩
              · have hxi : ¬ (x : Int) < 16 := by omega
                go_wp2_with fail
                go_roundg (16 - (y + h))
                case measure => omega
                case rel => exact ⟨y + h, v, L, by omega, rfl, by go_num, Lib.hid (by rw [hB3.out, runs_end g y h x (by omega), List.nil_append]), hS⟩
    · obtain ⟨A, nv, cv, rfl⟩ := hS.form
      have hy16i : ¬ (y : Int) < 16 := by omega
      have hB2 : L = canon g := by rw [hB.out, bands_end g y (by omega), List.append_nil]
      have oc := hS.cell
      have of := hS.frozen
      have rc := hS.rcell
      have rf := hS.rfrozen
      have hsz := hS.size
      go_wp2_with fail
      exact bodyPost_ret (v := .agg #[.slice A nv cv]) (by simp [results, Try.results82, go_sem, rc]) rfl ⟨_, rfl, by
        have h1 := (hS.own.mono (show w.heap.size ≤ w.heap.size + 2 by omega)).kept (row := some w.heap.size) (grown_setc wr _ 0 (.slice A nv cv)) (by
          by_cases hv : (Value.slice A nv cv).ownBlock = none
          · exact .inl hv
          · refine .inr fun e => ?_
            have := (hS.own.lt _ e).1
            omega)
        rw [hB2] at h1
        exact h1, hS.bw.setCell (Nat.le_refl _) _⟩
end Go.Proofs.Ytfehdcenmncbpab
