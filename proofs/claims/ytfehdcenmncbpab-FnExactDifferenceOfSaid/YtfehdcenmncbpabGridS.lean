/- The contract of spec.l03Grid. No statement is proved here. -/
import Derived.Test.YtfehdcenmncbpabRd
import Derived.Test.YtfehdcenmncbpabRectC
import Derived.Test.YtfehdcenmncbpabBlk4
import Derived.Test.YtfehdcenmncbpabRegM
import Derived.Test.YtfehdcenmncbpabGrid
import Derived.Test.YtfehdcenmncbpabIsectP
import Derived.Test.YtfehdcenmncbpabIsectS
import Derived.Test.YtfehdcenmncbpabHasC
import Derived.Test.YtfehdcenmncbpabRectEq
import Derived.Test.YtfehdcenmncbpabRegN
import Derived.Test.YtfehdcenmncbpabMark
import Derived.Test.YtfehdcenmncbpabRds
import Derived.Test.YtfehdcenmncbpabProg
import Derived.WalkKit
import Derived.ProofKit
import Derived.OpenShut
import Derived.WalkLawsBesides
import Derived.WalkSpells
import Derived.ShutString
import Derived.ChangeOld
import Derived.Below
import Derived.Lib.Hide
import Derived.BigQuiet
import Derived.Deep.QuietTactic
import Derived.Maps.AppendAt
import Derived.Deep.Draws
import Derived.Deep.MidRow
import Derived.Deep.WholeRow
import Derived.Deep.OwnRows
import Derived.Deep.RegionHeld3
import Derived.Deep.DeepCutAuto
import Derived.Deep.LoopGhost
namespace Go.Proofs.Ytfehdcenmncbpab
open Go.RowKit
/-- What l03Grid answers. -/
def GridAns (L : List Rc) (w : World) (e : Ending) (w' : World) : Prop :=
  ∃ b : Nat, e = .returned (.slice (some ⟨b, 0, none⟩) 256 256) ∧ w.heap.size ≤ b ∧ GrAt w' b 4 (gridOf L) ∧ Below w.heap.size w w'
theorem isectS_scr (r : Rc) (w : World) :
    Calls Try.prog 55 #[.agg #[.int .i64 r.x, .int .i64 r.y, .int .i64 r.w, .int .i64 r.h], .agg #[.int .i64 0, .int .i64 0, .int .i64 16, .int .i64 16]] w
      fun e w' => ∃ X Y W H : Nat, e = .returned (.agg #[.int .i64 X, .int .i64 Y, .int .i64 W, .int .i64 H]) ∧ Hid (isect r screenR = ⟨X, Y, W, H⟩) ∧ X + W ≤ 16 ∧ Y + H ≤ 16 ∧ Below w.heap.size w w' := by
  refine (isectS_any r screenR w).mono ?_
  rintro e w' ⟨rfl, hb⟩
  obtain ⟨X, Y, W, H, he, h1, h2⟩ := screen_nat r
  exact ⟨X, Y, W, H, by rw [he], he, h1, h2, hb⟩
theorem scr_cells {w : World} {g : Nat} (h : RcAt w g screenR) :
    w.cell? ⟨g, 0, none⟩ = some (.int .i64 0) ∧ w.cell? ⟨g, 1, none⟩ = some (.int .i64 0) ∧ w.cell? ⟨g, 2, none⟩ = some (.int .i64 16) ∧ w.cell? ⟨g, 3, none⟩ = some (.int .i64 16) := h.cells
/-- The memory in the loops of l03Grid: the grid, the screen. -/
structure GsSt (w : World) (g : Nat → Bool) (wr : World) : Prop where
  gr : GrAt wr w.heap.size 4 g
  sc : RcAt wr (w.heap.size + 1) screenR
  bw : Below w.heap.size w wr
theorem GsSt.size {w wr : World} {g : Nat → Bool} (h : GsSt w g wr) : w.heap.size + 1 < wr.heap.size := h.sc.lt
theorem GsSt.call {w wr w' : World} {g : Nat → Bool} (h : GsSt w g wr) (hb : Below wr.heap.size wr w') : GsSt w g w' :=
  ⟨h.gr.below hb h.gr.lt, h.sc.below hb h.sc.lt, h.bw.trans (hb.mono h.bw.size)⟩
theorem GsSt.alloc {w wr : World} {g : Nat → Bool} (h : GsSt w g wr) (o : Obj) : GsSt w g (wr.alloc o) :=
  ⟨h.gr.alloc o, h.sc.alloc o, h.bw.alloc h.bw.size o⟩
theorem GsSt.drew {w wr : World} {g : Nat → Bool} (h : GsSt w g wr) : GsSt w g wr.drew := ⟨h.gr, h.sc, h.bw.drew⟩
theorem GsSt.far4 {w wr : World} {g : Nat → Bool} {b : Nat} (h : GsSt w g wr) (hb : w.heap.size + 1 < b) (v0 v1 v2 v3 : Value) :
    GsSt w g ((((wr.setCell ⟨b, 0, none⟩ v0).setCell ⟨b, 1, none⟩ v1).setCell ⟨b, 2, none⟩ v2).setCell ⟨b, 3, none⟩ v3) :=
  ⟨(((h.gr.far (p := ⟨b, 0, none⟩) (by simp; omega) _).far (p := ⟨b, 1, none⟩) (by simp; omega) _).far (p := ⟨b, 2, none⟩) (by simp; omega) _).far (p := ⟨b, 3, none⟩) (by simp; omega) _,
    h.sc.far4 hb _ _ _ _, below_set4 h.bw (by omega) _ _ _ _⟩
theorem GsSt.set {w wr : World} {g : Nat → Bool} (h : GsSt w g wr) (k : Nat) (v : Bool) : GsSt w (gSet g k v) (wr.setCell ⟨w.heap.size, k, none⟩ (.bool v)) :=
  ⟨h.gr.set k v, h.sc.far (by simp) _, h.bw.setCell (Nat.le_refl _) _⟩
theorem GsSt.congr {w wr : World} {g g' : Nat → Bool} (h : GsSt w g wr) (e : ∀ k, k < 256 → g k = g' k) : GsSt w g' wr := ⟨h.gr.congr e, h.sc, h.bw⟩
set_option maxHeartbeats 400000 in
set_option maxRecDepth 10000 in
theorem gridS (v : Value) (L : List Rc) (w : World) (h : RdR w v L) : Calls Try.prog 78 #[v] w (GridAns L w) := by
  obtain ⟨A, c, rfl⟩ := h.form
  have hm : L.length ≤ 9223372036854775807 := by have := h.len; unfold maxLen at this; omega
  obtain ⟨n, hn⟩ : ∃ n, n = L.length := ⟨_, rfl⟩
  rw [← hn] at hm h ⊢
  have Hn := Lib.hid hn
  have H := Lib.hid h
  clear h hn
  have hmk := make_grid
  go_enter Try.func78, Try.ntmps78
  go_wp2_with fail
  go_loopg [5] n (fun gk i wr => ∃ k : Nat, k ≤ n ∧ gk = n - k ∧ i = .int .i64 k ∧ GsSt w (gridOf (L.take k)) wr)
  case atStart => exact ⟨0, Nat.zero_le _, by omega, rfl, ⟨((GrAt.new _ _ _).congr (fun k _ => (gridOf_nil k).symm)).alloc _, RcAt.newAt (by simp) screenR, ((Below.refl _ _).alloc (Nat.le_refl _) _).alloc (by simp) _⟩⟩
  case round =>
    obtain ⟨k, hk, rfl, rfl, hG⟩ := hrel
    by_cases hkn : k < n
    · obtain ⟨gv, r, rfl, hr, hC⟩ := (H.out.below hG.bw (fun g _ hl => hl)).at_ (k := k) (by rw [← Hn.out]; exact hkn)
      have hgv : gv < w.heap.size := by
        obtain ⟨gv', r', e, _, hC'⟩ := H.out.at_ (k := k) (by rw [← Hn.out]; exact hkn)
        injection e with e
        injection e with e
        rw [e]; exact hC'.lt
      have Hr := Lib.hid hr
      clear hr
      have k0 : (0 : Int) ≤ (k : Int) := by omega
      have k1 : (k : Int) < (n : Int) := by omega
      have hsz := hG.size
      have hne : gv ≠ wr.heap.size := by omega
      go_upto_region 6 with fail
      go_cut [6] (fun s6 wx => ∃ g X Y W H : Nat, s6 = .pointer (some ⟨g, 0, none⟩) ∧ Hid (isect r screenR = ⟨X, Y, W, H⟩) ∧ X + W ≤ 16 ∧ Y + H ≤ 16 ∧ w.heap.size + 1 < g ∧ RcAt wx g ⟨X, Y, W, H⟩ ∧ GsSt w (gridOf (L.take k)) wx)
      case first =>
        obtain ⟨c0, c1, c2, c3⟩ := hC.cells
        obtain ⟨s0, s1, s2, s3⟩ := scr_cells hG.sc
        go_region_held3 (fun w' => (w'.cell? ⟨gv, k * 4, none⟩ = some (.int .i64 r.x) ∧ w'.cell? ⟨gv, k * 4 + 1, none⟩ = some (.int .i64 r.y) ∧ w'.cell? ⟨gv, k * 4 + 2, none⟩ = some (.int .i64 r.w) ∧ w'.cell? ⟨gv, k * 4 + 3, none⟩ = some (.int .i64 r.h)) ∧
          (w'.cell? ⟨w.heap.size + 1, 0, none⟩ = some (.int .i64 0) ∧ w'.cell? ⟨w.heap.size + 1, 1, none⟩ = some (.int .i64 0) ∧ w'.cell? ⟨w.heap.size + 1, 2, none⟩ = some (.int .i64 16) ∧ w'.cell? ⟨w.heap.size + 1, 3, none⟩ = some (.int .i64 16)))
          (with_reducible first | exact ⟨hC.cells, scr_cells hG.sc⟩ | exact ⟨hC.drew.cells, scr_cells hG.drew.sc⟩ | exact ⟨(hC.alloc _).cells, scr_cells (hG.alloc _).sc⟩ | exact ⟨(hC.drew.alloc _).cells, scr_cells (hG.drew.alloc _).sc⟩ | exact ⟨(hC.alloc _).drew.cells, scr_cells (hG.alloc _).drew.sc⟩ | exact ⟨(hC.far4 hne _ _ _ _).cells, scr_cells (hG.sc.far4 hsz _ _ _ _)⟩ | fail)
          ((go_at_call 55; (with_reducible refine (isectS_scr r _).mono ?_); rintro e wk ⟨X, Y, W, H, rfl, hI, hXW, hYH, hbk⟩; (with_reducible first | have hC := hC.call hbk | have hC := hC.drew.call hbk | have hC := (hC.alloc _).call hbk | have hC := (hC.drew.alloc _).call hbk | have hC := (hC.alloc _).drew.call hbk); (with_reducible first | have hG := hG.call hbk | have hG := hG.drew.call hbk | have hG := (hG.alloc _).call hbk | have hG := (hG.drew.alloc _).call hbk | have hG := (hG.alloc _).drew.call hbk); (with_reducible first | (have hN := rc_born_drew hbk; obtain ⟨z0, z1, z2, z3⟩ := hN.cells; have zf := hN.frozen) | (have hN := rc_born hbk; obtain ⟨z0, z1, z2, z3⟩ := hN.cells; have zf := hN.frozen) | skip)))
        all_goals
          go_wp2_with fail
          go_meet
          case rel => exact ⟨_, X, Y, W, H, rfl, hI, hXW, hYH, by first | exact hsz | exact hG.size, by first | exact hN.setr ⟨X, Y, W, H⟩ | exact RcAt.new wk ⟨X, Y, W, H⟩ | exact (RcAt.new wk ⟨X, Y, W, H⟩).drew, by first | exact hG.far4 hsz _ _ _ _ | exact hG.alloc _ | exact (hG.alloc _).drew | exact hG.drew.alloc _⟩
      case rest =>
        clear hC hG hsz hne
        obtain ⟨g, X, Y, W, H, rfl, hI, hXW, hYH, hg, hR, hG⟩ := hcut
        obtain ⟨r0, r1, r2, r3⟩ := hR.cells4
        go_wp2_with fail
        go_loopg [7] H (fun g2 i2 wy => ∃ y : Nat, Y ≤ y ∧ y ≤ Y + H ∧ g2 = Y + H - y ∧ i2 = .int .i64 y ∧ RcAt wy g ⟨X, Y, W, H⟩ ∧ GsSt w (markG (gridOf (L.take k)) X Y W H y X) wy)
        case atStart => exact ⟨Y, Nat.le_refl _, by omega, by omega, rfl, hR, hG.congr (fun i _ => (markG_start _ _ _ _ _ i).symm)⟩
        case round =>
          clear hR hG r0 r1 r2 r3
          obtain ⟨y, hy1, hy2, rfl, rfl, hR, hG⟩ := hrel
          obtain ⟨r0, r1, r2, r3⟩ := hR.cells4
          by_cases hyl : y < Y + H
          · go_wp2_with fail
            go_loopg [8] W (fun g3 i3 wx => ∃ x : Nat, X ≤ x ∧ x ≤ X + W ∧ g3 = X + W - x ∧ i3 = .int .i64 x ∧ RcAt wx g ⟨X, Y, W, H⟩ ∧ GsSt w (markG (gridOf (L.take k)) X Y W H y x) wx)
            case atStart => exact ⟨X, Nat.le_refl _, by omega, by omega, rfl, hR, hG⟩
            case round =>
              clear hR hG r0 r1 r2 r3
              obtain ⟨x, hx1, hx2, rfl, rfl, hR, hG⟩ := hrel
              obtain ⟨r0, r1, r2, r3⟩ := hR.cells4
              by_cases hxl : x < X + W
              · have b0 : (0 : Int) ≤ (y : Int) * 16 + (x : Int) := by omega
                have b1 : (y : Int) * 16 + (x : Int) < 256 := by omega
                have hcell := hG.gr.cell (y * 16 + x) (by omega)
                have hfz := hG.gr.frozen (y * 16 + x)
                go_wp2_with fail
                go_roundg (X + W - (x + 1))
                case measure => omega
                case rel => exact ⟨x + 1, by omega, by omega, rfl, by go_num, hR.far (by simp; omega) _, (hG.set (y * 16 + x) true).congr (fun i _ => markG_set _ X Y W H y x i ⟨hx1, hxl⟩ ⟨hy1, hyl⟩ hXW)⟩
              · obtain rfl : x = X + W := by omega
                go_wp2_with fail
                go_roundg (Y + H - (y + 1))
                case measure => omega
                case rel => exact ⟨y + 1, by omega, by omega, rfl, by go_num, hR, hG.congr (fun i _ => markG_row _ X Y W H y i)⟩
          · obtain rfl : y = Y + H := by omega
            go_wp2_with fail
            go_roundg (n - (k + 1))
            case measure => omega
            case rel => exact ⟨k + 1, by omega, rfl, by go_num, hG.congr (fun i hi => mark_take L k r X Y W H Hr.out hI.out i hi)⟩
    · obtain rfl : k = n := by omega
      go_wp2_with fail
      go_ret
      exact ⟨_, rfl, Nat.le_refl _, hG.gr.congr (fun i _ => by rw [List.take_of_length_le (by rw [← Hn.out]; exact Nat.le_refl _)]), hG.bw⟩
end Go.Proofs.Ytfehdcenmncbpab
