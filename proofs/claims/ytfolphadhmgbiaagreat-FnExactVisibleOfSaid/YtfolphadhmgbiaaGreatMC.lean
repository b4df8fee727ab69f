/- Texts of mine in one file: GridS, Arr, GridI, RowS, RegP, CanS, RunP, RunI, SrB, AppN, CanI, SameI, SameS, RgnC, MarkR, CurC, RectD, Rok, ComP, BoundI, OriQ, OriP, ImP, SclM, PixA, PixB. No statement is proved here. -/
import Derived.Test.YtfolphadhmgbiaaGreatMA
import Derived.Test.YtfolphadhmgbiaaGreatProg
import Derived.WalkKit
import Derived.ProofKit
import Derived.OpenShut
import Derived.WalkLawsBesides
import Derived.WalkSpells
import Derived.ShutString
import Derived.ChangeOld
import Derived.Below
import Derived.Lib.Hide
import Derived.BigQuiet
import Derived.Deep.QuietTactic
import Derived.Maps.AppendAt
import Derived.Deep.Draws
import Derived.Deep.MidRow
import Derived.Deep.WholeRow
import Derived.Deep.OwnRows
import Derived.Deep.RegionHeld3
import Derived.Deep.DeepCutAuto
import Derived.Deep.LoopGhost
import Derived.OwnWalk
import Derived.Deep.AppendLies
import Derived.Deep.Onto
import Derived.Laws.AppendOwn
import Derived.Handy
import Derived.Deep.RegionWith
import Derived.Laws.BitsAllLaws
import Derived.Lib.QuoteBits
import Derived.ChangeKeysEq
namespace Go.Proofs.YtfolphadhmgbiaaGreat
open Go.RowKit
/-- What l03Grid answers. -/
def GridAns (L : List Rc) (w : World) (e : Ending) (w' : World) : Prop :=
  ∃ b : Nat, e = .returned (.slice (some ⟨b, 0, none⟩) 256 256) ∧ w.heap.size ≤ b ∧ GrAt w' b 4 (gridOf L) ∧ Below w.heap.size w w'
theorem isectS_scr (r : Rc) (w : World) :
    Calls Tryz.prog 62 #[.agg #[.int .i64 r.x, .int .i64 r.y, .int .i64 r.w, .int .i64 r.h], .agg #[.int .i64 0, .int .i64 0, .int .i64 16, .int .i64 16]] w
      fun e w' => ∃ X Y W H : Nat, e = .returned (.agg #[.int .i64 X, .int .i64 Y, .int .i64 W, .int .i64 H]) ∧ Hid (isect r screenR = ⟨X, Y, W, H⟩) ∧ X + W ≤ 16 ∧ Y + H ≤ 16 ∧ Below w.heap.size w w' := by
  refine (isectS_any r screenR w).mono ?_
  rintro e w' ⟨rfl, hb⟩
  obtain ⟨X, Y, W, H, he, h1, h2⟩ := screen_nat r
  exact ⟨X, Y, W, H, by rw [he], he, h1, h2, hb⟩
theorem scr_cells {w : World} {g : Nat} (h : RcAt w g screenR) :
    w.cell? ⟨g, 0, none⟩ = some (.int .i64 0) ∧ w.cell? ⟨g, 1, none⟩ = some (.int .i64 0) ∧ w.cell? ⟨g, 2, none⟩ = some (.int .i64 16) ∧ w.cell? ⟨g, 3, none⟩ = some (.int .i64 16) := h.cells
/-- The memory in the loops of l03Grid: the grid, the screen. -/
structure GsSt (w : World) (g : Nat → Bool) (wr : World) : Prop where
  gr : GrAt wr w.heap.size 4 g
  sc : RcAt wr (w.heap.size + 1) screenR
  bw : Below w.heap.size w wr
theorem GsSt.size {w wr : World} {g : Nat → Bool} (h : GsSt w g wr) : w.heap.size + 1 < wr.heap.size := h.sc.lt
theorem GsSt.call {w wr w' : World} {g : Nat → Bool} (h : GsSt w g wr) (hb : Below wr.heap.size wr w') : GsSt w g w' :=
  ⟨h.gr.below hb h.gr.lt, h.sc.below hb h.sc.lt, h.bw.trans (hb.mono h.bw.size)⟩
theorem GsSt.alloc {w wr : World} {g : Nat → Bool} (h : GsSt w g wr) (o : Obj) : GsSt w g (wr.alloc o) :=
  ⟨h.gr.alloc o, h.sc.alloc o, h.bw.alloc h.bw.size o⟩
theorem GsSt.drew {w wr : World} {g : Nat → Bool} (h : GsSt w g wr) : GsSt w g wr.drew := ⟨h.gr, h.sc, h.bw.drew⟩
theorem GsSt.far4 {w wr : World} {g : Nat → Bool} {b : Nat} (h : GsSt w g wr) (hb : w.heap.size + 1 < b) (v0 v1 v2 v3 : Value) :
    GsSt w g ((((wr.setCell ⟨b, 0, none⟩ v0).setCell ⟨b, 1, none⟩ v1).setCell ⟨b, 2, none⟩ v2).setCell ⟨b, 3, none⟩ v3) :=
  ⟨(((h.gr.far (p := ⟨b, 0, none⟩) (by simp; omega) _).far (p := ⟨b, 1, none⟩) (by simp; omega) _).far (p := ⟨b, 2, none⟩) (by simp; omega) _).far (p := ⟨b, 3, none⟩) (by simp; omega) _,
    h.sc.far4 hb _ _ _ _, below_set4 h.bw (by omega) _ _ _ _⟩
theorem GsSt.set {w wr : World} {g : Nat → Bool} (h : GsSt w g wr) (k : Nat) (v : Bool) : GsSt w (gSet g k v) (wr.setCell ⟨w.heap.size, k, none⟩ (.bool v)) :=
  ⟨h.gr.set k v, h.sc.far (by simp) _, h.bw.setCell (Nat.le_refl _) _⟩
theorem GsSt.congr {w wr : World} {g g' : Nat → Bool} (h : GsSt w g wr) (e : ∀ k, k < 256 → g k = g' k) : GsSt w g' wr := ⟨h.gr.congr e, h.sc, h.bw⟩
set_option maxHeartbeats 400000 in
set_option maxRecDepth 10000 in
theorem gridS (v : Value) (L : List Rc) (w : World) (h : RdR w v L) : Calls Tryz.prog 90 #[v] w (GridAns L w) := by
  obtain ⟨A, c, rfl⟩ := h.form
  have hm : L.length ≤ 9223372036854775807 := by have := h.len; unfold maxLen at this; omega
  obtain ⟨n, hn⟩ : ∃ n, n = L.length := ⟨_, rfl⟩
  rw [← hn] at hm h ⊢
  have Hn := Lib.hid hn
  have H := Lib.hid h
  clear h hn
  have hmk := make_grid
  go_enter Tryz.func90, Tryz.ntmps90
  go_wp2_with fail
  go_loopg [5] n (fun gk i wr => ∃ k : Nat, k ≤ n ∧ gk = n - k ∧ i = .int .i64 k ∧ GsSt w (gridOf (L.take k)) wr)
  case atStart => exact ⟨0, Nat.zero_le _, by omega, rfl, ⟨((GrAt.new _ _ _).congr (fun k _ => (gridOf_nil k).symm)).alloc _, RcAt.newAt (by simp) screenR, ((Below.refl _ _).alloc (Nat.le_refl _) _).alloc (by simp) _⟩⟩
  case round =>
    obtain ⟨k, hk, rfl, rfl, hG⟩ := hrel
    by_cases hkn : k < n
    · obtain ⟨gv, r, rfl, hr, hC⟩ := (H.out.below hG.bw (fun g _ hl => hl)).at_ (k := k) (by rw [← Hn.out]; exact hkn)
      have hgv : gv < w.heap.size := by
        obtain ⟨gv', r', e, _, hC'⟩ := H.out.at_ (k := k) (by rw [← Hn.out]; exact hkn)
        injection e with e
        injection e with e
        rw [e]; exact hC'.lt
      have Hr := Lib.hid hr
      clear hr
      have k0 : (0 : Int) ≤ (k : Int) := by omega
      have k1 : (k : Int) < (n : Int) := by omega
      have hsz := hG.size
      have hne : gv ≠ wr.heap.size := by omega
      go_upto_region 6 with fail
      go_cut [6] (fun s6 wx => ∃ g X Y W H : Nat, s6 = .pointer (some ⟨g, 0, none⟩) ∧ Hid (isect r screenR = ⟨X, Y, W, H⟩) ∧ X + W ≤ 16 ∧ Y + H ≤ 16 ∧ w.heap.size + 1 < g ∧ RcAt wx g ⟨X, Y, W, H⟩ ∧ GsSt w (gridOf (L.take k)) wx)
      case first =>
        obtain ⟨c0, c1, c2, c3⟩ := hC.cells
        obtain ⟨s0, s1, s2, s3⟩ := scr_cells hG.sc
        go_region_held3 (fun w' => (w'.cell? ⟨gv, k * 4, none⟩ = some (.int .i64 r.x) ∧ w'.cell? ⟨gv, k * 4 + 1, none⟩ = some (.int .i64 r.y) ∧ w'.cell? ⟨gv, k * 4 + 2, none⟩ = some (.int .i64 r.w) ∧ w'.cell? ⟨gv, k * 4 + 3, none⟩ = some (.int .i64 r.h)) ∧
          (w'.cell? ⟨w.heap.size + 1, 0, none⟩ = some (.int .i64 0) ∧ w'.cell? ⟨w.heap.size + 1, 1, none⟩ = some (.int .i64 0) ∧ w'.cell? ⟨w.heap.size + 1, 2, none⟩ = some (.int .i64 16) ∧ w'.cell? ⟨w.heap.size + 1, 3, none⟩ = some (.int .i64 16)))
          (with_reducible first | exact ⟨hC.cells, scr_cells hG.sc⟩ | exact ⟨hC.drew.cells, scr_cells hG.drew.sc⟩ | exact ⟨(hC.alloc _).cells, scr_cells (hG.alloc _).sc⟩ | exact ⟨(hC.drew.alloc _).cells, scr_cells (hG.drew.alloc _).sc⟩ | exact ⟨(hC.alloc _).drew.cells, scr_cells (hG.alloc _).drew.sc⟩ | exact ⟨(hC.far4 hne _ _ _ _).cells, scr_cells (hG.sc.far4 hsz _ _ _ _)⟩ | fail)
          ((go_at_call 62; (with_reducible refine (isectS_scr r _).mono ?_); rintro e wk ⟨X, Y, W, H, rfl, hI, hXW, hYH, hbk⟩; (with_reducible first | have hC := hC.call hbk | have hC := hC.drew.call hbk | have hC := (hC.alloc _).call hbk | have hC := (hC.drew.alloc _).call hbk | have hC := (hC.alloc _).drew.call hbk); (with_reducible first | have hG := hG.call hbk | have hG := hG.drew.call hbk | have hG := (hG.alloc _).call hbk | have hG := (hG.drew.alloc _).call hbk | have hG := (hG.alloc _).drew.call hbk); (with_reducible first | (have hN := rc_born_drew hbk; obtain ⟨z0, z1, z2, z3⟩ := hN.cells; have zf := hN.frozen) | (have hN := rc_born hbk; obtain ⟨z0, z1, z2, z3⟩ := hN.cells; have zf := hN.frozen) | skip)))
        all_goals
          go_wp2_with fail
          go_meet
          case rel => exact ⟨_, X, Y, W, H, rfl, hI, hXW, hYH, by first | exact hsz | exact hG.size, by first | exact hN.setr ⟨X, Y, W, H⟩ | exact RcAt.new wk ⟨X, Y, W, H⟩ | exact (RcAt.new wk ⟨X, Y, W, H⟩).drew, by first | exact hG.far4 hsz _ _ _ _ | exact hG.alloc _ | exact (hG.alloc _).drew | exact hG.drew.alloc _⟩
      case rest =>
        clear hC hG hsz hne
        obtain ⟨g, X, Y, W, H, rfl, hI, hXW, hYH, hg, hR, hG⟩ := hcut
        obtain ⟨r0, r1, r2, r3⟩ := hR.cells4
        go_wp2_with fail
        go_loopg [7] H (fun g2 i2 wy => ∃ y : Nat, Y ≤ y ∧ y ≤ Y + H ∧ g2 = Y + H - y ∧ i2 = .int .i64 y ∧ RcAt wy g ⟨X, Y, W, H⟩ ∧ GsSt w (markG (gridOf (L.take k)) X Y W H y X) wy)
        case atStart => exact ⟨Y, Nat.le_refl _, by omega, by omega, rfl, hR, hG.congr (fun i _ => (markG_start _ _ _ _ _ i).symm)⟩
        case round =>
          clear hR hG r0 r1 r2 r3
          obtain ⟨y, hy1, hy2, rfl, rfl, hR, hG⟩ := hrel
          obtain ⟨r0, r1, r2, r3⟩ := hR.cells4
          by_cases hyl : y < Y + H
          · go_wp2_with fail
            go_loopg [8] W (fun g3 i3 wx => ∃ x : Nat, X ≤ x ∧ x ≤ X + W ∧ g3 = X + W - x ∧ i3 = .int .i64 x ∧ RcAt wx g ⟨X, Y, W, H⟩ ∧ GsSt w (markG (gridOf (L.take k)) X Y W H y x) wx)
            case atStart => exact ⟨X, Nat.le_refl _, by omega, by omega, rfl, hR, hG⟩
            case round =>
              clear hR hG r0 r1 r2 r3
              obtain ⟨x, hx1, hx2, rfl, rfl, hR, hG⟩ := hrel
              obtain ⟨r0, r1, r2, r3⟩ := hR.cells4
              by_cases hxl : x < X + W
              · have b0 : (0 : Int) ≤ (y : Int) * 16 + (x : Int) := by omega
                have b1 : (y : Int) * 16 + (x : Int) < 256 := by omega
                have hcell := hG.gr.cell (y * 16 + x) (by omega)
                have hfz := hG.gr.frozen (y * 16 + x)
                go_wp2_with fail
                go_roundg (X + W - (x + 1))
                case measure => omega
                case rel => exact ⟨x + 1, by omega, by omega, rfl, by go_num, hR.far (by simp; omega) _, (hG.set (y * 16 + x) true).congr (fun i _ => markG_set _ X Y W H y x i ⟨hx1, hxl⟩ ⟨hy1, hyl⟩ hXW)⟩
              · obtain rfl : x = X + W := by omega
                go_wp2_with fail
                go_roundg (Y + H - (y + 1))
                case measure => omega
                case rel => exact ⟨y + 1, by omega, by omega, rfl, by go_num, hR, hG.congr (fun i _ => markG_row _ X Y W H y i)⟩
          · obtain rfl : y = Y + H := by omega
            go_wp2_with fail
            go_roundg (n - (k + 1))
            case measure => omega
            case rel => exact ⟨k + 1, by omega, rfl, by go_num, hG.congr (fun i hi => mark_take L k r X Y W H Hr.out hI.out i hi)⟩
    · obtain rfl : k = n := by omega
      go_wp2_with fail
      go_ret
      exact ⟨_, rfl, Nat.le_refl _, hG.gr.congr (fun i _ => by rw [List.take_of_length_le (by rw [← Hn.out]; exact Nat.le_refl _)]), hG.bw⟩
end Go.Proofs.YtfolphadhmgbiaaGreat
namespace Go.Proofs.YtfolphadhmgbiaaGreat
open Go.RowKit
theorem infoGrid : (Tryz.prog.info? 177).map (fun i => (i.zero, i.size)) = some (some (.agg (gCells fun _ => false)), 256) := by
  rw [gCells_eq]
  kernel_rfl
theorem zeroGrid (w : World) : (zeroValue 177).run Tryz.prog w = .ok (.agg (gCells fun _ => false)) w := (zero_of_info infoGrid).1 w
theorem sizeGrid (g : Nat → Bool) : (Tryz.prog.info? 177).map (·.size) = some (gCells g).size := by rw [gCells_size]; exact (zero_of_info infoGrid).2
theorem loadGrid {w : World} {b : Nat} {g : Nat → Bool} (h : GrAt w b 177 g) : (loadVar 177 ⟨b, 0, none⟩).run Tryz.prog w = .ok (.agg (gCells g)) w :=
  run_loadVar_row w b _ _ (gCells g) _ _ h Tryz.underlying177 rfl (sizeGrid g)
theorem storeGrid {w : World} {b : Nat} {g : Nat → Bool} (h : GrAt w b 177 g) (g' : Nat → Bool) : (storeVar 177 ⟨b, 0, none⟩ (.agg (gCells g'))).run Tryz.prog w = .ok () (w.setRow b (gCells g')) :=
  run_storeVar_row w b _ _ (gCells g) (gCells g') h (sizeGrid g') (by rw [gCells_size, gCells_size]) (gCells_one g')
theorem storeCellsGrid {w : World} {b : Nat} {g : Nat → Bool} (h : GrAt w b 177 g) (g' : Nat → Bool) : (storeCells ⟨b, 0, none⟩ (gCells g').toList 0).run Tryz.prog w = .ok () (w.setRow b (gCells g')) := by
  have := storeGrid h g'
  have hi := sizeGrid g'
  cases hq : Tryz.prog.info? 177 with
  | none => simp [hq] at hi
  | some i =>
    have hs : (gCells g').size = i.size := by simp [hq] at hi; omega
    simpa [storeVar, sizeOf, typeInfo, hq, Value.cells, hs] using this
/-- THE OPERATIONS, as the walk meets them. -/
theorem wp_load_grid {op : Oper} {a : Act} {w : World} {K : Act → World → Prop} {Q : Exit → Act → World → Prop} (x : Operand) (ho : op.op = .load 177 x)
    (b : Nat) (g : Nat → Bool) (hx : a.eval x = .pointer (some ⟨b, 0, none⟩)) (hG : GrAt w b 177 g)
    (h : K (a.put op.dst (.agg (gCells g))) w) : op.wp Tryz.prog a w K Q := by
  unfold Oper.wp execOp
  simp only [ho, hx, Instr.loadAt, Instr.sureAddr, Sem.run_bind, Sem.run_pure, Result.andThen_ok, loadGrid hG]
  exact h
theorem wp_store_grid {op : Oper} {a : Act} {w : World} {K : Act → World → Prop} {Q : Exit → Act → World → Prop} (x y : Operand) (ho : op.op = .store 177 x y)
    (b : Nat) (g g' : Nat → Bool) (hx : a.eval x = .pointer (some ⟨b, 0, none⟩)) (hy : a.eval y = .agg (gCells g')) (hG : GrAt w b 177 g)
    (h : K (a.put op.dst undef) (w.setRow b (gCells g'))) : op.wp Tryz.prog a w K Q := by
  unfold Oper.wp execOp
  simp only [ho, hx, hy, Instr.storeAt, Instr.sureAddr, Sem.run_bind, Sem.run_pure, Result.andThen_ok, storeGrid hG g']
  exact h
end Go.Proofs.YtfolphadhmgbiaaGreat
namespace Go.Proofs.YtfolphadhmgbiaaGreat
open Go.RowKit
/-- What pointsOf answers. -/
def PtsAns (L : List Rc) (w : World) (e : Ending) (w' : World) : Prop := e = .returned (.agg (gCells (gridOf L))) ∧ Below w.heap.size w w'
theorem isectI_scr (r : Rc) (w : World) :
    Calls Tryz.prog 121 #[.agg #[.int .i64 r.x, .int .i64 r.y, .int .i64 r.w, .int .i64 r.h], .agg #[.int .i64 0, .int .i64 0, .int .i64 16, .int .i64 16]] w
      fun e w' => ∃ X Y W H : Nat, e = .returned (.agg #[.int .i64 X, .int .i64 Y, .int .i64 W, .int .i64 H]) ∧ Hid (isect r screenR = ⟨X, Y, W, H⟩) ∧ X + W ≤ 16 ∧ Y + H ≤ 16 ∧ Below w.heap.size w w' := by
  refine (isectI_any r screenR w).mono ?_
  rintro e w' ⟨rfl, hb⟩
  obtain ⟨X, Y, W, H, he, h1, h2⟩ := screen_nat r
  exact ⟨X, Y, W, H, by rw [he], he, h1, h2, hb⟩
theorem right_nat (X Y W H : Nat) (h1 : X + W ≤ 16) (h2 : Y + H ≤ 16) (w : World) :
    Calls Tryz.prog 108 #[.agg #[.int .i64 X, .int .i64 Y, .int .i64 W, .int .i64 H]] w fun e w' => e = .returned (.int .i64 (X + W)) ∧ Below w.heap.size w w' := by
  refine (rightOf_any ⟨X, Y, W, H⟩ (by unfold Rc.ok; dsimp only; omega) w).mono ?_
  rintro e w' ⟨rfl, rfl⟩
  exact ⟨rfl, (Below.refl _ _).alloc (Nat.le_refl _) _⟩
theorem bottom_nat (X Y W H : Nat) (h1 : X + W ≤ 16) (h2 : Y + H ≤ 16) (w : World) :
    Calls Tryz.prog 107 #[.agg #[.int .i64 X, .int .i64 Y, .int .i64 W, .int .i64 H]] w fun e w' => e = .returned (.int .i64 (Y + H)) ∧ Below w.heap.size w w' := by
  refine (bottomOf_any ⟨X, Y, W, H⟩ (by unfold Rc.ok; dsimp only; omega) w).mono ?_
  rintro e w' ⟨rfl, rfl⟩
  exact ⟨rfl, (Below.refl _ _).alloc (Nat.le_refl _) _⟩
/-- The memory in the loops of pointsOf: the result's variable, the grid. -/
structure GpSt (w : World) (g : Nat → Bool) (wr : World) : Prop where
  rs : GrAt wr w.heap.size 177 (fun _ => false)
  gr : GrAt wr (w.heap.size + 1) 177 g
  bw : Below w.heap.size w wr
theorem GpSt.size {w wr : World} {g : Nat → Bool} (h : GpSt w g wr) : w.heap.size + 1 < wr.heap.size := h.gr.lt
theorem GpSt.call {w wr w' : World} {g : Nat → Bool} (h : GpSt w g wr) (hb : Below wr.heap.size wr w') : GpSt w g w' :=
  ⟨h.rs.below hb h.rs.lt, h.gr.below hb h.gr.lt, h.bw.trans (hb.mono h.bw.size)⟩
theorem GpSt.alloc {w wr : World} {g : Nat → Bool} (h : GpSt w g wr) (o : Obj) : GpSt w g (wr.alloc o) :=
  ⟨h.rs.alloc o, h.gr.alloc o, h.bw.alloc h.bw.size o⟩
theorem GpSt.set {w wr : World} {g : Nat → Bool} (h : GpSt w g wr) (k : Nat) (v : Bool) : GpSt w (gSet g k v) (wr.setCell ⟨w.heap.size + 1, k, none⟩ (.bool v)) :=
  ⟨h.rs.far (by simp) _, h.gr.set k v, h.bw.setCell (by simp) _⟩
theorem GpSt.congr {w wr : World} {g g' : Nat → Bool} (h : GpSt w g wr) (e : ∀ k, k < 256 → g k = g' k) : GpSt w g' wr := ⟨h.rs, h.gr.congr e, h.bw⟩
set_option maxHeartbeats 2000000 in
set_option maxRecDepth 10000 in
theorem gridI (v : Value) (L : List Rc) (w : World) (h : RdR w v L) : Calls Tryz.prog 167 #[v] w (PtsAns L w) := by
  obtain ⟨A, c, rfl⟩ := h.form
  have hm : L.length ≤ 9223372036854775807 := by have := h.len; unfold maxLen at this; omega
  obtain ⟨n, hn⟩ : ∃ n, n = L.length := ⟨_, rfl⟩
  rw [← hn] at hm h ⊢
  have Hn := Lib.hid hn
  have H := Lib.hid h
  clear h hn
  have hz := zeroGrid
  go_enter Tryz.func167, Tryz.ntmps167
  go_wp2_with fail
  go_loopg [11] n (fun gk i wr => ∃ k : Nat, k ≤ n ∧ gk = n - k ∧ i = .int .i64 k ∧ GpSt w (gridOf (L.take k)) wr)
  case atStart => exact ⟨0, Nat.zero_le _, by omega, rfl, ⟨(GrAt.new _ _ _).alloc _, (GrAt.newAt (by simp) _ _).congr (fun k _ => (gridOf_nil k).symm), ((Below.refl _ _).alloc (Nat.le_refl _) _).alloc (by simp) _⟩⟩
  case round =>
    obtain ⟨k, hk, rfl, rfl, hG⟩ := hrel
    by_cases hkn : k < n
    · obtain ⟨gv, r, rfl, hr, hC⟩ := (H.out.below hG.bw (fun g _ hl => hl)).at_ (k := k) (by rw [← Hn.out]; exact hkn)
      have Hr := Lib.hid hr
      clear hr
      have k0 : (0 : Int) ≤ (k : Int) := by omega
      have k1 : (k : Int) < (n : Int) := by omega
      obtain ⟨c0, c1, c2, c3⟩ := hC.cells
      go_wp2_with fail
      refine (isectI_scr r _).mono ?_
      rintro e wk ⟨X, Y, W, H, rfl, hI, hXW, hYH, hbk⟩
      have hG := (hG.alloc _).call hbk
      have hsz := hG.size
      clear c0 c1 c2 c3 hC hbk
      go_wp2_with fail
      have hR := RcAt.new wk ⟨X, Y, W, H⟩
      have hG := hG.alloc (.cells #[.int .i64 X, .int .i64 Y, .int .i64 W, .int .i64 H] 92)
      go_loopg [7] H (fun g2 i2 wy => ∃ y : Nat, Y ≤ y ∧ y ≤ Y + H ∧ g2 = Y + H - y ∧ i2 = .int .i64 y ∧ RcAt wy wk.heap.size ⟨X, Y, W, H⟩ ∧ GpSt w (markG (gridOf (L.take k)) X Y W H y X) wy)
      case atStart => exact ⟨Y, Nat.le_refl _, by omega, by omega, rfl, hR, hG.congr (fun i _ => (markG_start _ _ _ _ _ i).symm)⟩
      case round =>
        clear hR hG
        obtain ⟨y, hy1, hy2, rfl, rfl, hR, hG⟩ := hrel
        obtain ⟨r0, r1, r2, r3⟩ := hR.cells4
        go_wp2_with fail
        refine (bottom_nat X Y W H hXW hYH _).mono ?_
        rintro e wb ⟨rfl, hbb⟩
        have hR := hR.below hbb hR.lt
        have hG := hG.call hbb
        clear hbb r0 r1 r2 r3
        obtain ⟨r0, r1, r2, r3⟩ := hR.cells4
        by_cases hyl : y < Y + H
        · have hyi : (y : Int) < (Y : Int) + (H : Int) := by omega
          go_wp2_with fail
          go_loopg [8] W (fun g3 i3 wx => ∃ x : Nat, X ≤ x ∧ x ≤ X + W ∧ g3 = X + W - x ∧ i3 = .int .i64 x ∧ RcAt wx wk.heap.size ⟨X, Y, W, H⟩ ∧ GpSt w (markG (gridOf (L.take k)) X Y W H y x) wx)
          case atStart => exact ⟨X, Nat.le_refl _, by omega, by omega, rfl, hR, hG⟩
          case round =>
            clear hR hG r0 r1 r2 r3
            obtain ⟨x, hx1, hx2, rfl, rfl, hR, hG⟩ := hrel
            obtain ⟨r0, r1, r2, r3⟩ := hR.cells4
            go_wp2_with fail
            refine (right_nat X Y W H hXW hYH _).mono ?_
            rintro e wc ⟨rfl, hbc⟩
            have hR := hR.below hbc hR.lt
            have hG := hG.call hbc
            clear hbc r0 r1 r2 r3
            by_cases hxl : x < X + W
            · have hxi : (x : Int) < (X : Int) + (W : Int) := by omega
              have b0 : (0 : Int) ≤ (y : Int) := by omega
              have b1 : (y : Int) < 16 := by omega
              have b2 : (0 : Int) ≤ (x : Int) := by omega
              have b3 : (x : Int) < 16 := by omega
              have hcell := hG.gr.cell (y * 16 + x) (by omega)
              have hfz := hG.gr.frozen (y * 16 + x)
              go_wp2_with fail
              go_roundg (X + W - (x + 1))
              case measure => omega
              case rel => exact ⟨x + 1, by omega, by omega, rfl, by go_num, hR.far (by simp; omega) _, (hG.set (y * 16 + x) true).congr (fun i _ => markG_set _ X Y W H y x i ⟨hx1, hxl⟩ ⟨hy1, hyl⟩ hXW)⟩
            · obtain rfl : x = X + W := by omega
              go_wp2_with fail
              go_roundg (Y + H - (y + 1))
              case measure => omega
              case rel => exact ⟨y + 1, by omega, by omega, rfl, by go_num, hR, hG.congr (fun i _ => markG_row _ X Y W H y i)⟩
        · obtain rfl : y = Y + H := by omega
          go_wp2_with fail
          go_roundg (n - (k + 1))
          case measure => omega
          case rel => exact ⟨k + 1, by omega, rfl, by go_num, hG.congr (fun i hi => mark_take L k r X Y W H Hr.out hI.out i hi)⟩
    · obtain rfl : k = n := by omega
      have hG := hG.congr (g' := gridOf L) (fun i _ => by rw [List.take_of_length_le (by rw [← Hn.out]; exact Nat.le_refl _)])
      go_wp2_with fail
      refine wp_load_grid (Operand.tmp 3) rfl (w.heap.size + 1) (gridOf L) ?_ hG.gr ?_
      · rfl
      have hgs := gCells_size (gridOf L)
      have s1 := storeCellsGrid hG.rs (gridOf L)
      go_wp2_with fail
      exact bodyPost_ret (v := .agg (gCells (gridOf L))) (results_cell_row rfl _ _ w.heap.size _ _ _ _ (by rfl) (hG.rs.row (g' := gridOf L)) Tryz.underlying177 rfl (sizeGrid _)) rfl ⟨rfl, below_setRow hG.bw (Nat.le_refl _) _⟩
end Go.Proofs.YtfolphadhmgbiaaGreat
namespace Go.Proofs.YtfolphadhmgbiaaGreat
open Go.RowKit
set_option maxHeartbeats 400000 in
set_option maxRecDepth 10000 in
theorem rowS (b : Nat) (g : Nat → Bool) (y z : Nat) (hy : y < 16) (hz : z < 16) (w : World) (hG : GrAt w b 4 g) :
    Calls Tryz.prog 168 #[.slice (some ⟨b, 0, none⟩) 256 256, .int .i64 y, .int .i64 z] w fun e w' => e = .returned (.bool (rowEq g y z)) ∧ ∃ q, w' = w.drewN q := by
  have HG := Lib.hid hG
  clear hG
  go_enter Tryz.func168, Tryz.ntmps168
  go_wp2_with fail
  go_loopw [7] (fun i wr => ∃ k : Nat, k ≤ 16 ∧ i = .int .i64 k ∧ (∀ j, j < k → g (y * 16 + j) = g (z * 16 + j)) ∧ ∃ q, wr = w.drewN q) (fun i _ => 16 - (intOf i).toNat)
  case atStart => exact ⟨0, Nat.zero_le _, rfl, fun j hj => by omega, 0, rfl⟩
  case round =>
    obtain ⟨k, hk, rfl, hall, q, rfl⟩ := hrel
    have Hall := Lib.hid hall
    clear hall
    by_cases hlt : k < 16
    · have c1 := HG.out.cell (y * 16 + k) (by omega)
      have c2 := HG.out.cell (z * 16 + k) (by omega)
      obtain ⟨p, hp⟩ : ∃ p, p = g (y * 16 + k) := ⟨_, rfl⟩
      obtain ⟨r, hr⟩ : ∃ r, r = g (z * 16 + k) := ⟨_, rfl⟩
      rw [← hp] at c1
      rw [← hr] at c2
      have b0 : (0 : Int) ≤ (y : Int) * 16 + (k : Int) := by omega
      have b1 : (y : Int) * 16 + (k : Int) < 256 := by omega
      have b2 : (0 : Int) ≤ (z : Int) * 16 + (k : Int) := by omega
      have b3 : (z : Int) * 16 + (k : Int) < 256 := by omega
      have Hp := Lib.hid hp
      have Hr := Lib.hid hr
      clear hp hr
      by_cases hpr : p = r
      · subst hpr
        go_wp2_with fail
        go_quiet (fail)
        go_wp2_with fail
        rename_i nq
        go_roundw
        case rel =>
          refine ⟨k + 1, by omega, by go_num, fun j hj => ?_, _, rfl⟩
          by_cases e : j < k
          · exact Hall.out j e
          · obtain rfl : j = k := by omega
            rw [← Hp.out, ← Hr.out]
        case measure => simp [intOf]; omega
      · have hb : (p == r) = false := by rw [beq_eq_false_iff_ne]; exact hpr
        have hne : rowEq g y z = false := by
          rcases he : rowEq g y z with _ | _
          · rfl
          · exact absurd ((rowEq_iff g y z).1 he k hlt) (by rw [← Hp.out, ← Hr.out]; exact hpr)
        have Hne := Lib.hid hne
        clear hne hpr
        go_wp2_with fail
        go_quiet (fail)
        go_wp2_with fail
        go_ret
        exact ⟨ret_bool Hne.out.symm, q + _, by first | rfl | exact World.drewN_drewN _ _ _⟩
    · obtain rfl : k = 16 := by omega
      have heq : rowEq g y z = true := (rowEq_iff g y z).2 Hall.out
      have Heq := Lib.hid heq
      clear heq
      go_wp2_with fail
      go_ret
      exact ⟨ret_bool Heq.out.symm, _, rfl⟩
end Go.Proofs.YtfolphadhmgbiaaGreat
namespace Go.Proofs.YtfolphadhmgbiaaGreat
theorem rowCnt_le (g : Nat → Bool) (y x : Nat) (hx : x ≤ 16) : rowCnt g y x ≤ 16 - (x : Int) ∧ 0 ≤ rowCnt g y x := by
  fun_induction rowCnt g y x with
  | case1 x h ih => have := ih (by omega); split <;> (push_cast at this; omega)
  | case2 x h => omega
theorem cntRows_le (g : Nat → Bool) (y : Nat) (hy : y ≤ 16) : cntRows g y ≤ 16 * (16 - (y : Int)) ∧ 0 ≤ cntRows g y := by
  fun_induction cntRows g y with
  | case1 y h ih => have := ih (by omega); have := rowCnt_le g y 0 (by omega); push_cast at this; omega
  | case2 y h => omega
theorem area_len (L : List Rc) (h : ∀ r ∈ L, OnScreen r) : (L.length : Int) ≤ areaL L := by
  induction L with
  | nil => simp [areaL]
  | cons r L ih =>
    have h1 := ih (fun s hs => h s (List.mem_cons_of_mem _ hs))
    have h2 := h r (List.mem_cons_self ..)
    unfold OnScreen at h2
    have h3 : 1 * 1 ≤ r.w * r.h := Int.mul_le_mul (by omega) (by omega) (by omega) (by omega)
    have h4 : areaL (r :: L) = r.w * r.h + areaL L := by simp [areaL]
    rw [h4, List.length_cons]
    push_cast
    omega
theorem canon_area (g : Nat → Bool) : areaL (canon g) = cntRows g 0 := area_bands g 0
theorem canon_len (g : Nat → Bool) : (canon g).length ≤ 256 := by
  have h1 := area_len (canon g) (bands_on g 0)
  have h2 := cntRows_le g 0 (by omega)
  rw [canon_area] at h1
  omega
theorem canon_part {g : Nat → Bool} {L M : List Rc} (h : canon g = L ++ M) : L.length ≤ 256 := by
  have := canon_len g
  rw [h, List.length_append] at this
  omega
theorem bands_open (g : Nat → Bool) (y h : Nat) (hy : y < 16) (hh : bandH g y = h) : bands g y = runs g y h 0 ++ bands g (y + h) := by
  rw [bands, if_pos hy, hh]
theorem bands_end (g : Nat → Bool) (y : Nat) (hy : 16 ≤ y) : bands g y = [] := by rw [bands, if_neg (by omega)]
theorem runs_open (g : Nat → Bool) (y h x u : Nat) (hx : x < 16) (hu : runW g y x = u) : runs g y h x = (if 0 < u then [⟨x, y, u, h⟩] else []) ++ runs g y h (x + u + 1) := by
  rw [runs, if_pos hx, hu]
theorem runs_end (g : Nat → Bool) (y h x : Nat) (hx : 16 ≤ x) : runs g y h x = [] := by rw [runs, if_neg (by omega)]
theorem bandFrom_go {g : Nat → Bool} {y h : Nat} (h1 : y + h < 16) (h2 : rowEq g y (y + h) = true) : bandFrom g y h = bandFrom g y (h + 1) := by
  conv => lhs; rw [bandFrom, if_pos ⟨h1, h2⟩]
theorem bandFrom_stop {g : Nat → Bool} {y h : Nat} (h1 : ¬ (y + h < 16 ∧ rowEq g y (y + h) = true)) : bandFrom g y h = h := by
  rw [bandFrom, if_neg h1]
theorem runFrom_go {g : Nat → Bool} {y x u : Nat} (h1 : x + u < 16) (h2 : g (y * 16 + (x + u)) = true) : runFrom g y x u = runFrom g y x (u + 1) := by
  conv => lhs; rw [runFrom, if_pos ⟨h1, h2⟩]
theorem runFrom_stop {g : Nat → Bool} {y x u : Nat} (h1 : ¬ (x + u < 16 ∧ g (y * 16 + (x + u)) = true)) : runFrom g y x u = u := by
  rw [runFrom, if_neg h1]
/-- The last rectangle of a list one place wider. -/
def bump : List Rc → List Rc
  | [] => []
  | [r] => [⟨r.x, r.y, r.w + 1, r.h⟩]
  | r :: s :: L => r :: bump (s :: L)
theorem bump_last (L : List Rc) (r : Rc) : bump (L ++ [r]) = L ++ [⟨r.x, r.y, r.w + 1, r.h⟩] := by
  induction L with
  | nil => rfl
  | cons s L ih =>
    cases L with
    | nil => rfl
    | cons t L => simp only [List.cons_append] at ih ⊢; rw [bump, ih]
/-- One place of a row, as a loop over the places takes it. -/
def stepI (g : Nat → Bool) (y h : Nat) (out : List Rc) (n : Nat) : List Rc :=
  if g (y * 16 + n) = true then (if n = 0 ∨ g (y * 16 + (n - 1)) = false then out ++ [⟨n, y, 1, h⟩] else bump out) else out
def iterI (g : Nat → Bool) (y h : Nat) (out : List Rc) (n : Nat) : List Rc := if n < 16 then iterI g y h (stepI g y h out n) (n + 1) else out
termination_by 16 - n
theorem iterI_go (g : Nat → Bool) (y h : Nat) (out : List Rc) (n : Nat) (hn : n < 16) : iterI g y h out n = iterI g y h (stepI g y h out n) (n + 1) := by
  conv => lhs; rw [iterI, if_pos hn]
theorem iterI_end (g : Nat → Bool) (y h : Nat) (out : List Rc) (n : Nat) (hn : 16 ≤ n) : iterI g y h out n = out := by rw [iterI, if_neg (by omega)]
theorem stepI_no {g : Nat → Bool} {y h n : Nat} {out : List Rc} (h1 : g (y * 16 + n) = false) : stepI g y h out n = out := by
  unfold stepI; rw [if_neg (by rw [h1]; simp)]
theorem stepI_new {g : Nat → Bool} {y h n : Nat} {out : List Rc} (h1 : g (y * 16 + n) = true) (h2 : n = 0 ∨ g (y * 16 + (n - 1)) = false) : stepI g y h out n = out ++ [⟨n, y, 1, h⟩] := by
  unfold stepI; rw [if_pos h1, if_pos h2]
theorem stepI_more {g : Nat → Bool} {y h n : Nat} {out : List Rc} (h1 : g (y * 16 + n) = true) (h2 : ¬ (n = 0 ∨ g (y * 16 + (n - 1)) = false)) : stepI g y h out n = bump out := by
  unfold stepI; rw [if_pos h1, if_neg h2]
/-- Within a run. -/
theorem iterI_run (g : Nat → Bool) (y h x w : Nat) (out : List Rc) (hx : x + w ≤ 16) (hg : ∀ p, x ≤ p → p < x + w → g (y * 16 + p) = true) (j : Nat) (h1 : 1 ≤ j) (h2 : j ≤ w) :
    iterI g y h (out ++ [⟨x, y, j, h⟩]) (x + j) = iterI g y h (out ++ [⟨x, y, w, h⟩]) (x + w) := by
  obtain ⟨d, hd⟩ : ∃ d, d = w - j := ⟨_, rfl⟩
  induction d generalizing j with
  | zero => obtain rfl : j = w := by omega
            rfl
  | succ d ih =>
    rw [iterI_go _ _ _ _ _ (by omega), stepI_more (hg _ (by omega) (by omega)), bump_last]
    · have := ih (j + 1) (by omega) (by omega) (by omega)
      push_cast at this
      exact this
    · rintro (h3 | h3)
      · omega
      · rw [hg _ (by omega) (by omega)] at h3; cases h3
theorem iterI_runs (g : Nat → Bool) (y h x : Nat) (out : List Rc) (hx : x = 0 ∨ x ≤ 16 ∧ g (y * 16 + (x - 1)) = false ∨ 16 < x) : iterI g y h out x = out ++ runs g y h x := by
  fun_induction runs g y h x generalizing out with
  | case1 x hlt ih =>
    have ht := runW_top g y x (by omega)
    have hin := fun p h1 h2 => runW_in g y x p h1 h2
    have hout := runW_out g y x
    obtain ⟨w, hw⟩ : ∃ w, w = runW g y x := ⟨_, rfl⟩
    rw [← hw] at ih ht hin hout ⊢
    have hafter : ∀ o : List Rc, iterI g y h o (x + w) = iterI g y h o (x + w + 1) := fun o => by
      by_cases h16 : x + w < 16
      · rw [iterI_go _ _ _ _ _ h16, stepI_no (hout h16)]
      · rw [iterI_end _ _ _ _ _ (by omega), iterI_end _ _ _ _ _ (by omega)]
    have hrest : ∀ o : List Rc, iterI g y h o (x + w + 1) = o ++ runs g y h (x + w + 1) := fun o => ih o (by
      by_cases h16 : x + w < 16
      · exact .inr (.inl ⟨by omega, by rw [show x + w + 1 - 1 = x + w by omega]; exact hout h16⟩)
      · exact .inr (.inr (by omega)))
    by_cases h0 : 0 < w
    · rw [if_pos h0, iterI_go _ _ _ _ _ hlt, stepI_new (hin x (by omega) (by omega)) (by
        rcases hx with hx | hx | hx
        · exact .inl hx
        · exact .inr hx.2
        · omega)]
      have := iterI_run g y h x w out ht hin 1 (by omega) (by omega)
      push_cast at this
      rw [this, hafter, hrest, List.append_assoc]
    · obtain rfl : w = 0 := by omega
      rw [if_neg (by omega), List.nil_append]
      have := hafter out
      simp only [Nat.add_zero] at this hrest ⊢
      rw [this, hrest]
  | case2 x hlt => rw [iterI_end _ _ _ _ _ (by omega), List.append_nil]
theorem iterI_all (g : Nat → Bool) (y h : Nat) : iterI g y h [] 0 = runs g y h 0 := by rw [iterI_runs g y h 0 [] (.inl rfl), List.nil_append]
end Go.Proofs.YtfolphadhmgbiaaGreat
namespace Go.Proofs.YtfolphadhmgbiaaGreat
open Go.RowKit
theorem infoRect : (Tryz.prog.info? 92).map (fun i => (i.zero, i.size, i.bytes)) = some (some (.agg #[.int .i64 0, .int .i64 0, .int .i64 0, .int .i64 0]), 4, 32) := by kernel_rfl
theorem rowS' (b : Nat) (g : Nat → Bool) (y z : Nat) (zi : Int) (hzi : zi = (z : Int)) (hy : y < 16) (hz : z < 16) (w : World) (hG : GrAt w b 4 g) :
    Calls Tryz.prog 168 #[.slice (some ⟨b, 0, none⟩) 256 256, .int .i64 y, .int .i64 zi] w fun e w' => e = .returned (.bool (rowEq g y z)) ∧ ∃ q, w' = w.drewN q := by
  subst hzi
  exact rowS b g y z hy hz w hG
/-- What l03Canon answers. -/
def CanAns (g : Nat → Bool) (w : World) (e : Ending) (w' : World) : Prop :=
  ∃ v, e = .returned (.agg #[v]) ∧ w'.ownsRow w.heap.size 92 4 v (canon g).length (rcsCells (canon g)) ∧ Below w.heap.size w w'
/-- The memory in the loops of l03Canon. -/
structure CaSt (w : World) (b : Nat) (g : Nat → Bool) (v : Value) (L : List Rc) (wr : World) : Prop where
  rs : wr.heap[w.heap.size]? = some (.cells #[.slice none 0 0] 41 (0, 0))
  out : wr.heap[w.heap.size + 1]? = some (.cells #[v] 41 (0, 0))
  own : wr.ownsRow (w.heap.size + 2) 92 4 v L.length (rcsCells L)
  gr : GrAt wr b 4 g
  bl : b < w.heap.size
  bw : Below w.heap.size w wr
theorem CaSt.drewN {w wr : World} {b : Nat} {g : Nat → Bool} {v : Value} {L : List Rc} (h : CaSt w b g v L wr) (q : Nat) : CaSt w b g v L (wr.drewN q) :=
  ⟨h.rs, h.out, own_drewN h.own q, h.gr.drewN q, h.bl, below_drewN h.bw q⟩
theorem CaSt.size {w wr : World} {b : Nat} {g : Nat → Bool} {v : Value} {L : List Rc} (h : CaSt w b g v L wr) : w.heap.size + 1 < wr.heap.size := (Array.getElem?_eq_some_iff.1 h.out).1
theorem CaSt.cell {w wr : World} {b : Nat} {g : Nat → Bool} {v : Value} {L : List Rc} (h : CaSt w b g v L wr) : wr.cell? ⟨w.heap.size + 1, 0, none⟩ = some v := by
  have := h.out; simp [World.cell?, this]
theorem CaSt.frozen {w wr : World} {b : Nat} {g : Nat → Bool} {v : Value} {L : List Rc} (h : CaSt w b g v L wr) : wr.frozen? ⟨w.heap.size + 1, 0, none⟩ = false := by
  have := h.out; simp [World.frozen?, this]
theorem CaSt.rcell {w wr : World} {b : Nat} {g : Nat → Bool} {v : Value} {L : List Rc} (h : CaSt w b g v L wr) : wr.cell? ⟨w.heap.size, 0, none⟩ = some (.slice none 0 0) := by
  have := h.rs; simp [World.cell?, this]
theorem CaSt.rfrozen {w wr : World} {b : Nat} {g : Nat → Bool} {v : Value} {L : List Rc} (h : CaSt w b g v L wr) : wr.frozen? ⟨w.heap.size, 0, none⟩ = false := by
  have := h.rs; simp [World.frozen?, this]
theorem grown_setc (w : World) (g o : Nat) (v : Value) : w.grownBy (w.setCell ⟨g, o, none⟩ v) (some g) :=
  ⟨rfl, rfl, rfl, by simp [World.setCell], fun k hk hne => Below.heap_setCell w _ v k (by simpa using hne)⟩
theorem heap_set0 {w : World} {g : Nat} {s : Value} {T : TypeId} (hg : w.heap[g]? = some (.cells #[s] T (0, 0))) (v : Value) :
    (w.setCell ⟨g, 0, none⟩ v).heap[g]? = some (.cells #[v] T (0, 0)) := by rw [heap_setCell_same w g 0 _ T v hg]; rfl
theorem CaSt.next {w wr w2 : World} {b : Nat} {g : Nat → Bool} {v v' : Value} {L : List Rc} {o : Obj} (h : CaSt w b g v L wr) (r : Rc)
    (hown : w2.ownsRow (w.heap.size + 2) 92 4 v' (L.length + 1) (rcsCells L ++ rcCells r)) (hgr : (wr.alloc o).grownBy w2 v.ownBlock) :
    CaSt w b g v' (L ++ [r]) (w2.setCell ⟨w.heap.size + 1, 0, none⟩ v') := by
  have hlow : ∀ k, k < w.heap.size + 2 → some k ≠ v.ownBlock := fun k hk e => by have := (h.own.lt k e.symm).1; omega
  have hs := h.size
  have hk : ∀ k, k < w.heap.size + 2 → w2.heap[k]? = wr.heap[k]? := fun k hk => (hgr.block k (by simp; omega) (hlow k hk)).trans (Below.heap_alloc wr o k (by omega))
  refine ⟨?_, heap_set0 ((hk _ (by omega)).trans h.out) v', ?_, ?_, h.bl, ?_⟩
  · exact (Below.heap_setCell w2 _ v' _ (by simp)).trans ((hk _ (by omega)).trans h.rs)
  · have := hown.kept (row := some (w.heap.size + 1)) (w' := w2.setCell ⟨w.heap.size + 1, 0, none⟩ v') (grown_setc w2 _ _ v') (by
      by_cases hv : v'.ownBlock = none
      · exact .inl hv
      · refine .inr fun e => ?_
        have := (hown.lt _ e).1
        omega)
    rw [List.length_append, rcsCells_append, rcsCells_one]
    exact this
  · exact (Below.heap_setCell w2 _ v' _ (by have := h.bl; simp; omega)).trans ((hk _ (by have := h.bl; omega)).trans h.gr)
  · exact ((h.bw.alloc h.bw.size o).grown hgr (by have := h.bw.size; simp; omega) (fun k hk => by have := (h.own.lt k hk).1; omega)).setCell (by simp) _
theorem CaSt.form {w wr : World} {b : Nat} {g : Nat → Bool} {v : Value} {L : List Rc} (h : CaSt w b g v L wr) : ∃ A n c, v = .slice A n c := by
  obtain ⟨A, c, rfl⟩ := (RdR.of_own h.own).form
  exact ⟨A, _, c, rfl⟩
theorem CaSt.mid {w wr w2 : World} {b : Nat} {g : Nat → Bool} {v : Value} {L : List Rc} {o : Obj} (h : CaSt w b g v L wr) (hgr : (wr.alloc o).grownBy w2 v.ownBlock) :
    w2.cell? ⟨w.heap.size + 1, 0, none⟩ = some v ∧ w2.frozen? ⟨w.heap.size + 1, 0, none⟩ = false := by
  have hs := h.size
  have hk : w2.heap[w.heap.size + 1]? = wr.heap[w.heap.size + 1]? := (hgr.block _ (by simp; omega) (fun e => by have := (h.own.lt _ e.symm).1; omega)).trans (Below.heap_alloc wr o _ (by omega))
  have := hk.trans h.out
  exact ⟨by simp [World.cell?, this], by simp [World.frozen?, this]⟩
set_option maxHeartbeats 2000000 in
set_option maxRecDepth 10000 in
theorem canS (b : Nat) (g : Nat → Bool) (w : World) (hG : GrAt w b 4 g) : Calls Tryz.prog 119 #[.slice (some ⟨b, 0, none⟩) 256 256] w (CanAns g w) := by
  have hbl := hG.lt
  obtain ⟨i0, hi, hz0, hz1, hz2⟩ := info_parts infoRect
  have hS0 : CaSt w b g (.slice none 0 0) [] ((w.alloc (.cells #[.slice none 0 0] 41)).alloc (.cells #[.slice none 0 0] 41)) :=
    ⟨(Below.heap_alloc _ _ _ (by simp)).trans (heap_alloc_new w _), by have := heap_alloc_new (w.alloc (.cells #[.slice none 0 0] 41)) (.cells #[.slice none 0 0] 41); simpa using this,
      World.ownsRow_nil _ _ _ _, (hG.alloc _).alloc _, hbl, ((Below.refl _ _).alloc (Nat.le_refl _) _).alloc (by simp) _⟩
  clear hG
  go_enter Tryz.func119, Tryz.ntmps119
  go_wp2_with fail
  go_loopg [4] 16 (fun gk i wr => ∃ (y : Nat) (v : Value) (L : List Rc), y ≤ 16 ∧ gk = 16 - y ∧ i = .int .i64 y ∧ Hid (canon g = L ++ bands g y) ∧ CaSt w b g v L wr)
  case atStart => exact ⟨0, _, [], Nat.zero_le _, rfl, rfl, Lib.hid rfl, hS0⟩
  case round =>
    clear hS0
    obtain ⟨y, v, L, hy, rfl, rfl, hB, hS⟩ := hrel
    by_cases hy16 : y < 16
    · have hy16i : (y : Int) < 16 := by omega
      go_wp2_with fail
      go_loopg [5] 15 (fun g2 i2 wy => ∃ h : Nat, 1 ≤ h ∧ y + h ≤ 16 ∧ g2 = 16 - h ∧ i2 = .int .i64 h ∧ Hid (bandFrom g y h = bandH g y) ∧ CaSt w b g v L wy)
      case atStart => exact ⟨1, Nat.le_refl _, by omega, by omega, rfl, Lib.hid rfl, hS⟩
      case round =>
        clear hS
        obtain ⟨h, hh1, hh2, rfl, rfl, hH, hS⟩ := hrel
        by_cases hc : y + h < 16 ∧ rowEq g y (y + h) = true
        · have hyh := hc.1
          have hyi : (y : Int) + (h : Int) < 16 := by omega
          have Hre := Lib.hid hc.2
          clear hc
          go_wp2_with fail
          refine (rowS' b g y (y + h) _ (by omega) (by omega) (by omega) _ hS.gr).mono ?_
          rintro e w1 ⟨rfl, q, rfl⟩
          rw [Hre.out]
          go_wp2_with fail
          go_roundg (16 - (h + 1))
          case measure => omega
          case rel => exact ⟨h + 1, by omega, by omega, rfl, by go_num, Lib.hid ((bandFrom_go hyh Hre.out).symm.trans hH.out), hS.drewN q⟩
        · have hB2 : Hid (canon g = L ++ (runs g y h 0 ++ bands g (y + h))) := Lib.hid (by rw [hB.out, bands_open g y h hy16 (hH.out.symm.trans (bandFrom_stop hc))])
          have Hc := Lib.hid hc
          clear hc hB hH
          (by_cases hyh : y + h < 16)
          (have hyi : (y : Int) + (h : Int) < 16 := by omega
           have hre : rowEq g y (y + h) = false := by
            rcases e : rowEq g y (y + h) with _ | _
            · rfl
            · exact absurd ⟨hyh, e⟩ Hc.out
           have Hre := Lib.hid hre
           clear hre
           go_wp2_with fail
           refine (rowS' b g y (y + h) _ (by omega) (by omega) (by omega) _ hS.gr).mono ?_
           rintro e w1 ⟨rfl, q, rfl⟩
           rw [Hre.out]
           have hS := hS.drewN q
           clear hyi
           go_wp2_with fail)
          rotate_left
          (have hyi : ¬ (y : Int) + (h : Int) < 16 := by omega
           go_wp2_with fail)
          all_goals
            go_loopg [6] 17 (fun g3 i3 wx => ∃ (x : Nat) (v : Value) (L : List Rc), x ≤ 17 ∧ g3 = 17 - x ∧ i3 = .int .i64 x ∧ Hid (canon g = L ++ (runs g y h x ++ bands g (y + h))) ∧ CaSt w b g v L wx)
            case atStart => exact ⟨0, v, L, by omega, rfl, rfl, hB2, hS⟩
            case round =>
              clear hS hB2
              obtain ⟨x, v, L, hx, rfl, rfl, hB3, hS⟩ := hrel
              by_cases hx16 : x < 16
              · have hxi : (x : Int) < 16 := by omega
                go_wp2_with fail
                go_loopg [7] 16 (fun g4 i4 wu => ∃ u : Nat, x + u ≤ 16 ∧ g4 = 16 - u ∧ i4 = .int .i64 u ∧ Hid (runFrom g y x u = runW g y x) ∧ CaSt w b g v L wu)
                case atStart => exact ⟨0, by omega, rfl, rfl, Lib.hid rfl, hS⟩
                case round =>
                  clear hS
                  obtain ⟨u, hu1, rfl, rfl, hU, hS⟩ := hrel
                  by_cases hc : x + u < 16 ∧ g (y * 16 + (x + u)) = true
                  · have hxui : (x : Int) + (u : Int) < 16 := by omega
                    have b0 : (0 : Int) ≤ (y : Int) * 16 + (x : Int) + (u : Int) := by omega
                    have b1 : (y : Int) * 16 + (x : Int) + (u : Int) < 256 := by omega
                    have hcell := hS.gr.cell (y * 16 + x + u) (by omega)
                    rw [show g (y * 16 + x + u) = true by rw [Nat.add_assoc]; exact hc.2] at hcell
                    have Hc := Lib.hid hc
                    clear hc
                    go_wp2_with fail
                    go_roundg (16 - (u + 1))
                    case measure => omega
                    case rel => exact ⟨u + 1, by omega, rfl, by go_num, Lib.hid ((runFrom_go Hc.out.1 Hc.out.2).symm.trans hU.out), hS⟩
                  · have hB4 : Hid (canon g = L ++ (((if 0 < u then [⟨x, y, u, h⟩] else []) ++ runs g y h (x + u + 1)) ++ bands g (y + h))) :=
                      Lib.hid (by rw [hB3.out, runs_open g y h x u hx16 (hU.out.symm.trans (runFrom_stop hc))])
                    have hLl : L.length ≤ 256 := canon_part hB4.out
                    have Hc := Lib.hid hc
                    have oc := hS.cell
                    have of := hS.frozen
                    clear hc hB3 hU
                    by_cases hu0 : 0 < u
                    · rw [if_pos hu0] at hB4
                      have hu0i : (0 : Int) < (u : Int) := by omega
                      (by_cases hxu : x + u < 16)
                      (have hxui : (x : Int) + (u : Int) < 16 := by omega
                       have b0 : (0 : Int) ≤ (y : Int) * 16 + (x : Int) + (u : Int) := by omega
                       have b1 : (y : Int) * 16 + (x : Int) + (u : Int) < 256 := by omega
                       have hcell := hS.gr.cell (y * 16 + x + u) (by omega)
                       rw [show g (y * 16 + x + u) = false by
                        rw [Nat.add_assoc]
                        rcases e : g (y * 16 + (x + u)) with _ | _
                        · rfl
                        · exact absurd ⟨hxu, e⟩ Hc.out] at hcell)
                      rotate_left
                      (have hxui : ¬ (x : Int) + (u : Int) < 16 := by omega)
                      all_goals
                        go_wp2_with (at_builtin; refine wpList_append_own _ rfl _ _ 39 rfl (w.heap.size + 2) 92 i0 (.agg #[.int .i64 0, .int .i64 0, .int .i64 0, .int .i64 0]) 4 32 Tryz.underlying39 hi hz0 hz1 hz2 rfl (by decide) _ _ _ rfl (hS.own.alloc _) ⟨_, 0, none⟩ 1 1 _ rfl rfl (World.news_of_block (cs := #[.int .i64 x, .int .i64 y, .int .i64 u, .int .i64 h]) (fr := (0, 0)) (heap_alloc_new _ _)) (by intro u' hu'; simp at hu'; rcases hu' with rfl | rfl | rfl | rfl <;> rfl) (by unfold maxLen; omega) (by omega) (by have := hS.size; simp; omega) ?_)
                        intro v2 w2 hown2 hgrow _
                        obtain ⟨gq, cq, hvq, _, _⟩ := hown2.form (by omega)
                        subst hvq
                        obtain ⟨oc2, of2⟩ := hS.mid hgrow
                        have hS := hS.next ⟨x, y, u, h⟩ hown2 hgrow
                        clear hown2 hgrow oc of
                        go_wp2_with fail
                        go_roundg (17 - (x + u + 1))
                        case measure => omega
                        case rel => exact ⟨x + u + 1, _, L ++ [⟨x, y, u, h⟩], by omega, rfl, by go_num, Lib.hid (by rw [hB4.out]; simp only [List.append_assoc]), hS⟩
                    · obtain rfl : u = 0 := by omega
                      rw [if_neg (by omega), List.nil_append] at hB4
                      have b0 : (0 : Int) ≤ (y : Int) * 16 + (x : Int) := by omega
                      have b1 : (y : Int) * 16 + (x : Int) < 256 := by omega
                      have hcell := hS.gr.cell (y * 16 + x) (by omega)
                      rw [show g (y * 16 + x) = false by
                        rcases e : g (y * 16 + x) with _ | _
                        · rfl
                        · exact absurd ⟨hx16, e⟩ Hc.out] at hcell
                      go_wp2_with fail
                      go_roundg (17 - (x + 0 + 1))
                      case measure => omega
                      case rel => exact ⟨x + 0 + 1, v, L, by omega, rfl, by go_num, hB4, hS⟩
              · have hxi : ¬ (x : Int) < 16 := by omega
                go_wp2_with fail
                go_roundg (16 - (y + h))
                case measure => omega
                case rel => exact ⟨y + h, v, L, by omega, rfl, by go_num, Lib.hid (by rw [hB3.out, runs_end g y h x (by omega), List.nil_append]), hS⟩
    · obtain ⟨A, nv, cv, rfl⟩ := hS.form
      have hy16i : ¬ (y : Int) < 16 := by omega
      have hB2 : L = canon g := by rw [hB.out, bands_end g y (by omega), List.append_nil]
      have oc := hS.cell
      have of := hS.frozen
      have rc := hS.rcell
      have rf := hS.rfrozen
      have hsz := hS.size
      go_wp2_with fail
      exact bodyPost_ret (v := .agg #[.slice A nv cv]) (by simp [results, Tryz.results119, go_sem, rc]) rfl ⟨_, rfl, by
        have h1 := (hS.own.mono (show w.heap.size ≤ w.heap.size + 2 by omega)).kept (row := some w.heap.size) (grown_setc wr _ 0 (.slice A nv cv)) (by
          by_cases hv : (Value.slice A nv cv).ownBlock = none
          · exact .inl hv
          · refine .inr fun e => ?_
            have := (hS.own.lt _ e).1
            omega)
        rw [hB2] at h1
        exact h1, hS.bw.setCell (Nat.le_refl _) _⟩
end Go.Proofs.YtfolphadhmgbiaaGreat
namespace Go.Proofs.YtfolphadhmgbiaaGreat
open Go.RowKit
def rowCells0 (g : Nat → Bool) (y : Nat) : Array Value := Array.ofFn (n := 16) fun i => .bool (g (y * 16 + i.val))
theorem rowCells_ex (g : Nat → Bool) (y : Nat) : ∃ c : Array Value, c = rowCells0 g y := ⟨_, rfl⟩
/-- The cells of row y of a grid. -/
noncomputable def rowCells (g : Nat → Bool) (y : Nat) : Array Value := Classical.choose (rowCells_ex g y)
theorem rowCells_eq (g : Nat → Bool) (y : Nat) : rowCells g y = rowCells0 g y := Classical.choose_spec (rowCells_ex g y)
theorem rowCells_size (g : Nat → Bool) (y : Nat) : (rowCells g y).size = 16 := by rw [rowCells_eq]; simp [rowCells0]
theorem rowCells_get (g : Nat → Bool) (y k : Nat) (h : k < 16) : (rowCells g y)[k]? = some (.bool (g (y * 16 + k))) := by rw [rowCells_eq]; simp [rowCells0, h]
theorem GrAt.row_at {w : World} {b : Nat} {t : TypeId} {g : Nat → Bool} (h : GrAt w b t g) (y : Nat) (hy : y < 16) : w.rangeAt b (y * 16) (rowCells g y).toList := fun j v hv => by
  have hj : j < 16 := by have := (List.getElem?_eq_some_iff.1 hv).1; rw [Array.length_toList, rowCells_size] at this; exact this
  rw [Array.getElem?_toList, rowCells_get g y j hj] at hv
  rw [h.cell (y * 16 + j) (by omega), hv]
theorem infoRow : (Tryz.prog.info? 175).map (·.size) = some 16 := by kernel_rfl
/-- The load of a row out of the grid. -/
theorem wp_load_gridrow {op : Oper} {a : Act} {w : World} {K : Act → World → Prop} {Q : Exit → Act → World → Prop} (x : Operand) (ho : op.op = .load 175 x)
    (b y : Nat) (g : Nat → Bool) (t : TypeId) (hy : y < 16) (hx : a.eval x = .pointer (some ⟨b, y * 16, none⟩)) (hG : GrAt w b t g)
    (h : K (a.put op.dst (.agg (rowCells g y))) w) : op.wp Tryz.prog a w K Q :=
  wp_load_mid 175 x ho b (y * 16) hx (rowCells g y).toList _ (hG.row_at y hy) Tryz.underlying175 rfl (by rw [Array.length_toList, rowCells_size]; exact infoRow) (by simpa using h)
/-- A block that holds a row. -/
def RowAt (w : World) (b : Nat) (g : Nat → Bool) (y : Nat) : Prop := w.heap[b]? = some (.cells (rowCells g y) 175 (0, 0))
theorem RowAt.lt {w : World} {b y : Nat} {g : Nat → Bool} (h : RowAt w b g y) : b < w.heap.size := (Array.getElem?_eq_some_iff.1 h).1
theorem RowAt.cell {w : World} {b y : Nat} {g : Nat → Bool} (h : RowAt w b g y) (k : Nat) (hk : k < 16) : w.cell? ⟨b, k, none⟩ = some (.bool (g (y * 16 + k))) := by
  rw [cell_of_row w b k _ _ _ h, rowCells_get g y k hk]
theorem index_row (g : Nat → Bool) (y k : Nat) (hk : k < 16) (w : World) : (Instr.index 175 (.agg (rowCells g y)) (.int .i64 (k : Int))).run Tryz.prog w = .ok (.bool (g (y * 16 + k))) w := by
  have hn : 0 ≤ (k : Int) ∧ (k : Int) < ((16 : Nat) : Int) := by omega
  have hg := rowCells_get g y k hk
  simp [Instr.index, run_underlying Tryz.underlying175, asIntOf, hn, go_sem, hg]
  intro h16
  omega
/-- Between two rounds. -/
structure RunInv (g : Nat → Bool) (y h : Nat) (out : List Rc) (k : Nat) : Prop where
  it : iterI g y h out k = runs g y h 0
  wd : ∀ r ∈ out, 0 ≤ r.w ∧ r.w ≤ k
  ne : 0 < k → g (y * 16 + (k - 1)) = true → out ≠ []
  ln : out.length ≤ k
theorem RunInv.start (g : Nat → Bool) (y h : Nat) : RunInv g y h [] 0 := ⟨iterI_all g y h, fun r hr => (by cases hr), fun h0 => (by omega), Nat.le_refl _⟩
theorem RunInv.no {g : Nat → Bool} {y h k : Nat} {out : List Rc} (i : RunInv g y h out k) (hk : k < 16) (hg : g (y * 16 + k) = false) : RunInv g y h out (k + 1) := by
  refine ⟨by rw [← i.it, iterI_go _ _ _ _ _ hk, stepI_no hg], fun r hr => ?_, fun _ h1 => ?_, ?_⟩
  · have := i.wd r hr; push_cast; omega
  · rw [show k + 1 - 1 = k by omega, hg] at h1; cases h1
  · have := i.ln; omega
theorem RunInv.new {g : Nat → Bool} {y h k : Nat} {out : List Rc} (i : RunInv g y h out k) (hk : k < 16) (hg : g (y * 16 + k) = true) (hp : k = 0 ∨ g (y * 16 + (k - 1)) = false) : RunInv g y h (out ++ [⟨k, y, 0 + 1, h⟩]) (k + 1) := by
  refine ⟨by rw [← i.it, iterI_go _ _ _ _ _ hk, stepI_new hg hp]; rfl, fun r hr => ?_, fun _ _ => by simp, ?_⟩
  · rcases List.mem_append.1 hr with hr | hr
    · have := i.wd r hr; push_cast; omega
    · obtain rfl := List.mem_singleton.1 hr
      show (0 : Int) ≤ 0 + 1 ∧ (0 : Int) + 1 ≤ ((k + 1 : Nat) : Int)
      constructor <;> omega
  · have := i.ln; rw [List.length_append, List.length_singleton]; omega
theorem RunInv.more {g : Nat → Bool} {y h k : Nat} {out : List Rc} (i : RunInv g y h out k) (hk : k < 16) (hg : g (y * 16 + k) = true) (h0 : 0 < k) (hp : g (y * 16 + (k - 1)) = true) :
    ∃ (o : List Rc) (r : Rc), out = o ++ [r] ∧ 0 ≤ r.w ∧ r.w ≤ k ∧ RunInv g y h (o ++ [⟨r.x, r.y, r.w + 1, r.h⟩]) (k + 1) := by
  have hne := i.ne h0 hp
  have hw := i.wd (out.getLast hne) (List.getLast_mem hne)
  have e := (List.dropLast_concat_getLast hne).symm
  refine ⟨out.dropLast, out.getLast hne, e, hw.1, hw.2, ?_, fun r hr => ?_, fun _ _ => by simp, ?_⟩
  · rw [← i.it, iterI_go _ _ _ _ _ hk, stepI_more hg (fun hx => hx.elim (fun h1 => by omega) (fun h1 => by rw [hp] at h1; cases h1))]
    conv => rhs; rw [e]
    rw [bump_last]
  · rcases List.mem_append.1 hr with hr | hr
    · have := i.wd r ((List.dropLast_sublist out).subset hr); push_cast; omega
    · obtain rfl := List.mem_singleton.1 hr
      show (0 : Int) ≤ (out.getLast hne).w + 1 ∧ (out.getLast hne).w + 1 ≤ ((k + 1 : Nat) : Int)
      constructor <;> omega
  · have := i.ln
    have h2 := congrArg List.length e
    rw [List.length_append] at h2 ⊢
    simp only [List.length_singleton] at h2 ⊢
    omega
theorem RunInv.done {g : Nat → Bool} {y h k : Nat} {out : List Rc} (i : RunInv g y h out k) (hk : 16 ≤ k) : out = runs g y h 0 := by rw [← i.it, iterI_end _ _ _ _ _ hk]
/-- A list's cells, the last rectangle one place wider. -/
theorem rcs_bump (o : List Rc) (r : Rc) : (rcsCells (o ++ [r])).set (o.length * 4 + 2) (.int .i64 (r.w + 1)) = rcsCells (o ++ [⟨r.x, r.y, r.w + 1, r.h⟩]) := by
  rw [rcsCells_append, rcsCells_append, rcsCells_one, rcsCells_one, List.set_append_right _ _ (by rw [rcsCells_length]; omega), rcsCells_length]
  congr 1
  rw [show o.length * 4 + 2 - o.length * 4 = 2 by omega]
  rfl
theorem rcs_last (o : List Rc) (r : Rc) : (rcsCells (o ++ [r]))[o.length * 4 + 2]? = some (.int .i64 r.w) := by
  rw [rcs_get (o ++ [r]) o.length 2 r (by simp) (by omega)]
  rfl
end Go.Proofs.YtfolphadhmgbiaaGreat
namespace Go.Proofs.YtfolphadhmgbiaaGreat
open Go.RowKit
/-- What runsOf answers. -/
def RunAns (g : Nat → Bool) (y h : Nat) (w : World) (e : Ending) (w' : World) : Prop :=
  ∃ v, e = .returned v ∧ w'.ownsRow w.heap.size 92 4 v (runs g y h 0).length (rcsCells (runs g y h 0)) ∧ Below w.heap.size w w'
/-- The memory in the loop of runsOf. -/
structure RnSt (w : World) (g : Nat → Bool) (y : Nat) (v : Value) (L : List Rc) (wr : World) : Prop where
  rw : RowAt wr w.heap.size g y
  own : wr.ownsRow (w.heap.size + 1) 92 4 v L.length (rcsCells L)
  bw : Below w.heap.size w wr
theorem RnSt.grown {w wr w2 : World} {y : Nat} {g : Nat → Bool} {v v' : Value} {L L' : List Rc} (h : RnSt w g y v L wr)
    (hown : w2.ownsRow (w.heap.size + 1) 92 4 v' L'.length (rcsCells L')) (hgr : wr.grownBy w2 v.ownBlock) : RnSt w g y v' L' w2 :=
  ⟨(hgr.block _ h.rw.lt (fun e => by have := (h.own.lt _ e.symm).1; omega)).trans h.rw, hown, h.bw.grown hgr h.bw.size (fun k hk => by have := (h.own.lt k hk).1; omega)⟩
theorem RnSt.bumped {w wx : World} {y : Nat} {g : Nat → Bool} {gq cq m : Nat} {o : List Rc} {r : Rc} (hm : m = o.length) (hrow : RowAt wx w.heap.size g y) (hbw : Below w.heap.size w wx)
    (hown : wx.ownsRow (w.heap.size + 1) 92 4 (.slice (some ⟨gq, 0, none⟩) (m + 1) cq) (m + 1) (rcsCells (o ++ [r]))) :
    RnSt w g y (.slice (some ⟨gq, 0, none⟩) (m + 1) cq) (o ++ [⟨r.x, r.y, r.w + 1, r.h⟩]) (wx.setCell ⟨gq, m * 4 + 2, none⟩ (.int .i64 (r.w + 1))) := by
  subst hm
  obtain ⟨h1, h2⟩ := hown.stored (o.length * 4 + 2) (.int .i64 (r.w + 1))
  rw [rcs_bump] at h1
  have hg := (hown.lt gq rfl).1
  refine ⟨(Below.heap_setCell wx _ _ _ (by simp; omega)).trans hrow, ?_, hbw.setCell (by simp; omega) _⟩
  rw [List.length_append, List.length_singleton]
  exact h1
theorem own_last {w wx : World} {gq cq m : Nat} {o : List Rc} {r : Rc} (hm : m = o.length)
    (hown : wx.ownsRow (w.heap.size + 1) 92 4 (.slice (some ⟨gq, 0, none⟩) (m + 1) cq) (m + 1) (rcsCells (o ++ [r]))) :
    wx.cell? ⟨gq, m * 4 + 2, none⟩ = some (.int .i64 r.w) ∧ wx.frozen? ⟨gq, m * 4 + 2, none⟩ = false := by
  subst hm
  exact ⟨(hown.cellAt (o.length * 4 + 2) (by omega)).trans (rcs_last o r), hown.frozenAt _⟩
set_option maxHeartbeats 2000000 in
set_option maxRecDepth 10000 in
theorem runI (g : Nat → Bool) (y h : Nat) (w : World) : Calls Tryz.prog 191 #[.agg (rowCells g y), .int .i64 y, .int .i64 h] w (RunAns g y h w) := by
  obtain ⟨i0, hi, hz0, hz1, hz2⟩ := info_parts infoRect
  have hS0 : RnSt w g y (.slice none 0 0) [] (w.alloc (.cells (rowCells g y) 175)) := ⟨heap_alloc_new w _, World.ownsRow_nil _ _ _ _, (Below.refl _ _).alloc (Nat.le_refl _) _⟩
  go_enter Tryz.func191, Tryz.ntmps191
  go_wp2_with (refine wpList_load_row rfl 175 (.tmp 3) rfl w.heap.size rfl _ _ _ _ hS0.rw Tryz.underlying175 rfl (by rw [rowCells_size]; exact infoRow) ?_)
  go_loopg [7, 11] 16 (fun gk s7 i wr => ∃ (k : Nat) (v : Value) (L : List Rc), k ≤ 16 ∧ gk = 16 - k ∧ s7 = v ∧ i = .int .i64 k ∧ Hid (RunInv g y h L k) ∧ RnSt w g y v L wr)
  case atStart => exact ⟨0, _, [], Nat.zero_le _, rfl, rfl, rfl, Lib.hid (RunInv.start g y h), hS0⟩
  case round =>
    clear hS0
    obtain ⟨k, v, L, hk, rfl, rfl, rfl, hI, hS⟩ := hrel
    by_cases hk16 : k < 16
    · have hki : (k : Int) < 16 := by omega
      have hk0 : (0 : Int) ≤ (k : Int) := by omega
      have hix := index_row g y k hk16 wr
      obtain ⟨p, hp⟩ : ∃ p, p = g (y * 16 + k) := ⟨_, rfl⟩
      rw [← hp] at hix
      have Hp := Lib.hid hp.symm
      clear hp
      have hln := hI.out.ln
      cases p
      · go_wp2_with fail
        go_roundg (16 - (k + 1))
        case measure => omega
        case rel => exact ⟨k + 1, _, L, by omega, rfl, rfl, by go_num, Lib.hid (hI.out.no hk16 Hp.out), hS⟩
      · have hk0' := hk0
        by_cases hnew : k = 0 ∨ g (y * 16 + (k - 1)) = false
        · have hI2 : Hid (RunInv g y h (L ++ [⟨(k : Nat), y, 0 + 1, h⟩]) (k + 1)) := Lib.hid (hI.out.new hk16 Hp.out hnew)
          have Hnew := Lib.hid hnew
          clear hnew
          (by_cases hz : k = 0)
          (have hzb : ((k : Int) == 0) = true := by rw [beq_iff_eq]; omega
           clear hz)
          rotate_left
          (have hzb : ((k : Int) == 0) = false := by rw [beq_eq_false_iff_ne]; omega
           have hprev := hS.rw.cell (k - 1) (by omega)
           rw [show g (y * 16 + (k - 1)) = false from Hnew.out.resolve_left hz] at hprev
           have hk1 : (0 : Int) ≤ (k : Int) - 1 := by omega
           have hk2 : (k : Int) - 1 < 16 := by omega)
          all_goals
            go_wp2_with (at_builtin; refine wpList_append_own _ rfl _ _ 39 rfl (w.heap.size + 1) 92 i0 (.agg #[.int .i64 0, .int .i64 0, .int .i64 0, .int .i64 0]) 4 32 Tryz.underlying39 hi hz0 hz1 hz2 rfl (by decide) _ _ _ rfl (hS.own.alloc _) ⟨_, 0, none⟩ 1 1 _ rfl rfl (World.news_of_block (cs := #[.int .i64 k, .int .i64 y, .int .i64 0, .int .i64 h]) (fr := (0, 0)) (heap_alloc_new _ _)) (by intro u' hu'; simp at hu'; rcases hu' with rfl | rfl | rfl | rfl <;> rfl) (by unfold maxLen; omega) (by omega) (by have := hS.bw.size; have := hS.rw.lt; simp; omega) ?_)
            intro v2 w2 hown2 hgrow _
            obtain ⟨gq, cq, hvq, _, _⟩ := hown2.form (by omega)
            subst hvq
            have hrow : RowAt w2 w.heap.size g y := (hgrow.block _ (by have := hS.rw.lt; simp; omega) (fun e => by have := (hS.own.lt _ e.symm).1; omega)).trans ((Below.heap_alloc wr _ _ hS.rw.lt).trans hS.rw)
            have hbw : Below w.heap.size w w2 := (hS.bw.alloc hS.bw.size _).grown hgrow (by have := hS.bw.size; simp; omega) (fun k hk => by have := (hS.own.lt k hk).1; omega)
            have hown3 : w2.ownsRow (w.heap.size + 1) 92 4 (.slice (some ⟨gq, 0, none⟩) (L.length + 1) cq) (L.length + 1) (rcsCells (L ++ [⟨k, y, 0, h⟩])) := by rw [rcsCells_append, rcsCells_one]; exact hown2
            obtain ⟨lc, lf⟩ := own_last rfl hown3
            have HS := Lib.hid (RnSt.bumped rfl hrow hbw hown3)
            clear hown2 hown3 hgrow hrow hbw
            go_wp2_with fail
            go_roundg (16 - (k + 1))
            case measure => omega
            case rel => exact ⟨k + 1, _, L ++ [⟨(k : Nat), y, 0 + 1, h⟩], by omega, rfl, rfl, by go_num, hI2, HS.out⟩
        · have hz : ¬ k = 0 := fun e => hnew (.inl e)
          have hpt : g (y * 16 + (k - 1)) = true := by
            rcases e : g (y * 16 + (k - 1)) with _ | _
            · exact absurd (.inr e) hnew
            · rfl
          obtain ⟨o, r, ho, hr0, hr1, hI2⟩ := hI.out.more hk16 Hp.out (by omega) hpt
          have HI2 := Lib.hid hI2
          have hprev := hS.rw.cell (k - 1) (by omega)
          rw [hpt] at hprev
          have hzb : ((k : Int) == 0) = false := by rw [beq_eq_false_iff_ne]; omega
          have hk1 : (0 : Int) ≤ (k : Int) - 1 := by omega
          have hk2 : (k : Int) - 1 < 16 := by omega
          obtain ⟨m, hm⟩ : ∃ m, m = o.length := ⟨_, rfl⟩
          have hown3 := hS.own
          rw [ho, List.length_append, List.length_singleton, ← hm] at hown3
          obtain ⟨gq, cq, hvq, _, _⟩ := hown3.form (by omega)
          subst hvq
          obtain ⟨lc, lf⟩ := own_last hm hown3
          have HS := Lib.hid (RnSt.bumped hm hS.rw hS.bw hown3)
          rw [ho, List.length_append, List.length_singleton, ← hm] at hln
          obtain ⟨rw, hrw⟩ : ∃ z, z = r.w := ⟨_, rfl⟩
          rw [← hrw] at lc hr0 hr1
          have Hrw := Lib.hid hrw
          have Hm := Lib.hid hm
          clear hown3 hnew hpt hI2 hI ho hrw hm hS
          go_wp2_with fail
          go_roundg (16 - (k + 1))
          case measure => omega
          case rel => exact ⟨k + 1, _, o ++ [⟨r.x, r.y, r.w + 1, r.h⟩], by omega, rfl, rfl, by go_num, HI2, by rw [Hrw.out]; exact HS.out⟩
    · have hki : ¬ (k : Int) < 16 := by omega
      have hd := hI.out.done (by omega)
      have Hd := Lib.hid hd
      clear hd
      go_wp2_with fail
      go_ret
      have h1 := hS.own.mono (show w.heap.size ≤ w.heap.size + 1 by omega)
      rw [Hd.out] at h1
      exact ⟨_, rfl, h1, hS.bw⟩
end Go.Proofs.YtfolphadhmgbiaaGreat
namespace Go.Proofs.YtfolphadhmgbiaaGreat
open Go.RowKit
set_option maxHeartbeats 600000 in
set_option maxRecDepth 10000 in
theorem srB (b : Nat) (g : Nat → Bool) (y z : Nat) (hy : y < 16) (hz : z < 16) (c d : Nat) (w : World) (hG : GrAt w b 177 g) :
    Calls Tryz.prog 190 #[.slice (some ⟨b, z * 16, none⟩) 16 c, .slice (some ⟨b, y * 16, none⟩) 16 d] w fun e w' => e = .returned (.bool (rowEq g y z)) ∧ ∃ q, w' = w.drewN q := by
  have HG := Lib.hid hG
  clear hG
  go_enter Tryz.func190, Tryz.ntmps190
  go_wp2_with fail
  go_loopw [13] (fun i wr => ∃ k : Nat, k ≤ 16 ∧ i = .int .i64 k ∧ (∀ j, j < k → g (y * 16 + j) = g (z * 16 + j)) ∧ ∃ q, wr = w.drewN q) (fun i _ => 16 - (intOf i).toNat)
  case atStart => exact ⟨0, Nat.zero_le _, rfl, fun j hj => by omega, 0, rfl⟩
  case round =>
    obtain ⟨k, hk, rfl, hall, q, rfl⟩ := hrel
    have Hall := Lib.hid hall
    clear hall
    by_cases hlt : k < 16
    · have hki : (k : Int) < 16 := by omega
      have c1 := HG.out.cell (y * 16 + k) (by omega)
      have c2 := HG.out.cell (z * 16 + k) (by omega)
      obtain ⟨p, hp⟩ : ∃ p, p = g (y * 16 + k) := ⟨_, rfl⟩
      obtain ⟨r, hr⟩ : ∃ r, r = g (z * 16 + k) := ⟨_, rfl⟩
      rw [← hp] at c1
      rw [← hr] at c2
      have b0 : (0 : Int) ≤ (k : Int) := by omega
      have Hp := Lib.hid hp
      have Hr := Lib.hid hr
      clear hp hr
      by_cases hpr : p = r
      · subst hpr
        go_wp2_with fail
        go_quiet (fail)
        go_wp2_with fail
        rename_i nq
        go_roundw
        case rel =>
          refine ⟨k + 1, by omega, by go_num, fun j hj => ?_, _, rfl⟩
          by_cases e : j < k
          · exact Hall.out j e
          · obtain rfl : j = k := by omega
            rw [← Hp.out, ← Hr.out]
        case measure => simp [intOf]; omega
      · have hb : (r == p) = false := by rw [beq_eq_false_iff_ne]; exact Ne.symm hpr
        have hne : rowEq g y z = false := by
          rcases he : rowEq g y z with _ | _
          · rfl
          · exact absurd ((rowEq_iff g y z).1 he k hlt) (by rw [← Hp.out, ← Hr.out]; exact hpr)
        have Hne := Lib.hid hne
        clear hne hpr
        go_wp2_with fail
        go_quiet (fail)
        go_wp2_with fail
        go_ret
        exact ⟨ret_bool Hne.out.symm, q + _, by first | rfl | exact World.drewN_drewN _ _ _⟩
    · obtain rfl : k = 16 := by omega
      have heq : rowEq g y z = true := (rowEq_iff g y z).2 Hall.out
      have Heq := Lib.hid heq
      clear heq
      go_wp2_with fail
      go_ret
      exact ⟨ret_bool Heq.out.symm, _, rfl⟩
end Go.Proofs.YtfolphadhmgbiaaGreat
namespace Go.Proofs.YtfolphadhmgbiaaGreat
theorem run_append_none {P : Program} (w : World) (base : Nat) (t ty e : TypeId) (i : TypeInfo) (size : Nat) (ht : P.underlying t = some (.slice e)) (hi : P.info? e = some i)
    (v : Value) (n : Nat) (xs : List Value) (hown : w.ownsRow base e size v n xs) :
    (Builtin.append_ #[t, t] ty #[v, .slice none 0 0]).run P w = .ok v w := by
  rcases hown.2 with ⟨rfl, rfl⟩ | ⟨g, cap, cur, rfl, _, _, hn, _, _, _⟩
  · simp [Builtin.append_, run_underlying ht, sizeOf, typeInfo, hi, Builtin.lenOf, Builtin.firstCells]
  · simp [Builtin.append_, run_underlying ht, sizeOf, typeInfo, hi, Builtin.lenOf, Builtin.firstCells, loadCells, storeCells, hn]
theorem wpList_append_row {P : Program} {ops : Array Oper} {rest : List Oper} {o : Oper} {a : Act} {w : World} {Q : Exit → Act → World → Prop} (hgd : o.guard = none) (s x : Operand) (t : TypeId)
    (ho : o.op = .call { callee := .builtin .append, args := #[s, x], argTypes := #[t, t] })
    (base base' : Nat) (e : TypeId) (i : TypeInfo) (z : Value) (size bytes : Nat) (ht : P.underlying t = some (.slice e)) (hi : P.info? e = some i) (hz : i.zero = some z)
    (hsize : i.size = size) (hby : i.bytes = bytes) (hzs : z.cells.size = size) (hsz : 0 < size)
    (v : Value) (n : Nat) (xs : List Value) (hs : a.eval s = v) (hown : w.ownsRow base e size v n xs)
    (u : Value) (m : Nat) (news : List Value) (hx : a.eval x = u) (hu : w.ownsRow base' e size u m news) (h1 : ∀ u ∈ news, u.oneCell' = true)
    (h63 : n + m ≤ maxLen) (hbytes : (n + m) * bytes ≤ 140737488355328) (hbase : base ≤ w.heap.size)
    (h : ∀ v' w', w'.ownsRow base e size v' (n + m) (xs ++ news) → w.grownBy w' v.ownBlock → wpList P ops Q rest (a.put o.dst v') w') : wpList P ops Q (o :: rest) a w := by
  rcases hu.2 with ⟨rfl, rfl⟩ | ⟨g, cap, cur, rfl, _, _, hn, _, _, _⟩
  · have hnil : news = [] := List.eq_nil_of_length_eq_zero (by have := hu.1; omega)
    subst hnil
    refine wpList_plain hgd fun K hK => ?_
    have hr := run_append_none w base t o.type e i size ht hi v n xs hown
    unfold Oper.wp execOp
    simp only [ho, resolve, invoke, builtin, Sem.run_bind, Sem.run_pure, Result.andThen_ok, List.map_toArray, List.map_cons, List.map_nil, hs, hx, hr]
    refine hK _ _ (h v w (by simpa using hown) ⟨rfl, rfl, rfl, Nat.le_refl _, fun _ _ _ => rfl⟩)
  · exact wpList_append_own w hgd s x t ho base e i z size bytes ht hi hz hsize hby hzs hsz v n xs hs hown ⟨g, 0, none⟩ m cap news hx hu.1 (hu.cells rfl) h1 h63 hbytes hbase (fun v' w' h2 h3 _ => h v' w' h2 h3)
end Go.Proofs.YtfolphadhmgbiaaGreat
namespace Go.Proofs.YtfolphadhmgbiaaGreat
open Go.RowKit
/-- The memory in the loops of canonicalForm. -/
structure CiSt (w : World) (g : Nat → Bool) (v : Value) (L : List Rc) (wr : World) : Prop where
  gr : GrAt wr w.heap.size 177 g
  rs : wr.heap[w.heap.size + 1]? = some (.cells #[.slice none 0 0] 41 (0, 0))
  own : wr.ownsRow (w.heap.size + 2) 92 4 v L.length (rcsCells L)
  bw : Below w.heap.size w wr
theorem CiSt.drewN {w wr : World} {g : Nat → Bool} {v : Value} {L : List Rc} (h : CiSt w g v L wr) (q : Nat) : CiSt w g v L (wr.drewN q) :=
  ⟨h.gr.drewN q, h.rs, own_drewN h.own q, below_drewN h.bw q⟩
theorem CiSt.size {w wr : World} {g : Nat → Bool} {v : Value} {L : List Rc} (h : CiSt w g v L wr) : w.heap.size + 1 < wr.heap.size := (Array.getElem?_eq_some_iff.1 h.rs).1
theorem CiSt.call {w wr w' : World} {g : Nat → Bool} {v : Value} {L : List Rc} (h : CiSt w g v L wr) (hb : Below wr.heap.size wr w') : CiSt w g v L w' :=
  ⟨h.gr.below hb h.gr.lt, (hb.block _ h.size).trans h.rs, own_below h.own hb (Nat.le_refl _), h.bw.trans (hb.mono h.bw.size)⟩
theorem CiSt.next {w wr w2 : World} {g : Nat → Bool} {v v' : Value} {L M : List Rc} (h : CiSt w g v L wr)
    (hown : w2.ownsRow (w.heap.size + 2) 92 4 v' (L.length + M.length) (rcsCells L ++ rcsCells M)) (hgr : wr.grownBy w2 v.ownBlock) : CiSt w g v' (L ++ M) w2 := by
  have hlow : ∀ k, k < w.heap.size + 2 → some k ≠ v.ownBlock := fun k hk e => by have := (h.own.lt k e.symm).1; omega
  refine ⟨h.gr.grown hgr (hlow _ (by omega)), (hgr.block _ h.size (hlow _ (by omega))).trans h.rs, ?_, h.bw.grown hgr h.bw.size (fun k hk => by have := (h.own.lt k hk).1; omega)⟩
  rw [List.length_append, rcsCells_append]
  exact hown
theorem runI' (g : Nat → Bool) (y h : Nat) (hi : Int) (e : hi = (h : Int)) (w : World) : Calls Tryz.prog 191 #[.agg (rowCells g y), .int .i64 y, .int .i64 hi] w (RunAns g y h w) := by
  subst e
  exact runI g y h w
set_option maxHeartbeats 2000000 in
set_option maxRecDepth 10000 in
theorem canI (g : Nat → Bool) (w : World) : Calls Tryz.prog 166 #[.agg (gCells g)] w (CanAns g w) := by
  obtain ⟨i0, hi, hz0, hz1, hz2⟩ := info_parts infoRect
  have hS0 : CiSt w g (.slice none 0 0) [] ((w.alloc (.cells (gCells g) 177)).alloc (.cells #[.slice none 0 0] 41)) :=
    ⟨(GrAt.new _ _ _).alloc _, by have := heap_alloc_new (w.alloc (.cells (gCells g) 177)) (.cells #[.slice none 0 0] 41); simpa using this,
      World.ownsRow_nil _ _ _ _, ((Below.refl _ _).alloc (Nat.le_refl _) _).alloc (by simp) _⟩
  go_enter Tryz.func166, Tryz.ntmps166
  go_wp2_with fail
  go_loopg [3, 4] 16 (fun gk s3 i wr => ∃ (y : Nat) (L : List Rc), y ≤ 16 ∧ gk = 16 - y ∧ i = .int .i64 y ∧ Hid (canon g = L ++ bands g y) ∧ CiSt w g s3 L wr)
  case atStart => exact ⟨0, [], Nat.zero_le _, rfl, rfl, Lib.hid rfl, hS0⟩
  case round =>
    clear hS0
    obtain ⟨y, L, hy, rfl, rfl, hB, hS⟩ := hrel
    by_cases hy16 : y < 16
    · have hy16i : (y : Int) < 16 := by omega
      have hy0 : (0 : Int) ≤ (y : Int) := by omega
      go_wp2_with fail
      go_loopg [5] 15 (fun g2 i2 wy => ∃ h : Nat, 1 ≤ h ∧ y + h ≤ 16 ∧ g2 = 16 - h ∧ i2 = .int .i64 ((y : Int) + (h : Int)) ∧ Hid (bandFrom g y h = bandH g y) ∧ CiSt w g u3 L wy)
      case atStart => exact ⟨1, Nat.le_refl _, by omega, by omega, by go_num, Lib.hid rfl, hS⟩
      case round =>
        clear hS
        obtain ⟨h, hh1, hh2, rfl, rfl, hH, hS⟩ := hrel
        by_cases hc : y + h < 16 ∧ rowEq g y (y + h) = true
        · have hyh := hc.1
          have hyi : (y : Int) + (h : Int) < 16 := by omega
          have hyi0 : (0 : Int) ≤ (y : Int) + (h : Int) := by omega
          have Hre := Lib.hid hc.2
          clear hc
          have hsr : ∀ q, Calls Tryz.prog 190 #[.slice (some ⟨w.heap.size, (y + h) * 16, none⟩) 16 16, .slice (some ⟨w.heap.size, y * 16, none⟩) 16 16] (wr.drewN q) fun e w' => e = .returned (.bool true) ∧ ∃ m, w' = (wr.drewN q).drewN m := fun q => by
            have := srB w.heap.size g y (y + h) (by omega) (by omega) 16 16 (wr.drewN q) (hS.gr.drewN q)
            rw [Hre.out] at this
            exact this
          have Hsr := Lib.hid hsr
          clear hsr
          have hba : ((y : Int) + (h : Int)).toNat = y + h := by omega
          go_wp2_with fail
          go_quiet ((go_at_call 190; refine Calls.quiet_of (Hsr.out _)))
          go_wp2_with fail
          rename_i nq
          go_roundg (16 - (h + 1))
          case measure => omega
          case rel => exact ⟨h + 1, by omega, by omega, rfl, by go_num, Lib.hid ((bandFrom_go hyh Hre.out).symm.trans hH.out), hS.drewN _⟩
        · have hbh : bandH g y = h := hH.out.symm.trans (bandFrom_stop hc)
          have hB2 : Hid (canon g = (L ++ runs g y h 0) ++ bands g (y + h)) := Lib.hid (by rw [hB.out, bands_open g y h hy16 hbh, List.append_assoc])
          have hlen : L.length + (runs g y h 0).length ≤ 256 := by have := canon_part hB2.out; rwa [List.length_append] at this
          have Hc := Lib.hid hc
          clear hc hB hH hbh
          (by_cases hyh : y + h < 16)
          (have hyi : (y : Int) + (h : Int) < 16 := by omega
           have hyi0 : (0 : Int) ≤ (y : Int) + (h : Int) := by omega
           have hre : rowEq g y (y + h) = false := by
            rcases e : rowEq g y (y + h) with _ | _
            · rfl
            · exact absurd ⟨hyh, e⟩ Hc.out
           have Hre := Lib.hid hre
           clear hre
           have hsr : ∀ q, Calls Tryz.prog 190 #[.slice (some ⟨w.heap.size, (y + h) * 16, none⟩) 16 16, .slice (some ⟨w.heap.size, y * 16, none⟩) 16 16] (wr.drewN q) fun e w' => e = .returned (.bool false) ∧ ∃ m, w' = (wr.drewN q).drewN m := fun q => by
            have := srB w.heap.size g y (y + h) (by omega) (by omega) 16 16 (wr.drewN q) (hS.gr.drewN q)
            rw [Hre.out] at this
            exact this
           have Hsr := Lib.hid hsr
           clear hsr
           have hba : ((y : Int) + (h : Int)).toNat = y + h := by omega
           go_wp2_with fail
           go_quiet ((go_at_call 190; refine Calls.quiet_of (Hsr.out _)))
           rename_i nq
           have hS := hS.drewN nq
           clear Hsr hba hyi0 hyi)
          · skip
            go_upto_region 7 with fail
            iterate 12 (first | (refine wp_load_gridrow (.tmp 25) rfl w.heap.size y g _ hy16 rfl hS.gr ?_) | go_step)
            go_wp2_with fail
            refine (runI' g y h ((y : Int) + (h : Int) - (y : Int)) (by omega) _).mono ?_
            rintro e w2 ⟨vr, rfl, hownr, hbr⟩
            have hS := hS.call hbr
            go_wp2_with (at_builtin; refine wpList_append_row rfl _ _ 39 rfl (w.heap.size + 2) _ 92 i0 (.agg #[.int .i64 0, .int .i64 0, .int .i64 0, .int .i64 0]) 4 32 Tryz.underlying39 hi hz0 hz1 hz2 rfl (by decide) _ _ _ rfl hS.own _ _ _ rfl hownr (rcs_one _) (by unfold maxLen; omega) (by omega) (by have := hS.size; omega) ?_)
            intro v2 w3 hown3 hgrow
            have hS := hS.next hown3 hgrow
            clear hown3 hgrow hownr hbr
            go_wp2_with fail
            go_roundg (16 - (y + h))
            case measure => omega
            case rel => exact ⟨y + h, L ++ runs g y h 0, by omega, rfl, by go_num, hB2, hS⟩
          · skip
            (have hyi : ¬ (y : Int) + (h : Int) < 16 := by omega
             go_wp2_with fail
             have hyd : ((y : Int) + (h : Int) < 16) = False := by apply eq_false; omega
             go_quiet (fail)
             rename_i nq
             have hS := hS.drewN nq
             clear hyi hyd)
            go_upto_region 7 with fail
            iterate 12 (first | (refine wp_load_gridrow (.tmp 25) rfl w.heap.size y g _ hy16 rfl hS.gr ?_) | go_step)
            go_wp2_with fail
            refine (runI' g y h ((y : Int) + (h : Int) - (y : Int)) (by omega) _).mono ?_
            rintro e w2 ⟨vr, rfl, hownr, hbr⟩
            have hS := hS.call hbr
            go_wp2_with (at_builtin; refine wpList_append_row rfl _ _ 39 rfl (w.heap.size + 2) _ 92 i0 (.agg #[.int .i64 0, .int .i64 0, .int .i64 0, .int .i64 0]) 4 32 Tryz.underlying39 hi hz0 hz1 hz2 rfl (by decide) _ _ _ rfl hS.own _ _ _ rfl hownr (rcs_one _) (by unfold maxLen; omega) (by omega) (by have := hS.size; omega) ?_)
            intro v2 w3 hown3 hgrow
            have hS := hS.next hown3 hgrow
            clear hown3 hgrow hownr hbr
            go_wp2_with fail
            go_roundg (16 - (y + h))
            case measure => omega
            case rel => exact ⟨y + h, L ++ runs g y h 0, by omega, rfl, by go_num, hB2, hS⟩
    · have hy16i : ¬ (y : Int) < 16 := by omega
      have hB2 : L = canon g := by rw [hB.out, bands_end g y (by omega), List.append_nil]
      obtain ⟨A, cv, hv⟩ := (RdR.of_own hS.own).form
      subst hv
      have rc : wr.cell? ⟨w.heap.size + 1, 0, none⟩ = some (.slice none 0 0) := by have := hS.rs; simp [World.cell?, this]
      have rf : wr.frozen? ⟨w.heap.size + 1, 0, none⟩ = false := by have := hS.rs; simp [World.frozen?, this]
      have hsz := hS.size
      have HB2 := Lib.hid hB2
      clear hB2
      go_wp2_with fail
      exact bodyPost_ret (v := .agg #[.slice A L.length cv]) (by simp [results, Tryz.results166, go_sem, rc]) rfl ⟨_, rfl, by
        have h1 := (hS.own.mono (show w.heap.size ≤ w.heap.size + 2 by omega)).kept (row := some (w.heap.size + 1)) (grown_setc wr _ 0 (.slice A L.length cv)) (by
          by_cases hv : (Value.slice A L.length cv).ownBlock = none
          · exact .inl hv
          · refine .inr fun e => ?_
            have := (hS.own.lt _ e).1
            omega)
        rw [← HB2.out]
        exact h1, hS.bw.setCell (by simp) _⟩
end Go.Proofs.YtfolphadhmgbiaaGreat
namespace Go.Proofs.YtfolphadhmgbiaaGreat
open Go.RowKit
open Classical in
/-- Whether two lists of rectangles are equal. -/
noncomputable def sameL (L M : List Rc) : Bool := decide (L = M)
open Classical in
theorem sameL_yes {L M : List Rc} (h : L = M) : sameL L M = true := by unfold sameL; exact decide_eq_true h
open Classical in
theorem sameL_no {L M : List Rc} (h : ¬ L = M) : sameL L M = false := by unfold sameL; exact decide_eq_false h
set_option maxHeartbeats 1000000 in
set_option maxRecDepth 10000 in
theorem sameI (v u : Value) (L M : List Rc) (w : World) (hv : RdR w v L) (hu : RdR w u M) :
    Calls Tryz.prog 120 #[v, u] w fun e w' => e = .returned (.bool (sameL L M)) ∧ ∃ q, w' = w.drewN q := by
  obtain ⟨A, c, rfl⟩ := hv.form
  obtain ⟨A', c', rfl⟩ := hu.form
  have hn1 : L.length ≤ 9223372036854775807 := by have := hv.len; unfold maxLen at this; omega
  have hn2 : M.length ≤ 9223372036854775807 := by have := hu.len; unfold maxLen at this; omega
  by_cases hlen : L.length = M.length
  · obtain ⟨n, hn⟩ : ∃ n, n = L.length := ⟨_, rfl⟩
    rw [← hlen] at hu ⊢
    rw [← hn] at hn1 hv hu ⊢
    have Hn := Lib.hid hn
    have Hlen := Lib.hid hlen
    have Hv := Lib.hid hv
    have Hu := Lib.hid hu
    clear hlen hn2 hn hv hu
    go_enter Tryz.func120, Tryz.ntmps120
    go_wp2_with fail
    go_loopw [13] (fun i wr => ∃ k : Nat, k ≤ n ∧ i = .int .i64 k ∧ (∀ j, j < k → L[j]? = M[j]?) ∧ ∃ q, wr = w.drewN q) (fun i _ => n - (intOf i).toNat)
    case atStart => exact ⟨0, Nat.zero_le _, rfl, fun j hj => by omega, 0, rfl⟩
    case round =>
      obtain ⟨k, hk, rfl, hall, q, rfl⟩ := hrel
      have Hall := Lib.hid hall
      clear hall
      by_cases hlt : k < n
      · obtain ⟨ga, r, rfl, hr, hC⟩ := Hv.out.at_ (k := k) (by rw [← Hn.out]; exact hlt)
        obtain ⟨gb, s, rfl, hs, hD⟩ := Hu.out.at_ (k := k) (by rw [← Hlen.out, ← Hn.out]; exact hlt)
        have Hr := Lib.hid hr
        have Hs := Lib.hid hs
        obtain ⟨a0, a1, a2, a3⟩ := hC.cells
        obtain ⟨b0, b1, b2, b3⟩ := hD.cells
        clear hr hs hC hD
        have k0 : (0 : Int) ≤ (k : Int) := by omega
        have k1 : (k : Int) < (n : Int) := by omega
        rcases rc_cases r s with ⟨hq, e0, e1, e2, e3⟩ | ⟨hq, hq'⟩
        · have Hq := Lib.hid hq
          clear hq
          go_wp2_with fail
          go_quiet (fail)
          go_wp2_with fail
          rename_i nq
          go_roundw
          case rel =>
            refine ⟨k + 1, by omega, by go_num, fun j hj => ?_, _, rfl⟩
            by_cases e : j < k
            · exact Hall.out j e
            · obtain rfl : j = k := by omega
              rw [Hr.out, Hs.out, Hq.out]
          case measure => simp [intOf]; omega
        · have hne : sameL L M = false := sameL_no fun e => hq (by have h1 := Hr.out; rw [e, Hs.out] at h1; injection h1 with h1; exact h1.symm)
          have Hne := Lib.hid hne
          clear hne hq
          rcases hq' with e0 | ⟨e0, e1⟩ | ⟨e0, e1, e2⟩ | ⟨e0, e1, e2, e3⟩
          · go_wp2_with fail
            go_quiet (fail)
            go_wp2_with fail
            go_ret
            exact ⟨ret_bool Hne.out.symm, q + _, by first | rfl | exact World.drewN_drewN _ _ _⟩
          · go_wp2_with fail
            go_quiet (fail)
            go_wp2_with fail
            go_ret
            exact ⟨ret_bool Hne.out.symm, q + _, by first | rfl | exact World.drewN_drewN _ _ _⟩
          · go_wp2_with fail
            go_quiet (fail)
            go_wp2_with fail
            go_ret
            exact ⟨ret_bool Hne.out.symm, q + _, by first | rfl | exact World.drewN_drewN _ _ _⟩
          · go_wp2_with fail
            go_quiet (fail)
            go_wp2_with fail
            go_ret
            exact ⟨ret_bool Hne.out.symm, q + _, by first | rfl | exact World.drewN_drewN _ _ _⟩
      · obtain rfl : k = n := by omega
        have heq : L = M := List.ext_getElem? fun j => by
          by_cases e : j < k
          · exact Hall.out j e
          · rw [List.getElem?_eq_none (by rw [← Hn.out]; omega), List.getElem?_eq_none (by rw [← Hlen.out, ← Hn.out]; omega)]
        have Heq := Lib.hid (sameL_yes heq)
        clear heq
        go_wp2_with fail
        go_ret
        exact ⟨ret_bool Heq.out.symm, _, rfl⟩
  · have Hne := Lib.hid (sameL_no (fun e : L = M => hlen (by rw [e])))
    have hb : ((L.length : Int) != (M.length : Int)) = true := by rw [bne_iff_ne]; omega
    go_enter Tryz.func120, Tryz.ntmps120
    go_wp2_with fail
    go_ret
    exact ⟨ret_bool Hne.out.symm, 0, rfl⟩
end Go.Proofs.YtfolphadhmgbiaaGreat
namespace Go.Proofs.YtfolphadhmgbiaaGreat
open Go.RowKit
set_option maxHeartbeats 1000000 in
set_option maxRecDepth 10000 in
theorem sameS (v u : Value) (L M : List Rc) (w : World) (hv : RdR w v L) (hu : RdR w u M) :
    Calls Tryz.prog 115 #[v, u] w fun e w' => e = .returned (.bool (sameL L M)) ∧ ∃ q, w' = w.drewN q := by
  obtain ⟨A, c, rfl⟩ := hv.form
  obtain ⟨A', c', rfl⟩ := hu.form
  have hn1 : L.length ≤ 9223372036854775807 := by have := hv.len; unfold maxLen at this; omega
  have hn2 : M.length ≤ 9223372036854775807 := by have := hu.len; unfold maxLen at this; omega
  by_cases hlen : L.length = M.length
  · obtain ⟨n, hn⟩ : ∃ n, n = L.length := ⟨_, rfl⟩
    rw [← hlen] at hu ⊢
    rw [← hn] at hn1 hv hu ⊢
    have Hn := Lib.hid hn
    have Hlen := Lib.hid hlen
    have Hv := Lib.hid hv
    have Hu := Lib.hid hu
    clear hlen hn2 hn hv hu
    go_enter Tryz.func115, Tryz.ntmps115
    go_wp2_with fail
    go_loopw [5] (fun i wr => ∃ k : Nat, k ≤ n ∧ i = .int .i64 k ∧ (∀ j, j < k → L[j]? = M[j]?) ∧ ∃ q, wr = w.drewN q) (fun i _ => n - (intOf i).toNat)
    case atStart => exact ⟨0, Nat.zero_le _, rfl, fun j hj => by omega, 0, rfl⟩
    case round =>
      obtain ⟨k, hk, rfl, hall, q, rfl⟩ := hrel
      have Hall := Lib.hid hall
      clear hall
      by_cases hlt : k < n
      · obtain ⟨ga, r, rfl, hr, hC⟩ := Hv.out.at_ (k := k) (by rw [← Hn.out]; exact hlt)
        obtain ⟨gb, s, rfl, hs, hD⟩ := Hu.out.at_ (k := k) (by rw [← Hlen.out, ← Hn.out]; exact hlt)
        have Hr := Lib.hid hr
        have Hs := Lib.hid hs
        obtain ⟨a0, a1, a2, a3⟩ := hC.cells
        obtain ⟨b0, b1, b2, b3⟩ := hD.cells
        clear hr hs hC hD
        have k0 : (0 : Int) ≤ (k : Int) := by omega
        have k1 : (k : Int) < (n : Int) := by omega
        rcases rc_cases r s with ⟨hq, e0, e1, e2, e3⟩ | ⟨hq, hq'⟩
        · have Hq := Lib.hid hq
          clear hq
          go_wp2_with fail
          go_quiet (fail)
          go_wp2_with fail
          rename_i nq
          go_roundw
          case rel =>
            refine ⟨k + 1, by omega, by go_num, fun j hj => ?_, _, rfl⟩
            by_cases e : j < k
            · exact Hall.out j e
            · obtain rfl : j = k := by omega
              rw [Hr.out, Hs.out, Hq.out]
          case measure => simp [intOf]; omega
        · have hne : sameL L M = false := sameL_no fun e => hq (by have h1 := Hr.out; rw [e, Hs.out] at h1; injection h1 with h1; exact h1.symm)
          have Hne := Lib.hid hne
          clear hne hq
          rcases hq' with e0 | ⟨e0, e1⟩ | ⟨e0, e1, e2⟩ | ⟨e0, e1, e2, e3⟩
          · go_wp2_with fail
            go_quiet (fail)
            go_wp2_with fail
            go_ret
            exact ⟨ret_bool Hne.out.symm, q + _, by first | rfl | exact World.drewN_drewN _ _ _⟩
          · go_wp2_with fail
            go_quiet (fail)
            go_wp2_with fail
            go_ret
            exact ⟨ret_bool Hne.out.symm, q + _, by first | rfl | exact World.drewN_drewN _ _ _⟩
          · go_wp2_with fail
            go_quiet (fail)
            go_wp2_with fail
            go_ret
            exact ⟨ret_bool Hne.out.symm, q + _, by first | rfl | exact World.drewN_drewN _ _ _⟩
          · go_wp2_with fail
            go_quiet (fail)
            go_wp2_with fail
            go_ret
            exact ⟨ret_bool Hne.out.symm, q + _, by first | rfl | exact World.drewN_drewN _ _ _⟩
      · obtain rfl : k = n := by omega
        have heq : L = M := List.ext_getElem? fun j => by
          by_cases e : j < k
          · exact Hall.out j e
          · rw [List.getElem?_eq_none (by rw [← Hn.out]; omega), List.getElem?_eq_none (by rw [← Hlen.out, ← Hn.out]; omega)]
        have Heq := Lib.hid (sameL_yes heq)
        clear heq
        go_wp2_with fail
        go_ret
        exact ⟨ret_bool Heq.out.symm, _, rfl⟩
  · have Hne := Lib.hid (sameL_no (fun e : L = M => hlen (by rw [e])))
    have hb : ((L.length : Int) != (M.length : Int)) = true := by rw [bne_iff_ne]; omega
    go_enter Tryz.func115, Tryz.ntmps115
    go_wp2_with fail
    go_ret
    exact ⟨ret_bool Hne.out.symm, 0, rfl⟩
end Go.Proofs.YtfolphadhmgbiaaGreat
namespace Go.Proofs.YtfolphadhmgbiaaGreat
open Go.RowKit
/-- What RegionOf answers. -/
def RofAns (L : List Rc) (w : World) (e : Ending) (w' : World) : Prop :=
  ∃ v, e = .returned (.agg #[v]) ∧ w'.ownsRow w.heap.size 92 4 v (canon (gridOf L)).length (rcsCells (canon (gridOf L))) ∧ Below w.heap.size w w'
theorem rg_cell {w w' : World} {o : Obj} (h : Below (w.alloc o).heap.size (w.alloc o) w') {v : Value} (ho : o = .cells #[v] 41) : w'.heap[w.heap.size]? = some (.cells #[v] 41 (0, 0)) := by
  subst ho
  exact (h.block _ (by simp)).trans (heap_alloc_new w _)
theorem own_shape {w : World} {B n : Nat} {e : TypeId} {v : Value} {xs : List Value} (h : w.ownsRow B e 4 v n xs) : ∃ A c, v = .slice A n c := by
  rcases h.2 with ⟨rfl, rfl⟩ | ⟨g, cap, cur, rfl, _⟩
  · exact ⟨none, 0, rfl⟩
  · exact ⟨_, _, rfl⟩
theorem own_set {w : World} {B B' n g : Nat} {e : TypeId} {v : Value} {xs : List Value} (h : w.ownsRow B' e 4 v n xs) (hB : B ≤ B') (hg : g < B') (u : Value) : (w.setCell ⟨g, 0, none⟩ u).ownsRow B e 4 v n xs :=
  (h.mono hB).kept (row := some g) (grown_setc w _ 0 u) (by
    by_cases hv : v.ownBlock = none
    · exact .inl hv
    · refine .inr fun e => ?_
      have := (h.lt _ e).1
      omega)
set_option maxHeartbeats 1000000 in
set_option maxRecDepth 10000 in
theorem rofS (v : Value) (L : List Rc) (w : World) (h : RdR w v L) : Calls Tryz.prog 64 #[v] w (RofAns L w) := by
  have h1 := h.alloc (.cells #[.slice none 0 0] 41)
  have H := Lib.hid h1
  clear h h1
  go_enter Tryz.func64, Tryz.ntmps64
  go_wp2_with fail
  refine (gridS v L _ H.out).mono ?_
  rintro e w1 ⟨b, rfl, hb0, hG, hb1⟩
  go_wp2_with fail
  refine (canS b (gridOf L) _ hG).mono ?_
  rintro e w2 ⟨u, rfl, hown, hb2⟩
  have hz := hb1.size
  have hh := rg_cell (hb1.trans (hb2.mono hb1.size)) rfl
  have hw := ((Below.refl w.heap.size w).alloc (Nat.le_refl _) (.cells #[.slice none 0 0] 41)).trans ((hb1.trans (hb2.mono hb1.size)).mono (by simp))
  obtain ⟨A, c, hu⟩ := own_shape hown
  subst hu
  have rc : w2.cell? ⟨w.heap.size, 0, none⟩ = some (.slice none 0 0) := by simp [World.cell?, hh]
  have rf : w2.frozen? ⟨w.heap.size, 0, none⟩ = false := by simp [World.frozen?, hh]
  have Hown := Lib.hid hown
  simp at hz
  clear hown hb1 hb2 hG hb0 hh
  go_wp2_with fail
  exact bodyPost_ret (v := .agg #[.slice A (canon (gridOf L)).length c]) (by simp [results, Tryz.results64, go_sem, rc]) rfl ⟨_, rfl, own_set Hown.out (by omega) (by omega) _, hw.setCell (by simp) _⟩
set_option maxHeartbeats 1000000 in
set_option maxRecDepth 10000 in
theorem rofI (v : Value) (L : List Rc) (w : World) (h : RdR w v L) : Calls Tryz.prog 114 #[v] w (RofAns L w) := by
  have h1 := h.alloc (.cells #[.slice none 0 0] 41)
  have H := Lib.hid h1
  clear h h1
  go_enter Tryz.func114, Tryz.ntmps114
  go_wp2_with fail
  refine (gridI v L _ H.out).mono ?_
  rintro e w1 ⟨rfl, hb1⟩
  go_wp2_with fail
  refine (canI (gridOf L) _).mono ?_
  rintro e w2 ⟨u, rfl, hown, hb2⟩
  have hz := hb1.size
  have hh := rg_cell (hb1.trans (hb2.mono hb1.size)) rfl
  have hw := ((Below.refl w.heap.size w).alloc (Nat.le_refl _) (.cells #[.slice none 0 0] 41)).trans ((hb1.trans (hb2.mono hb1.size)).mono (by simp))
  obtain ⟨A, c, hu⟩ := own_shape hown
  subst hu
  have rc : w2.cell? ⟨w.heap.size, 0, none⟩ = some (.slice none 0 0) := by simp [World.cell?, hh]
  have rf : w2.frozen? ⟨w.heap.size, 0, none⟩ = false := by simp [World.frozen?, hh]
  have Hown := Lib.hid hown
  simp at hz
  clear hown hb1 hb2 hh
  go_wp2_with fail
  exact bodyPost_ret (v := .agg #[.slice A (canon (gridOf L)).length c]) (by simp [results, Tryz.results114, go_sem, rc]) rfl ⟨_, rfl, own_set Hown.out (by omega) (by omega) _, hw.setCell (by simp) _⟩
/-- Whether a list of rectangles is a canonical form. -/
noncomputable def okL (L : List Rc) : Bool := sameL (canon (gridOf L)) L
end Go.Proofs.YtfolphadhmgbiaaGreat
namespace Go.Proofs.YtfolphadhmgbiaaGreat
open Go.RowKit
set_option maxHeartbeats 1000000 in
set_option maxRecDepth 10000 in
theorem heldRS (v : Value) (k0 n : Nat) (w : World) (hm : k0 + n ≤ 1000000000) (hrd : RdR w v (marksL k0 n)) :
    Calls Tryz.prog 87 #[v, .int .i64 k0] w fun ed w' => ed = .returned (.int .i64 ((k0 + 4 * n : Nat) : Int)) ∧ w' = w := by
  obtain ⟨A, c, rfl⟩ := hrd.form
  rw [marksL_length] at hrd ⊢
  have Hrd := Lib.hid hrd
  clear hrd
  go_enter Tryz.func87, Tryz.ntmps87
  go_wp2_with fail
  go_loopw [1, 5] (fun s1 i wr => ∃ (k : Nat) (t : Int), k ≤ n ∧ i = .int .i64 k ∧ s1 = .int .i64 t ∧ Hid (t = ((k0 + 4 * k : Nat) : Int)) ∧ wr = w) (fun _ i _ => n - (intOf i).toNat)
  case atStart => exact ⟨0, k0, Nat.zero_le _, rfl, rfl, Lib.hid (by simp), rfl⟩
  case round =>
    obtain ⟨k, t, hk, rfl, rfl, Ht, rfl⟩ := hrel
    have ht0 : 0 ≤ t := by have := Ht.out; omega
    have ht1 : t ≤ 5000000000 := by have := Ht.out; omega
    by_cases hlt : k < n
    · obtain ⟨gq, r, rfl, hr, hC⟩ := Hrd.out.at_ (k := k) (by rw [marksL_length]; exact hlt)
      rw [marksL_get k0 n k hlt] at hr
      injection hr with hr
      have e0 : r.x = t := by rw [← hr, Ht.out]
      have e1 : r.y = t + 1 := by rw [← hr]; have := Ht.out; dsimp only; omega
      have e2 : r.w = t + 2 := by rw [← hr]; have := Ht.out; dsimp only; omega
      have e3 : r.h = t + 3 := by rw [← hr]; have := Ht.out; dsimp only; omega
      obtain ⟨c0, c1, c2, c3⟩ := hC.cells
      rw [e0] at c0
      rw [e1] at c1
      rw [e2] at c2
      rw [e3] at c3
      have k0' : (0 : Int) ≤ (k : Int) := by omega
      have k1' : (k : Int) < (n : Int) := by omega
      clear hr e0 e1 e2 e3 hC
      go_wp2_with fail
      go_roundw
      case rel => exact ⟨k + 1, _, by omega, by go_num, rfl, Lib.hid (by have := Ht.out; omega), by first | rfl | trivial⟩
      case measure => simp [intOf]; omega
    · obtain rfl : k = n := by omega
      go_wp2_with fail
      go_ret
      exact ⟨ret_int Ht.out, rfl⟩
/-- What markRegion leaves. -/
theorem markRg (B : Nat) (v : Value) (L : List Rc) (k0 : Nat) (w : World) (hm : k0 + L.length ≤ 1000000000) (hown : w.ownsRow B 92 4 v L.length (rcsCells L)) :
    Calls Tryz.prog 33 #[.agg #[v], .int .i64 k0] w fun ed w' => ed = .returned (.int .i64 ((k0 + 4 * L.length : Nat) : Int)) ∧ w'.ownsRow B 92 4 v L.length (rcsCells (marksL k0 L.length)) ∧ w.grownBy w' v.ownBlock := by
  have hown2 := hown.alloc (.cells #[v] 41)
  have hg := World.grownBy_alloc w (.cells #[v] 41) v.ownBlock
  have hc : (w.alloc (.cells #[v] 41)).cell? ⟨w.heap.size, 0, none⟩ = some v := new_cell w v _
  clear hown
  go_enter Tryz.func33, Tryz.ntmps33
  go_wp2_with fail
  refine (markRS B _ v L k0 _ hm hown2).mono ?_
  rintro e w1 ⟨rfl, h1, h2⟩
  have H1 := Lib.hid h1
  have H2 := Lib.hid (hg.trans h2)
  clear h1 h2 hg hown2
  go_wp2_with fail
  go_ret
  exact ⟨rfl, H1.out, H2.out⟩
theorem heldRg (v : Value) (k0 n : Nat) (w : World) (hm : k0 + n ≤ 1000000000) (hrd : RdR w v (marksL k0 n)) :
    Calls Tryz.prog 45 #[.agg #[v], .int .i64 k0] w fun ed w' => ed = .returned (.int .i64 ((k0 + 4 * n : Nat) : Int)) ∧ Below w.heap.size w w' := by
  have h2 := hrd.alloc (.cells #[v] 41)
  clear hrd
  have c1 : ¬ ((k0 + 4 * n : Nat) : Int) < 0 := by omega
  go_enter Tryz.func45, Tryz.ntmps45
  go_wp2_with fail
  refine (heldRS v k0 n _ hm h2).mono ?_
  rintro e w1 ⟨rfl, rfl⟩
  clear h2
  go_wp2_with fail
  go_ret
  exact ⟨rfl, (Below.refl _ _).alloc (Nat.le_refl _) _⟩
theorem eqRg_same (v u : Value) (L : List Rc) (w : World) (hv : RdR w v L) (hu : RdR w u L) :
    Calls Tryz.prog 30 #[.agg #[v], .agg #[u]] w fun e w' => e = .returned (.bool true) ∧ Below w.heap.size w w' := by
  have hv2 := (hv.alloc (.cells #[v] 41)).alloc (.cells #[u] 41)
  have hu2 := (hu.alloc (.cells #[v] 41)).alloc (.cells #[u] 41)
  have hw := ((Below.refl w.heap.size w).alloc (Nat.le_refl _) (.cells #[v] 41)).alloc (by simp) (.cells #[u] 41)
  clear hv hu
  go_enter Tryz.func30, Tryz.ntmps30
  go_wp2_with fail
  refine (eqRectS_same v u L _ hv2 hu2).mono ?_
  rintro e w1 ⟨rfl, hb⟩
  have Hw := Lib.hid (hw.trans (hb.mono hw.size))
  clear hv2 hu2 hw hb
  go_wp2_with fail
  go_ret
  exact ⟨rfl, Hw.out⟩
end Go.Proofs.YtfolphadhmgbiaaGreat
namespace Go.Proofs.YtfolphadhmgbiaaGreat
open Go.RowKit
theorem and_mask (x m : Int) (h0 : 0 ≤ m) (h1 : m ≤ 9223372036854775807) : 0 ≤ bits .and .i64 x m ∧ bits .and .i64 x m ≤ m := by
  obtain ⟨k, rfl⟩ := Int.eq_ofNat_of_zero_le h0
  have h2 : (BitVec.ofInt 64 (k : Int)).toNat = k := by
    rw [BitVec.ofInt_natCast, BitVec.toNat_ofNat]; exact Nat.mod_eq_of_lt (by omega)
  have h : (BitVec.ofInt 64 x &&& BitVec.ofInt 64 (k : Int)).toNat ≤ k := by
    rw [BitVec.toNat_and, h2]; exact Nat.and_le_right
  have e : bits .and .i64 x (k : Int) = IntKind.i64.wrap ((BitVec.ofInt 64 x &&& BitVec.ofInt 64 (k : Int)).toNat : Int) := rfl
  rw [e, IntWalk.i64_in _ (by omega)]; omega
/-- Block g is a cursor over a row of bytes. -/
structure Cur (w : World) (g : Nat) : Prop where
  ex : ∃ (a : Option Addr) (len cap i : Nat) (h : Int) (zs : List Int), w.heap[g]? = some (.cells #[.slice a len cap, .int .i64 i, .int .i64 h] 120 (0, 0)) ∧
    i ≤ len ∧ len ≤ maxLen ∧ IsRow .u8 w a len cap zs ∧ (∀ x, a = some x → 0 < cap → x.block < g)
theorem Cur.lt {w : World} {g : Nat} (h : Cur w g) : g < w.heap.size := by
  obtain ⟨a, len, cap, i, h, zs, hg, _⟩ := h.ex
  exact (Array.getElem?_eq_some_iff.1 hg).1
theorem IsRow.of_same {k : IntKind} {w w' : World} {a : Option Addr} {len cap : Nat} {zs : List Int} (h : IsRow k w a len cap zs)
    (hs : ∀ x, a = some x → 0 < cap → w'.heap[x.block]? = w.heap[x.block]?) : IsRow k w' a len cap zs := by
  rcases h with h | ⟨x, rfl, h1, h2, h3, h4, h5⟩
  · exact .inl h
  · refine .inr ⟨x, rfl, h1, h2, h3, fun i hi => ?_, h5⟩
    rw [← h4 i hi]
    have e : (x.add i).block = x.block := by unfold Addr.add; split <;> rfl
    exact World.cell?_of_block (by rw [e]; exact hs x rfl (by omega))
/-- A cursor stands while its own block and what lies below stand. -/
theorem Cur.kept {w w' : World} {g : Nat} (h : Cur w g) (hs : ∀ k, k ≤ g → w'.heap[k]? = w.heap[k]?) : Cur w' g := by
  obtain ⟨a, len, cap, i, h, zs, hg, h1, h2, h3, h4⟩ := h.ex
  exact ⟨a, len, cap, i, h, zs, (hs g (Nat.le_refl _)).trans hg, h1, h2, h3.of_same (fun x hx hp => hs _ (Nat.le_of_lt (h4 x hx hp))), h4⟩
theorem Cur.alloc {w : World} {g : Nat} (h : Cur w g) (o : Obj) : Cur (w.alloc o) g :=
  h.kept fun k hk => Below.heap_alloc _ _ _ (by have := h.lt; omega)
theorem Cur.drew {w : World} {g : Nat} (h : Cur w g) : Cur w.drew g := h.kept fun _ _ => rfl
theorem Cur.grown {w w' : World} {g : Nat} {row : Option Nat} (h : Cur w g) (hg : w.grownBy w' row) (hr : ∀ k, row = some k → g < k) : Cur w' g :=
  h.kept fun k hk => hg.block k (by have := h.lt; omega) (fun e => by have := hr k e.symm; omega)
theorem Cur.below {w w' : World} {g B : Nat} (h : Cur w g) (hb : Below B w w') (hB : g < B) : Cur w' g :=
  h.kept fun k hk => hb.block k (by omega)
def CurInt (lo hi : Int) (w : World) (g : Nat) (e : Ending) (w' : World) : Prop :=
  ∃ x : Int, e = .returned (.int .i64 x) ∧ lo ≤ x ∧ x ≤ hi ∧ Cur w' g ∧ w.grownBy w' (some g)
theorem cells_of_cur {w : World} {g : Nat} {s i h : Value} {T : TypeId} (hg : w.heap[g]? = some (.cells #[s, i, h] T (0, 0))) :
    w.cell? ⟨g, 0, none⟩ = some s ∧ w.cell? ⟨g, 1, none⟩ = some i ∧ w.cell? ⟨g, 2, none⟩ = some h ∧ (∀ o, w.frozen? ⟨g, o, none⟩ = false) := by
  refine ⟨?_, ?_, ?_, fun o => ?_⟩ <;> simp [World.cell?, World.frozen?, hg]
theorem grown_set (w : World) (g o : Nat) (v : Value) : w.grownBy (w.setCell ⟨g, o, none⟩ v) (some g) :=
  ⟨rfl, rfl, rfl, by simp [World.setCell], fun k _ hne => Below.heap_setCell _ _ _ _ (fun e => hne (by rw [e]))⟩
theorem grown_drewN (w : World) (n : Nat) (row : Option Nat) : w.grownBy (w.drewN n) row :=
  ⟨rfl, rfl, rfl, Nat.le_refl _, fun _ _ _ => rfl⟩
theorem Cur.turned {w w' : World} {g : Nat} {a : Option Addr} {len cap i : Nat} {h : Int} {zs : List Int} (hg' : w'.heap[g]? = some (.cells #[.slice a len cap, .int .i64 i, .int .i64 h] 120 (0, 0)))
    (h1 : i ≤ len) (h2 : len ≤ maxLen) (h3 : IsRow .u8 w a len cap zs) (h4 : ∀ x, a = some x → 0 < cap → x.block < g) (hgr : w.grownBy w' (some g)) (hgs : g < w.heap.size) : Cur w' g :=
  ⟨a, len, cap, i, h, zs, hg', h1, h2, h3.of_same (fun x hx hp => hgr.block _ (by have := h4 x hx hp; omega) (fun e => by have := h4 x hx hp; simp at e; omega)), h4⟩
theorem heap_set1 {w : World} {g : Nat} {s i h : Value} {T : TypeId} (hg : w.heap[g]? = some (.cells #[s, i, h] T (0, 0))) (v : Value) :
    (w.setCell ⟨g, 1, none⟩ v).heap[g]? = some (.cells #[s, v, h] T (0, 0)) := by simp [World.setCell, Array.getElem?_modify, hg]
theorem heap_set2 {w : World} {g : Nat} {s i h : Value} {T : TypeId} (hg : w.heap[g]? = some (.cells #[s, i, h] T (0, 0))) (v : Value) :
    (w.setCell ⟨g, 2, none⟩ v).heap[g]? = some (.cells #[s, i, v] T (0, 0)) := by simp [World.setCell, Array.getElem?_modify, hg]
theorem heap_drewN {w : World} {g : Nat} {o : Option Obj} (hg : w.heap[g]? = o) (n : Nat) : (w.drewN n).heap[g]? = o := hg
set_option maxHeartbeats 400000 in
theorem byte_any (w : World) (g : Nat) (hc : Cur w g) : Calls Tryz.prog 144 #[.pointer (some ⟨g, 0, none⟩)] w (CurInt 0 255 w g) := by
  obtain ⟨a, len, cap, i, h, zs, hg, hi, hm, hrow, hlt⟩ := hc.ex
  obtain ⟨c0, c1, c2, fz⟩ := cells_of_cur hg
  have hm' : len ≤ 9223372036854775807 := by unfold maxLen at hm; omega
  by_cases hil : i < len
  · rcases hrow with ⟨_, hl, _⟩ | ⟨x, rfl, hlc, hcm, hz0, hcell, hwf⟩
    · omega
    · have hxb := hlt x rfl (by omega)
      have hci := hcell i (by omega)
      have hwi : (Lit.int .u8 (zs.getD i 0)).wf = true := hwf _ (by rw [List.getD_eq_getElem?_getD, List.getElem?_eq_getElem (by omega)]; exact List.getElem_mem _)
      obtain ⟨z, hzz⟩ : ∃ z, z = zs.getD i 0 := ⟨_, rfl⟩
      rw [← hzz] at hci hwi
      clear hzz
      have hz : 0 ≤ z ∧ z ≤ 255 := by simpa [Lit.wf, IntKind.min, IntKind.max, IntKind.signed, IntKind.bits] using hwi
      have hne : ∀ o, (x.add i) ≠ ⟨g, o, none⟩ := fun o e => by
        have e2 : (x.add i).block = x.block := by unfold Addr.add; split <;> rfl
        rw [e] at e2; simp at e2; omega
      have hci2 : ∀ v, (w.setCell ⟨g, 2, none⟩ v).cell? (x.add i) = some (.int .u8 z) := fun v => by
        rw [← hci]
        exact World.cell?_of_block (Below.heap_setCell _ _ _ _ (by have e2 : (x.add i).block = x.block := by { unfold Addr.add; split <;> rfl }; rw [e2]; simp; omega))
      have Hil := Lib.hid hil
      have Hg := Lib.hid hg
      have Hrow : Hid (IsRow .u8 w (some x) len cap zs) := .inr ⟨x, rfl, hlc, hcm, hz0, hcell, hwf⟩
      clear hcell hwf hwi hne hil hg
      have hd : decide ((i : Int) < len) = true := by have := Hil.out; simp; omega
      have i0 : (0 : Int) ≤ i := by omega
      have i1 : (i : Int) < len := by have := Hil.out; omega
      go_enter Tryz.func144, Tryz.ntmps144
      go_wp2
      go_quiet (fail)
      go_wp2
      go_quiet (fail)
      go_wp2
      go_quiet (fail)
      go_wp2
      go_ret
      rename_i nq1 nq2
      have hgr := ((grown_set w g 2 (.int .i64 (wrap64 (wrap64 (h * 6364136223846793005) + 1442695040888963407)))).trans (grown_drewN _ (nq1 + nq2 + nq) _)).trans (grown_set _ g 1 (.int .i64 (i + 1)))
      refine ⟨_, rfl, (and_mask _ 255 (by omega) (by omega)).1, (and_mask _ 255 (by omega) (by omega)).2, ?_, hgr⟩
      exact Cur.turned (i := i + 1) (heap_set1 (heap_drewN (heap_set2 Hg.out _) _) _) (by have := Hil.out; omega) hm Hrow.out hlt hgr hc.lt
  · have Hg := Lib.hid hg
    clear hg
    have hd : decide ((i : Int) < len) = false := by simp; omega
    go_enter Tryz.func144, Tryz.ntmps144
    go_wp2
    go_quiet (fail)
    go_wp2
    go_quiet (fail)
    go_wp2
    go_ret
    rename_i nq1
    have hgr := ((grown_set w g 2 (.int .i64 (wrap64 (wrap64 (h * 6364136223846793005) + 1442695040888963407)))).trans (grown_drewN _ nq1 _)).trans (grown_drewN _ nq _)
    refine ⟨_, rfl, (and_mask _ 255 (by omega) (by omega)).1, (and_mask _ 255 (by omega) (by omega)).2, ?_, hgr⟩
    exact Cur.turned (heap_drewN (heap_drewN (heap_set2 Hg.out _) _) _) hi hm hrow hlt hgr hc.lt
/-- What l01Below answers at n. -/
def BelowInt (n : Int) (w : World) (g : Nat) (e : Ending) (w' : World) : Prop :=
  ∃ x : Int, e = .returned (.int .i64 x) ∧ 0 ≤ x ∧ (0 < n → x < n) ∧ (n ≤ 0 → x = 0) ∧ Cur w' g ∧ w.grownBy w' (some g)
set_option maxHeartbeats 400000 in
theorem below_any (w : World) (g : Nat) (n : Int) (hn : n ≤ 9223372036854775807) (hc : Cur w g) :
    Calls Tryz.prog 93 #[.pointer (some ⟨g, 0, none⟩), .int .i64 n] w (BelowInt n w g) := by
  by_cases h0 : n ≤ 0
  · go_enter Tryz.func93, Tryz.ntmps93
    go_wp2_with fail
    go_ret
    exact ⟨0, rfl, by omega, fun h => by omega, fun _ => rfl, hc, World.grownBy.refl _ _⟩
  by_cases h1 : n ≤ 256
  · go_enter Tryz.func93, Tryz.ntmps93
    go_wp2_with (go_at_call 144; (with_reducible refine (byte_any _ _ hc).mono ?_); rintro e w1 ⟨x, rfl, hx0, hx1, hc1, hg1⟩)
    go_ret
    exact ⟨_, rfl, Int.emod_nonneg _ (by omega), fun _ => Int.emod_lt_of_pos _ (by omega), fun h => by omega, hc1, hg1⟩
  · go_enter Tryz.func93, Tryz.ntmps93
    go_wp2_with fail
    refine (byte_any _ _ hc).mono ?_
    rintro e w1 ⟨x1, rfl, ha1, hb1, hc1, hg1⟩
    go_wp2_with fail
    refine (byte_any _ _ hc1).mono ?_
    rintro e w2 ⟨x2, rfl, ha2, hb2, hc2, hg2⟩
    go_wp2_with fail
    refine (byte_any _ _ hc2).mono ?_
    rintro e w3 ⟨x3, rfl, ha3, hb3, hc3, hg3⟩
    go_wp2_with fail
    refine (byte_any _ _ hc3).mono ?_
    rintro e w4 ⟨x4, rfl, ha4, hb4, hc4, hg4⟩
    go_wp2_with fail
    go_ret
    exact ⟨_, rfl, Int.emod_nonneg _ (by omega), fun _ => Int.emod_lt_of_pos _ (by omega), fun h => by omega, hc4, ((hg1.trans hg2).trans hg3).trans hg4⟩
/-- What l01Once answers. -/
def CurBool (w : World) (g : Nat) (e : Ending) (w' : World) : Prop := ∃ b : Bool, e = .returned (.bool b) ∧ Cur w' g ∧ w.grownBy w' (some g)
theorem once_any (w : World) (g : Nat) (n : Int) (hn : n ≤ 9223372036854775807) (hc : Cur w g) :
    Calls Tryz.prog 150 #[.pointer (some ⟨g, 0, none⟩), .int .i64 n] w (CurBool w g) := by
  go_enter Tryz.func150, Tryz.ntmps150
  go_wp2_with (go_at_call 93; (with_reducible refine (below_any _ _ _ hn hc).mono ?_); rintro e w1 ⟨x, rfl, hx0, hx1, hx2, hc1, hg1⟩)
  go_ret
  exact ⟨_, rfl, hc1, hg1⟩
/-- What l01New answers: a cursor in a new block. -/
def NewCur (w : World) (e : Ending) (w' : World) : Prop :=
  ∃ g : Nat, e = .returned (.pointer (some ⟨g, 0, none⟩)) ∧ w.heap.size ≤ g ∧ Cur w' g ∧ Below w.heap.size w w'
theorem cur_new (w : World) (a : Option Addr) (len cap : Nat) (h : Int) (zs : List Int) (hm : len ≤ maxLen) (hrow : IsRow .u8 w a len cap zs) (hlt : ∀ x, a = some x → 0 < cap → x.block < w.heap.size) :
    Cur (w.alloc (.cells #[.slice a len cap, .int .i64 0, .int .i64 h] 120)) w.heap.size :=
  ⟨a, len, cap, 0, h, zs, heap_alloc_new w _, Nat.zero_le _, hm, hrow.of_same (fun x hx hp => Below.heap_alloc _ _ _ (hlt x hx hp)), hlt⟩
theorem IsRow.lt {k : IntKind} {w : World} {a : Option Addr} {len cap : Nat} {zs : List Int} (h : IsRow k w a len cap zs) : ∀ x, a = some x → 0 < cap → x.block < w.heap.size := by
  rintro x rfl hl
  rcases h with ⟨h, _⟩ | ⟨y, hy, h1, h2, h3, h4, h5⟩
  · cases h
  · cases hy
    have := World.block_lt_of_cell? w _ (h4 0 (by omega))
    have e2 : (x.add 0).block = x.block := by unfold Addr.add; split <;> rfl
    rw [e2] at this
    exact this
set_option maxRecDepth 100000 in
set_option maxHeartbeats 400000 in
theorem new_any (w : World) (a : Option Addr) (len cap : Nat) (zs : List Int) (hrow : IsRow .u8 w a len cap zs) :
    Calls Tryz.prog 47 #[.slice a len cap] w (NewCur w) := by
  have hm : len ≤ maxLen := by rcases hrow with ⟨_, h, _⟩ | ⟨_, _, h1, h2, _⟩ <;> omega
  have hm' : len ≤ 9223372036854775807 := by unfold maxLen at hm; omega
  have hlt := hrow.lt
  have Hlt := Lib.hid hlt
  clear hlt
  have Hrow := Lib.hid hrow
  have Hm := Lib.hid hm
  have hcell : ∀ k, k < len → ∃ x z, a = some x ∧ w.cell? (x.add k) = some (.int .u8 z) ∧ 0 ≤ z ∧ z ≤ 255 := by
    intro k hk
    rcases hrow with ⟨_, hl, _⟩ | ⟨x, rfl, hlc, hcm, hz0, hcell, hwf⟩
    · omega
    · have hwi : (Lit.int .u8 (zs.getD k 0)).wf = true := hwf _ (by rw [List.getD_eq_getElem?_getD, List.getElem?_eq_getElem (by omega)]; exact List.getElem_mem _)
      exact ⟨x, _, rfl, hcell k (by omega), by simpa [Lit.wf, IntKind.min, IntKind.max, IntKind.signed, IntKind.bits] using hwi⟩
  clear hrow hm
  have Hcell := Lib.hid hcell
  clear hcell
  go_enter Tryz.func47, Tryz.ntmps47
  go_wp2
  go_loop [3, 4] (fun h i => ∃ (k : Nat) (x : Int), k ≤ len ∧ i = .int .i64 k ∧ h = .int .i64 x) (fun _ i => len - (intOf i).toNat)
  case atStart => exact ⟨0, _, Nat.zero_le _, rfl, rfl⟩
  case round =>
    obtain ⟨k, x, hk, rfl, rfl⟩ := hrel
    by_cases hl : k < len ∧ k < 4000
    · obtain ⟨hl1, hl2⟩ := hl
      obtain ⟨y, z, hy, hz, hz0, hz1⟩ := Hcell.out k hl1
      subst hy
      go_wp2
      go_round
      case rel => exact ⟨k + 1, _, by omega, by go_num, rfl⟩
      case measure => simp [intOf]; omega
    · by_cases hl1 : k < len
      · have hl2 : 4000 ≤ k := by omega
        clear hl
        go_wp2
        go_ret
        exact ⟨_, rfl, Nat.le_refl _, cur_new w a len cap x zs Hm.out Hrow.out Hlt.out, (Below.refl _ _).alloc (Nat.le_refl _) _⟩
      · clear hl
        go_wp2
        go_ret
        exact ⟨_, rfl, Nat.le_refl _, cur_new w a len cap x zs Hm.out Hrow.out Hlt.out, (Below.refl _ _).alloc (Nat.le_refl _) _⟩
end Go.Proofs.YtfolphadhmgbiaaGreat
namespace Go.Proofs.YtfolphadhmgbiaaGreat
open Go.RowKit
theorem RcAt.grown {w w' : World} {g : Nat} {row : Option Nat} {r : Rc} (h : RcAt w g r) (hb : w.grownBy w' row) (hg : some g ≠ row) : RcAt w' g r := (hb.block g h.lt hg).trans h
end Go.Proofs.YtfolphadhmgbiaaGreat
namespace Go.Proofs.YtfolphadhmgbiaaGreat
open Go.RowKit
/-- What RegionOk answers. -/
def RokAns (L : List Rc) (w : World) (e : Ending) (w' : World) : Prop := e = .returned (.bool (okL L)) ∧ Below w.heap.size w w'
theorem cell_drew {w : World} {a : Addr} {v : Value} (h : w.cell? a = some v) : w.drew.cell? a = some v := h
theorem cell_drewN {w : World} {a : Addr} {v : Value} (h : w.cell? a = some v) (q : Nat) : (w.drewN q).cell? a = some v := h
theorem cell_call {w w' : World} {g o : Nat} {v : Value} (hb : Below w.heap.size w w') (h : w.cell? ⟨g, o, none⟩ = some v) : w'.cell? ⟨g, o, none⟩ = some v :=
  (hb.cell (p := ⟨g, o, none⟩) (World.block_lt_of_cell? w _ h)).trans h
theorem below_call {a w w' : World} (h : Below a.heap.size a w) (hb : Below w.heap.size w w') : Below a.heap.size a w' := h.trans (hb.mono h.size)
theorem field_rg (u : Value) (W : World) : (Instr.field 41 (.agg #[u]) 0).run Tryz.prog W = .ok u W := by
  simp [Instr.field, run_underlying Tryz.underlying41, asAgg, part, go_sem]
set_option maxHeartbeats 1000000 in
set_option maxRecDepth 10000 in
theorem rokS (v : Value) (L : List Rc) (w : World) (h : RdR w v L) : Calls Tryz.prog 59 #[.agg #[v]] w (RokAns L w) := by
  have hV := h.alloc (.cells #[v] 41)
  have hw := (Below.refl w.heap.size w).alloc (Nat.le_refl _) (.cells #[v] 41)
  have hc : (w.alloc (.cells #[v] 41)).cell? ⟨w.heap.size, 0, none⟩ = some v := new_cell w v _
  clear h
  go_enter Tryz.func59, Tryz.ntmps59
  go_wp2_with fail
  go_region_held3 (fun w' => w'.cell? ⟨w.heap.size, 0, none⟩ = some v)
    (with_reducible first | exact hc | exact cell_drew hc | fail)
    (first | (go_at_call 64; (with_reducible first | refine (rofS v L _ hV).mono ?_ | refine (rofS v L _ hV.drew).mono ?_); rintro e wk ⟨u, rfl, hown, hbk⟩; have hfld := field_rg u; (with_reducible first | have hV := hV.call hbk | have hV := hV.drew.call hbk); (with_reducible first | have hw := below_call hw hbk | have hw := below_call hw.drew hbk); (with_reducible first | (have hc := cell_call hbk hc) | (have hc := cell_call hbk (cell_drew hc)))) | (go_at_call 115; (with_reducible first | refine (sameS u v _ L _ (RdR.of_own hown) hV).mono ?_ | refine (sameS u v _ L _ (RdR.of_own hown).drew hV.drew).mono ?_); rintro e wk ⟨rfl, q, rfl⟩; have hw := below_drewN hw q; have hc := cell_drewN hc q))
  go_wp2_with fail
  go_ret
  exact ⟨rfl, by first | exact hw | exact hw.drew | exact below_drewN hw _⟩
set_option maxHeartbeats 1000000 in
set_option maxRecDepth 10000 in
theorem rokI (v : Value) (L : List Rc) (w : World) (h : RdR w v L) : Calls Tryz.prog 65 #[.agg #[v]] w (RokAns L w) := by
  have hV := h.alloc (.cells #[v] 41)
  have hw := (Below.refl w.heap.size w).alloc (Nat.le_refl _) (.cells #[v] 41)
  have hc : (w.alloc (.cells #[v] 41)).cell? ⟨w.heap.size, 0, none⟩ = some v := new_cell w v _
  clear h
  go_enter Tryz.func65, Tryz.ntmps65
  go_wp2_with fail
  go_region_held3 (fun w' => w'.cell? ⟨w.heap.size, 0, none⟩ = some v)
    (with_reducible first | exact hc | exact cell_drew hc | fail)
    (first | (go_at_call 114; (with_reducible first | refine (rofI v L _ hV).mono ?_ | refine (rofI v L _ hV.drew).mono ?_); rintro e wk ⟨u, rfl, hown, hbk⟩; have hfld := field_rg u; (with_reducible first | have hV := hV.call hbk | have hV := hV.drew.call hbk); (with_reducible first | have hw := below_call hw hbk | have hw := below_call hw.drew hbk); (with_reducible first | (have hc := cell_call hbk hc) | (have hc := cell_call hbk (cell_drew hc)))) | (go_at_call 120; (with_reducible first | refine (sameI u v _ L _ (RdR.of_own hown) hV).mono ?_ | refine (sameI u v _ L _ (RdR.of_own hown).drew hV.drew).mono ?_); rintro e wk ⟨rfl, q, rfl⟩; have hw := below_drewN hw q; have hc := cell_drewN hc q))
  go_wp2_with fail
  go_ret
  exact ⟨rfl, by first | exact hw | exact hw.drew | exact below_drewN hw _⟩
end Go.Proofs.YtfolphadhmgbiaaGreat
namespace Go.Proofs.YtfolphadhmgbiaaGreat
open Go.RowKit
theorem wp_alloc_grid {op : Oper} {a : Act} {w : World} {K : Act → World → Prop} {Q : Exit → Act → World → Prop} (d : Nat) (ho : op.op = .alloc 177) (hd : op.dst = some d)
    (h : ∀ b W', Below w.heap.size w W' → GrAt W' b 177 (fun _ => false) → w.heap.size ≤ b → K (a.put (some d) (.pointer (some ⟨b, 0, none⟩))) W') : op.wp Tryz.prog a w K Q := by
  have h1 := h w.heap.size (w.alloc (.cells (gCells fun _ => false) 177)) ((Below.refl _ _).alloc (Nat.le_refl _) _) (GrAt.new w _ _) (Nat.le_refl _)
  have hz := zeroGrid w
  unfold Oper.wp execOp
  simp only [ho, Instr.alloc, Sem.run_bind, hz, Result.andThen_ok, Sem.run_pure]
  rw [← hd] at h1
  exact h1
theorem GrAt.call {w w' : World} {b : Nat} {t : TypeId} {g : Nat → Bool} (h : GrAt w b t g) (hb : Below w.heap.size w w') : GrAt w' b t g := h.below hb h.lt
theorem cell_row {w : World} {g o b : Nat} {v : Value} (h : w.cell? ⟨g, o, none⟩ = some v) (hb : g ≠ b) (cs : Array Value) : (w.setRow b cs).cell? ⟨g, o, none⟩ = some v := by
  rw [cell_setRow_other w b cs _ hb]; exact h
/-- Block b is a region's variable that still holds nothing. -/
def BxR (w : World) (b : Nat) : Prop := w.heap[b]? = some (.cells #[.slice none 0 0] 41 (0, 0))
theorem BxR.lt {w : World} {b : Nat} (h : BxR w b) : b < w.heap.size := (Array.getElem?_eq_some_iff.1 h).1
theorem BxR.cell {w : World} {b : Nat} (h : BxR w b) : w.cell? ⟨b, 0, none⟩ = some (.slice none 0 0) := by rw [cell_of_row _ _ _ _ _ _ h]; rfl
theorem BxR.frozen {w : World} {b : Nat} (h : BxR w b) : w.frozen? ⟨b, 0, none⟩ = false := by unfold BxR at h; simp [World.frozen?, h]
theorem BxR.call {w w' : World} {b : Nat} (h : BxR w b) (hb : Below w.heap.size w w') : BxR w' b := (hb.block b h.lt).trans h
theorem BxR.rowFar {w : World} {b c : Nat} (h : BxR w b) (hc : b ≠ c) (cs : Array Value) : BxR (w.setRow c cs) b := (setRow_other w c b cs hc).trans h
/-- Points combined, place by place. -/
def joinG (f : Bool → Bool → Bool) (g h : Nat → Bool) (k : Nat) : Bool := f (g k) (h k)
/-- .. as far as place n. -/
def joinTo (f : Bool → Bool → Bool) (g h : Nat → Bool) (n k : Nat) : Bool := if k < n then f (g k) (h k) else g k
theorem joinTo_zero (f : Bool → Bool → Bool) (g h : Nat → Bool) (k : Nat) : joinTo f g h 0 k = g k := if_neg (by omega)
theorem joinTo_next (f : Bool → Bool → Bool) (g h : Nat → Bool) (n k : Nat) : gSet (joinTo f g h n) n (f (g n) (h n)) k = joinTo f g h (n + 1) k := by
  unfold gSet joinTo
  by_cases e : k = n
  · subst e; rw [if_pos rfl, if_pos (by omega)]
  · rw [if_neg e]
    by_cases h1 : k < n
    · rw [if_pos h1, if_pos (by omega)]
    · rw [if_neg h1, if_neg (by omega)]
theorem joinTo_at (f : Bool → Bool → Bool) (g h : Nat → Bool) (n : Nat) : joinTo f g h n n = g n := if_neg (by omega)
theorem joinTo_end (f : Bool → Bool → Bool) (g h : Nat → Bool) (k : Nat) (hk : k < 256) : joinTo f g h 256 k = joinG f g h k := if_pos hk
open Classical in
/-- The answer of a function that combines two regions. -/
noncomputable def joinL (f : Bool → Bool → Bool) (A B : List Rc) : List Rc := if okL A = true ∧ okL B = true then canon (joinG f (gridOf A) (gridOf B)) else []
theorem joinL_no {f : Bool → Bool → Bool} {A B : List Rc} (h : ¬ (okL A = true ∧ okL B = true)) : joinL f A B = [] := if_neg h
theorem joinL_yes {f : Bool → Bool → Bool} {A B : List Rc} (h : okL A = true ∧ okL B = true) : joinL f A B = canon (joinG f (gridOf A) (gridOf B)) := if_pos h
theorem joinL_len (f : Bool → Bool → Bool) (A B : List Rc) : (joinL f A B).length ≤ 256 := by
  by_cases h : okL A = true ∧ okL B = true
  · rw [joinL_yes h]; exact canon_len _
  · rw [joinL_no h]; simp
/-- What such a function answers. -/
def JoinAns (f : Bool → Bool → Bool) (A B : List Rc) (w : World) (e : Ending) (w' : World) : Prop :=
  ∃ v, e = .returned (.agg #[v]) ∧ w'.ownsRow w.heap.size 92 4 v (joinL f A B).length (rcsCells (joinL f A B)) ∧ Below w.heap.size w w'
/-- What is there behind the statement that makes the two grids. -/
structure CgSt (w : World) (g h : Nat → Bool) (b c : Nat) (W : World) : Prop where
  g1 : GrAt W b 177 g
  g2 : GrAt W c 177 h
  ne : b ≠ c
  l1 : w.heap.size + 3 ≤ b
  l2 : w.heap.size + 3 ≤ c
  rs : BxR W (w.heap.size + 2)
  bw : Below w.heap.size w W
theorem CgSt.call {w W W' : World} {g h : Nat → Bool} {b c : Nat} (k : CgSt w g h b c W) (hb : Below W.heap.size W W') : CgSt w g h b c W' :=
  ⟨k.g1.call hb, k.g2.call hb, k.ne, k.l1, k.l2, k.rs.call hb, k.bw.trans (hb.mono k.bw.size)⟩
theorem CgSt.congr {w W : World} {g g' h : Nat → Bool} {b c : Nat} (k : CgSt w g h b c W) (e : ∀ i, i < 256 → g i = g' i) : CgSt w g' h b c W :=
  ⟨k.g1.congr e, k.g2, k.ne, k.l1, k.l2, k.rs, k.bw⟩
theorem CgSt.set {w W : World} {g h : Nat → Bool} {b c : Nat} (k : CgSt w g h b c W) (n : Nat) (v : Bool) : CgSt w (gSet g n v) h b c (W.setCell ⟨b, n, none⟩ (.bool v)) :=
  ⟨k.g1.set n v, k.g2.far (Ne.symm k.ne) _, k.ne, k.l1, k.l2, (Below.heap_setCell W _ _ _ (by have := k.l1; simp; omega)).trans k.rs, k.bw.setCell (by have := k.l1; simp; omega) _⟩
theorem CgSt.drewSet {w W : World} {g h : Nat → Bool} {b c n : Nat} {v : Value} (k : CgSt w g h b c (W.setCell ⟨b, n, none⟩ v)) : CgSt w g h b c (W.drew.setCell ⟨b, n, none⟩ v) :=
  ⟨k.g1, k.g2, k.ne, k.l1, k.l2, k.rs, ⟨k.bw.os, k.bw.tape, k.bw.output, k.bw.size, k.bw.block⟩⟩
end Go.Proofs.YtfolphadhmgbiaaGreat
namespace Go.Proofs.YtfolphadhmgbiaaGreat
open Go.RowKit
theorem RcAt.call {w w' : World} {g : Nat} {r : Rc} (h : RcAt w g r) (hb : Below w.heap.size w w') : RcAt w' g r := h.below hb h.lt
end Go.Proofs.YtfolphadhmgbiaaGreat
namespace Go.Proofs.YtfolphadhmgbiaaGreat
open Go.RowKit
theorem enterM (args : Array Value) (w : World) : (callFunc 199 args).run Tryz.prog w = .ok (.enter 199 args) w := by simp [go_sem]
theorem enterQ (args : Array Value) (w : World) : (callFunc 197 args).run Tryz.prog w = .ok (.enter 197 args) w := by simp [go_sem]
theorem repM (p : Pp) (o : Int) (ho : orOk o) (hp : p.ok) (w : World) : Calls Tryz.prog 196 #[.func (.func 199) #[] #[], .int .i64 (o / 4), .agg #[.int .i64 p.w, .int .i64 p.h, .int .i64 p.x, .int .i64 p.y]] w (PpAns (Pp.rep Pp.mir (o / 4).toNat p) w) := by
  obtain ⟨h1, h2⟩ := ho
  have h := repOI 199 Pp.mir enterM (fun p W h => mir_any p h W) (fun _ => Pp.mir_ok) (o / 4).toNat (by omega) p hp w
  rw [show (((o / 4).toNat : Nat) : Int) = o / 4 by omega] at h
  exact h
theorem repQ (p : Pp) (o : Int) (ho : orOk o) (hp : p.ok) (w : World) : Calls Tryz.prog 196 #[.func (.func 197) #[] #[], .int .i64 (o % 4), .agg #[.int .i64 p.w, .int .i64 p.h, .int .i64 p.x, .int .i64 p.y]] w (PpAns (Pp.rep Pp.qt (o % 4).toNat p) w) := by
  obtain ⟨h1, h2⟩ := ho
  have h := repOI 197 Pp.qt enterQ (fun p W h => qt_any p h W) (fun _ => Pp.qt_ok) (o % 4).toNat (by omega) p hp w
  rw [show (((o % 4).toNat : Nat) : Int) = o % 4 by omega] at h
  exact h
structure OpSt (w : World) (p : Pp) (W : World) : Prop where
  pt : BkAt W w.heap.size 194 #[.int .i64 p.w, .int .i64 p.h, .int .i64 p.x, .int .i64 p.y]
  bw : Below w.heap.size w W
theorem OpSt.drew {w : World} {p : Pp} {W : World} (h : OpSt w p W) : OpSt w p W.drew := ⟨h.pt, h.bw.drew⟩
theorem OpSt.call {w : World} {p : Pp} {W W' : World} (h : OpSt w p W) (hb : Below W.heap.size W W') : OpSt w p W' := ⟨h.pt.call hb, h.bw.trans (hb.mono h.bw.size)⟩
theorem OpSt.set {w : World} {p : Pp} {W W' : World} (h : OpSt w p W) (hg : W.grownBy W' (some (w.heap.size + 1))) : OpSt w p W' :=
  ⟨h.pt.grown hg (fun e => by injection e with e; omega), h.bw.grown hg h.bw.size (fun k hk => by injection hk with hk; omega)⟩
set_option maxHeartbeats 600000 in
set_option maxRecDepth 10000 in
theorem orPt_any (p : Pp) (o : Int) (ho : orOk o) (hp : p.ok) (w : World) : Calls Tryz.prog 189 #[.agg #[.int .i64 p.w, .int .i64 p.h, .int .i64 p.x, .int .i64 p.y], .int .i64 o] w (PpAns (Pp.ori o p) w) := by
  have hT : OpSt w p ((w.alloc (.cells #[.int .i64 p.w, .int .i64 p.h, .int .i64 p.x, .int .i64 p.y] 194)).alloc (.cells #[.int .i64 0, .int .i64 0, .int .i64 0, .int .i64 0] 194)) :=
    ⟨(BkAt.new _ _ _).alloc _, ((Below.refl _ _).alloc (Nat.le_refl _) _).alloc (by simp) _⟩
  have hR : BkAt ((w.alloc (.cells #[.int .i64 p.w, .int .i64 p.h, .int .i64 p.x, .int .i64 p.y] 194)).alloc (.cells #[.int .i64 0, .int .i64 0, .int .i64 0, .int .i64 0] 194)) (w.heap.size + 1) 194 #[.int .i64 0, .int .i64 0, .int .i64 0, .int .i64 0] := BkAt.newAt (by simp) _ _
  have hq : (Pp.rep Pp.mir (o / 4).toNat p).ok := Pp.rep_ok (fun _ => Pp.mir_ok) _ hp
  have Hq := Lib.hid hq
  have Ho := Lib.hid ho
  have Hp := Lib.hid hp
  clear hq ho hp
  go_enter Tryz.func189, Tryz.ntmps189
  go_upto_region 1 with fail
  refine wp_region_held_drew (S := fun V => OpSt w p V) (by kernel_rfl) hT.drew (fun hS => ?_)
  replace hR := hR.drew
  refine wpAnyH_take (i := 0) (v := .int .i64 o) rfl (by kernel_rfl) (by kernel_rfl) (by kernel_rfl) (fun _ _ _ h => h) (Or.inl ⟨by kernel_rfl, by intro w' hSw; (try dsimp only at hSw); (obtain ⟨c0, c1, c2, c3⟩ := hSw.pt.cells4); go_simp⟩) (by assumption) ?_
  refine wpAnyH_take (i := 2) (v := .int .i64 o) rfl (by kernel_rfl) (by kernel_rfl) (by kernel_rfl) (fun _ _ _ h => h) (Or.inl ⟨by kernel_rfl, by intro w' hSw; (try dsimp only at hSw); (obtain ⟨c0, c1, c2, c3⟩ := hSw.pt.cells4); go_simp⟩) (by assumption) ?_
  refine wpAnyH_take (i := 4) (v := .agg #[.int .i64 p.w, .int .i64 p.h, .int .i64 p.x, .int .i64 p.y]) rfl (by kernel_rfl) (by kernel_rfl) (by kernel_rfl) (fun _ _ _ h => h) (Or.inl ⟨by kernel_rfl, by intro w' hSw; (try dsimp only at hSw); (obtain ⟨c0, c1, c2, c3⟩ := hSw.pt.cells4); go_simp⟩) (by assumption) ?_
  (try simp only [Act.put]); (try simp only [List.setIfInBounds_toArray]); (try simp only [List.set_cons_zero, List.set_cons_succ])
  refine wpAnyH_ready (rs := [1]) (by kernel_rfl) (by simp) ?_
  refine (AllReadyH.cons rfl (fun K hK => ?_) AllReadyH.nil)
  · rw [if_pos (by kernel_rfl)]
    (try simp only [List.getElem_toArray]); (try simp only [List.getElem_cons_succ]); (try simp only [List.getElem_cons_zero])
    go_simp
    with_reducible refine (turns_any o Ho.out _).mono ?_
    rintro e W' ⟨rfl, rfl⟩
    dsimp only
    skip
    refine hK.out _ _ (hS) (fun hS => ?_)
    clear hK
    (try simp only [Act.put]); (try simp only [List.setIfInBounds_toArray]); (try simp only [List.set_cons_zero, List.set_cons_succ])
    refine wpAnyH_ready (rs := [3]) (by kernel_rfl) (by simp) ?_
    refine (AllReadyH.cons rfl (fun K hK => ?_) AllReadyH.nil)
    · rw [if_pos (by kernel_rfl)]
      (try simp only [List.getElem_toArray]); (try simp only [List.getElem_cons_succ]); (try simp only [List.getElem_cons_zero])
      go_simp
      with_reducible refine (mirrors_any o Ho.out _).mono ?_
      rintro e W' ⟨rfl, rfl⟩
      dsimp only
      skip
      refine hK.out _ _ (hS) (fun hS => ?_)
      clear hK
      (try simp only [Act.put]); (try simp only [List.setIfInBounds_toArray]); (try simp only [List.set_cons_zero, List.set_cons_succ])
      refine wpAnyH_ready (rs := [5]) (by kernel_rfl) (by simp) ?_
      refine (AllReadyH.cons rfl (fun K hK => ?_) AllReadyH.nil)
      · rw [if_pos (by kernel_rfl)]
        (try simp only [List.getElem_toArray]); (try simp only [List.getElem_cons_succ]); (try simp only [List.getElem_cons_zero])
        go_simp
        with_reducible refine (repM p o Ho.out Hp.out _).mono ?_
        rintro e W' ⟨rfl, hb⟩
        dsimp only
        have hR := hR.call hb
        refine hK.out _ _ (hS.call hb) (fun hS => ?_)
        clear hK
        (try simp only [Act.put]); (try simp only [List.setIfInBounds_toArray]); (try simp only [List.set_cons_zero, List.set_cons_succ])
        refine wpAnyH_ready (rs := [6]) (by kernel_rfl) (by simp) ?_
        refine (AllReadyH.cons rfl (fun K hK => ?_) AllReadyH.nil)
        · rw [if_pos (by kernel_rfl)]
          (try simp only [List.getElem_toArray]); (try simp only [List.getElem_cons_succ]); (try simp only [List.getElem_cons_zero])
          go_simp
          with_reducible refine (repQ (Pp.rep Pp.mir (o / 4).toNat p) o Ho.out Hq.out _).mono ?_
          rintro e W' ⟨rfl, hb⟩
          dsimp only
          have hR := hR.call hb
          refine hK.out _ _ (hS.call hb) (fun hS => ?_)
          clear hK
          (try simp only [Act.put]); (try simp only [List.setIfInBounds_toArray]); (try simp only [List.set_cons_zero, List.set_cons_succ])
          refine wpAnyH_ready (rs := [7]) (by kernel_rfl) (by simp) ?_
          refine (AllReadyH.cons rfl (fun K hK => ?_) AllReadyH.nil)
          · rw [if_pos (by kernel_rfl)]
            (try simp only [List.getElem_toArray]); (try simp only [List.getElem_cons_succ]); (try simp only [List.getElem_cons_zero])
            refine wp_store_bk 194 (.tmp 4) (.tmp 11) rfl (w.heap.size + 1) 194 _ #[.int .i64 (Pp.ori o p).w, .int .i64 (Pp.ori o p).h, .int .i64 (Pp.ori o p).x, .int .i64 (Pp.ori o p).y] (by kernel_rfl) (by rfl) (by simp [Value.oneCell']) rfl (by first | with_reducible rfl | (go_simp; done) | rfl) hR ?_
            intro W3 IB hgB
            skip
            refine hK.out _ _ (hS.set hgB) (fun hS => ?_)
            clear hK
            (try simp only [Act.put]); (try simp only [List.setIfInBounds_toArray]); (try simp only [List.set_cons_zero, List.set_cons_succ])
            refine wpAnyH_done (by kernel_rfl) ?_ _
            obtain ⟨z0, z1, z2, z3⟩ := IB.cells4
            go_wp2_with fail
            exact bodyPost_ret (v := .agg #[.int .i64 (Pp.ori o p).w, .int .i64 (Pp.ori o p).h, .int .i64 (Pp.ori o p).x, .int .i64 (Pp.ori o p).y]) (by simp [results, Tryz.results189, go_sem, z0, z1, z2, z3]) rfl ⟨rfl, hS.bw⟩
end Go.Proofs.YtfolphadhmgbiaaGreat
namespace Go.Proofs.YtfolphadhmgbiaaGreat
open Go.RowKit
open Classical in
noncomputable def opM (w h o x y : Int) : Int × Int := if orOk o ∧ (⟨w, h, x, y⟩ : Pp).ok then ((Pp.ori o ⟨w, h, x, y⟩).x, (Pp.ori o ⟨w, h, x, y⟩).y) else (-1, -1)
theorem op_yes {w h o x y : Int} (h1 : orOk o) (h2 : (⟨w, h, x, y⟩ : Pp).ok) : opM w h o x y = ((Pp.ori o ⟨w, h, x, y⟩).x, (Pp.ori o ⟨w, h, x, y⟩).y) := if_pos ⟨h1, h2⟩
theorem op_no {w h o x y : Int} (h0 : ¬ (orOk o ∧ (⟨w, h, x, y⟩ : Pp).ok)) : opM w h o x y = (-1, -1) := if_neg h0
open Classical in
noncomputable def osM (w h o : Int) : Int × Int := if szOk w h ∧ orOk o then (orW w h o, orH w h o) else (0, 0)
theorem os_yes {w h o : Int} (h1 : szOk w h) (h2 : orOk o) : osM w h o = (orW w h o, orH w h o) := if_pos ⟨h1, h2⟩
theorem os_no {w h o : Int} (h0 : ¬ (szOk w h ∧ orOk o)) : osM w h o = (0, 0) := if_neg h0
/-- What answers two numbers. -/
def TwoAns (p : Int × Int) (w : World) (e : Ending) (w' : World) : Prop := e = .returned (.tuple #[.int .i64 p.1, .int .i64 p.2]) ∧ Below w.heap.size w w'
theorem ret_two {a b : Int} {p : Int × Int} (h : p = (a, b)) : Ending.returned (.tuple #[.int .i64 a, .int .i64 b]) = .returned (.tuple #[.int .i64 p.1, .int .i64 p.2]) := by rw [h]
theorem or_no {o : Int} (h : ¬ orOk o) : o < 0 ∨ 7 < o := by unfold orOk at h; omega
set_option maxHeartbeats 600000 in
theorem osI (a b o : Int) (w : World) : Calls Tryz.prog 186 #[.int .i64 a, .int .i64 b, .int .i64 o] w (TwoAns (osM a b o) w) := by
  by_cases hs : szOk a b
  · by_cases ho : orOk o
    · have HA := Lib.hid (os_yes hs ho)
      have Hs := Lib.hid hs
      have Ho := Lib.hid ho
      have hp : (⟨a, b, 0, 0⟩ : Pp).ok := by unfold szOk at hs; unfold Pp.ok; dsimp only; omega
      have Hp := Lib.hid hp
      have R := fun W => orPt_any ⟨a, b, 0, 0⟩ o ho hp W
      have e1 := ori_w ho ⟨a, b, 0, 0⟩
      have e2 := ori_h ho ⟨a, b, 0, 0⟩
      dsimp only at R e1 e2
      unfold PpAns at R
      rw [e1, e2] at R
      have HR := Lib.hid R
      clear hs ho hp R e1 e2
      go_enter Tryz.func186, Tryz.ntmps186
      go_wp2_with fail
      refine (szI_yes _ _ Hs.out _).mono ?_
      rintro e w' ⟨rfl, rfl⟩
      go_wp2_with fail
      refine (isOrI_yes _ Ho.out _).mono ?_
      rintro e w' ⟨rfl, rfl⟩
      go_wp2_with fail
      refine (HR.out _).mono ?_
      rintro e w2 ⟨rfl, hb⟩
      have Hb := Lib.hid hb
      clear hb
      go_wp2_with fail
      go_quiet (fail)
      go_wp2_with fail
      go_ret2
      exact ⟨ret_two HA.out, below_drewN (Hb.out.alloc Hb.out.size _) _⟩
    · have HA := Lib.hid (os_no (w := a) (h := b) fun h => ho h.2)
      have Hs := Lib.hid hs
      have Ho := Lib.hid ho
      clear hs ho
      go_enter Tryz.func186, Tryz.ntmps186
      go_wp2_with fail
      refine (szI_yes _ _ Hs.out _).mono ?_
      rintro e w' ⟨rfl, rfl⟩
      go_wp2_with fail
      refine (isOrI_no _ Ho.out _).mono ?_
      rintro e w' ⟨rfl, rfl⟩
      go_wp2_with fail
      go_ret2
      exact ⟨ret_two HA.out, Below.refl _ _⟩
  · have HA := Lib.hid (os_no (o := o) fun h => hs h.1)
    have Hs := Lib.hid hs
    clear hs
    go_enter Tryz.func186, Tryz.ntmps186
    go_wp2_with fail
    refine (szI_no _ _ Hs.out _).mono ?_
    rintro e w' ⟨rfl, rfl⟩
    go_wp2_with fail
    go_ret2
    exact ⟨ret_two HA.out, Below.refl _ _⟩
set_option maxHeartbeats 600000 in
theorem osS (a b o : Int) (w : World) : Calls Tryz.prog 118 #[.int .i64 a, .int .i64 b, .int .i64 o] w (TwoAns (osM a b o) w) := by
  by_cases ha : 1 ≤ a ∧ a ≤ 16
  · obtain ⟨a1, a2⟩ := ha
    by_cases hb : 1 ≤ b ∧ b ≤ 16
    · obtain ⟨b1, b2⟩ := hb
      by_cases ho : 0 ≤ o ∧ o ≤ 7
      · obtain ⟨o1, o2⟩ := ho
        have HA := Lib.hid (os_yes (w := a) (h := b) (o := o) ⟨a1, a2, b1, b2⟩ ⟨o1, o2⟩)
        by_cases hq : o % 2 = 1
        · have HE := Lib.hid (show osM a b o = (b, a) by rw [HA.out]; unfold orW orH; rw [if_pos hq, if_pos hq])
          go_enter Tryz.func118, Tryz.ntmps118
          go_wp2_with ((go_at_call 60; (with_reducible refine (inS_yes _ _ _ _ (by omega) (by omega)).mono ?_); rintro e w' ⟨rfl, rfl⟩))
          go_ret2
          exact ⟨ret_two HE.out, Below.refl _ _⟩
        · have HE := Lib.hid (show osM a b o = (a, b) by rw [HA.out]; unfold orW orH; rw [if_neg hq, if_neg hq])
          go_enter Tryz.func118, Tryz.ntmps118
          go_wp2_with ((go_at_call 60; (with_reducible refine (inS_yes _ _ _ _ (by omega) (by omega)).mono ?_); rintro e w' ⟨rfl, rfl⟩))
          go_ret2
          exact ⟨ret_two HE.out, Below.refl _ _⟩
      · have HA := Lib.hid (os_no (w := a) (h := b) (o := o) fun h => ho h.2)
        have h7 : o < 0 ∨ 7 < o := by omega
        have H7 := Lib.hid h7
        clear h7 ho
        go_enter Tryz.func118, Tryz.ntmps118
        go_wp2_with (first | (go_at_call 60; (with_reducible refine (inS_yes _ _ _ _ (by omega) (by omega)).mono ?_); rintro e w' ⟨rfl, rfl⟩) | (go_at_call 60; (with_reducible refine (inS_no _ _ _ _ H7.out).mono ?_); rintro e w' ⟨rfl, rfl⟩))
        go_ret2
        exact ⟨ret_two HA.out, Below.refl _ _⟩
    · have HA := Lib.hid (os_no (w := a) (h := b) (o := o) fun h => hb ⟨h.1.2.2.1, h.1.2.2.2⟩)
      have h7 : b < 1 ∨ 16 < b := by omega
      have H7 := Lib.hid h7
      clear h7 hb
      go_enter Tryz.func118, Tryz.ntmps118
      go_wp2_with (first | (go_at_call 60; (with_reducible refine (inS_yes _ _ _ _ (by omega) (by omega)).mono ?_); rintro e w' ⟨rfl, rfl⟩) | (go_at_call 60; (with_reducible refine (inS_no _ _ _ _ H7.out).mono ?_); rintro e w' ⟨rfl, rfl⟩))
      go_ret2
      exact ⟨ret_two HA.out, Below.refl _ _⟩
  · have HA := Lib.hid (os_no (w := a) (h := b) (o := o) fun h => ha ⟨h.1.1, h.1.2.1⟩)
    have h7 : a < 1 ∨ 16 < a := by omega
    have H7 := Lib.hid h7
    clear h7 ha
    go_enter Tryz.func118, Tryz.ntmps118
    go_wp2_with (first | (go_at_call 60; (with_reducible refine (inS_no _ _ _ _ H7.out).mono ?_); rintro e w' ⟨rfl, rfl⟩))
    go_ret2
    exact ⟨ret_two HA.out, Below.refl _ _⟩
set_option maxHeartbeats 1000000 in
theorem opS_ok (a b o x y : Int) (ho : orOk o) (hp : (⟨a, b, x, y⟩ : Pp).ok) (w : World) : Calls Tryz.prog 181 #[.int .i64 a, .int .i64 b, .int .i64 o, .int .i64 x, .int .i64 y] w (TwoAns ((Pp.ori o ⟨a, b, x, y⟩).x, (Pp.ori o ⟨a, b, x, y⟩).y) w) := by
  have Ho := Lib.hid ho
  have Hp := Lib.hid hp
  obtain ⟨o1, o2⟩ := ho
  obtain ⟨p1, p2, p3, p4, p5, p6, p7, p8⟩ := hp
  dsimp only at *
  obtain ⟨q, hq⟩ : ∃ q : Pp, q = Pp.rep Pp.mir (o / 4).toNat ⟨a, b, x, y⟩ := ⟨_, rfl⟩
  have hqo : q.ok := by rw [hq]; exact Pp.rep_ok (fun _ => Pp.mir_ok) _ Hp.out
  have hA : (Pp.ori o ⟨a, b, x, y⟩) = Pp.rep Pp.qt (o % 4).toNat q := by rw [hq]; rfl
  rw [hA]
  obtain ⟨r, hr⟩ : ∃ r : Nat, (r : Int) = o % 4 := ⟨(o % 4).toNat, by omega⟩
  have hr3 : r ≤ 3 := by omega
  rw [show (o % 4).toNat = r by omega]
  have hr' : o % 4 = (r : Int) := hr.symm
  have Hq := Lib.hid hqo
  by_cases h4 : 4 ≤ o
  · have e : q = ⟨a, b, a - 1 - x, y⟩ := by rw [hq, show (o / 4).toNat = 1 by omega]; rfl
    clear hq hA hr hqo
    subst e
    go_enter Tryz.func181, Tryz.ntmps181
    go_wp2_with ((go_at_call 60; (with_reducible refine (inS_yes _ _ _ _ (by omega) (by omega)).mono ?_); rintro e w' ⟨rfl, rfl⟩))
    go_loopw [0, 1, 3, 4, 12] (fun s0 s1 s3 s4 i wr => ∃ (k : Nat) (c : Pp), k ≤ r ∧ i = .int .i64 k ∧ s0 = .int .i64 c.w ∧ s1 = .int .i64 c.h ∧ s3 = .int .i64 c.x ∧ s4 = .int .i64 c.y ∧ Hid (c = Pp.rep Pp.qt k ⟨a, b, a - 1 - x, y⟩) ∧ c.ok ∧ wr = w) (fun _ _ _ _ i _ => r - (intOf i).toNat)
    case atStart => exact ⟨0, ⟨a, b, a - 1 - x, y⟩, Nat.zero_le _, rfl, rfl, rfl, rfl, rfl, Lib.hid rfl, Hq.out, rfl⟩
    case round =>
      obtain ⟨k, c, hk, rfl, rfl, rfl, rfl, rfl, Hc, hc, rfl⟩ := hrel
      obtain ⟨cw, ch, cx, cy⟩ := c
      have hc2 := hc
      obtain ⟨c1, c2, c3, c4, c5, c6, c7, c8⟩ := hc2
      dsimp only at *
      by_cases hlt : k < r
      · have k1 : (k : Int) < (r : Int) := by omega
        go_wp2_with fail
        go_roundw
        case rel => exact ⟨k + 1, ⟨ch, cw, ch - 1 - cy, cx⟩, by omega, by go_num, rfl, rfl, rfl, rfl, Lib.hid (by show _ = Pp.qt _; rw [← Hc.out]; rfl), Pp.qt_ok hc, by first | rfl | trivial⟩
        case measure => simp [intOf]; omega
      · obtain rfl : k = r := by omega
        go_wp2_with fail
        go_ret2
        exact ⟨ret_two (by rw [← Hc.out]), Below.refl _ _⟩
  · have e : q = ⟨a, b, x, y⟩ := by rw [hq, show (o / 4).toNat = 0 by omega]; rfl
    clear hq hA hr hqo
    subst e
    go_enter Tryz.func181, Tryz.ntmps181
    go_wp2_with ((go_at_call 60; (with_reducible refine (inS_yes _ _ _ _ (by omega) (by omega)).mono ?_); rintro e w' ⟨rfl, rfl⟩))
    go_loopw [0, 1, 3, 4, 12] (fun s0 s1 s3 s4 i wr => ∃ (k : Nat) (c : Pp), k ≤ r ∧ i = .int .i64 k ∧ s0 = .int .i64 c.w ∧ s1 = .int .i64 c.h ∧ s3 = .int .i64 c.x ∧ s4 = .int .i64 c.y ∧ Hid (c = Pp.rep Pp.qt k ⟨a, b, x, y⟩) ∧ c.ok ∧ wr = w) (fun _ _ _ _ i _ => r - (intOf i).toNat)
    case atStart => exact ⟨0, ⟨a, b, x, y⟩, Nat.zero_le _, rfl, rfl, rfl, rfl, rfl, Lib.hid rfl, Hq.out, rfl⟩
    case round =>
      obtain ⟨k, c, hk, rfl, rfl, rfl, rfl, rfl, Hc, hc, rfl⟩ := hrel
      obtain ⟨cw, ch, cx, cy⟩ := c
      have hc2 := hc
      obtain ⟨c1, c2, c3, c4, c5, c6, c7, c8⟩ := hc2
      dsimp only at *
      by_cases hlt : k < r
      · have k1 : (k : Int) < (r : Int) := by omega
        go_wp2_with fail
        go_roundw
        case rel => exact ⟨k + 1, ⟨ch, cw, ch - 1 - cy, cx⟩, by omega, by go_num, rfl, rfl, rfl, rfl, Lib.hid (by show _ = Pp.qt _; rw [← Hc.out]; rfl), Pp.qt_ok hc, by first | rfl | trivial⟩
        case measure => simp [intOf]; omega
      · obtain rfl : k = r := by omega
        go_wp2_with fail
        go_ret2
        exact ⟨ret_two (by rw [← Hc.out]), Below.refl _ _⟩
theorem opS_bad (a b o x y : Int) (w : World) (h : ¬ (orOk o ∧ (⟨a, b, x, y⟩ : Pp).ok)) : Calls Tryz.prog 181 #[.int .i64 a, .int .i64 b, .int .i64 o, .int .i64 x, .int .i64 y] w (TwoAns (-1, -1) w) := by
  unfold orOk Pp.ok at h
  dsimp only at h
  by_cases ha : 1 ≤ a ∧ a ≤ 16
  · obtain ⟨a1, a2⟩ := ha
    by_cases hb : 1 ≤ b ∧ b ≤ 16
    · obtain ⟨b1, b2⟩ := hb
      by_cases ho : 0 ≤ o ∧ o ≤ 7
      · obtain ⟨o1, o2⟩ := ho
        by_cases hx : 0 ≤ x ∧ x ≤ a - 1
        · obtain ⟨x1, x2⟩ := hx
          have H7 := Lib.hid (show y < 0 ∨ b - 1 < y by omega)
          clear h
          go_enter Tryz.func181, Tryz.ntmps181
          go_wp2_with (first | (go_at_call 60; (with_reducible refine (inS_yes _ _ _ _ (by omega) (by omega)).mono ?_); rintro e w' ⟨rfl, rfl⟩) | (go_at_call 60; (with_reducible refine (inS_no _ _ _ _ H7.out).mono ?_); rintro e w' ⟨rfl, rfl⟩))
          go_ret2
          exact ⟨rfl, Below.refl _ _⟩
        · have H7 := Lib.hid (show x < 0 ∨ a - 1 < x by omega)
          clear h hx
          go_enter Tryz.func181, Tryz.ntmps181
          go_wp2_with (first | (go_at_call 60; (with_reducible refine (inS_yes _ _ _ _ (by omega) (by omega)).mono ?_); rintro e w' ⟨rfl, rfl⟩) | (go_at_call 60; (with_reducible refine (inS_no _ _ _ _ H7.out).mono ?_); rintro e w' ⟨rfl, rfl⟩))
          go_ret2
          exact ⟨rfl, Below.refl _ _⟩
      · have H7 := Lib.hid (show o < 0 ∨ 7 < o by omega)
        clear h ho
        go_enter Tryz.func181, Tryz.ntmps181
        go_wp2_with (first | (go_at_call 60; (with_reducible refine (inS_yes _ _ _ _ (by omega) (by omega)).mono ?_); rintro e w' ⟨rfl, rfl⟩) | (go_at_call 60; (with_reducible refine (inS_no _ _ _ _ H7.out).mono ?_); rintro e w' ⟨rfl, rfl⟩))
        go_ret2
        exact ⟨rfl, Below.refl _ _⟩
    · have H7 := Lib.hid (show b < 1 ∨ 16 < b by omega)
      clear h hb
      go_enter Tryz.func181, Tryz.ntmps181
      go_wp2_with (first | (go_at_call 60; (with_reducible refine (inS_yes _ _ _ _ (by omega) (by omega)).mono ?_); rintro e w' ⟨rfl, rfl⟩) | (go_at_call 60; (with_reducible refine (inS_no _ _ _ _ H7.out).mono ?_); rintro e w' ⟨rfl, rfl⟩))
      go_ret2
      exact ⟨rfl, Below.refl _ _⟩
  · have H7 := Lib.hid (show a < 1 ∨ 16 < a by omega)
    clear h ha
    go_enter Tryz.func181, Tryz.ntmps181
    go_wp2_with (go_at_call 60; (with_reducible refine (inS_no _ _ _ _ H7.out).mono ?_); rintro e w' ⟨rfl, rfl⟩)
    go_ret2
    exact ⟨rfl, Below.refl _ _⟩
theorem opS (a b o x y : Int) (w : World) : Calls Tryz.prog 181 #[.int .i64 a, .int .i64 b, .int .i64 o, .int .i64 x, .int .i64 y] w (TwoAns (opM a b o x y) w) := by
  by_cases h : orOk o ∧ (⟨a, b, x, y⟩ : Pp).ok
  · rw [op_yes h.1 h.2]; exact opS_ok a b o x y h.1 h.2 w
  · rw [op_no h]; exact opS_bad a b o x y w h
end Go.Proofs.YtfolphadhmgbiaaGreat
namespace Go.Proofs.YtfolphadhmgbiaaGreat
open Go.RowKit
/-- The place of a pixel. -/
theorem px_place {W H x y : Int} {L : List Int} (h : imOk W H L) (hx : 0 ≤ x ∧ x < W) (hy : 0 ≤ y ∧ y < H) :
    0 ≤ y * W ∧ y * W ≤ 240 ∧ 0 ≤ y * W + x ∧ y * W + x < (L.length : Int) ∧ L.length ≤ 256 := by
  obtain ⟨⟨s1, s2, s3, s4⟩, hl, _⟩ := h
  have m1 := sz_mul (W := W) (H := H) ⟨s1, s2, s3, s4⟩
  have h1 : 0 ≤ y * W := Int.mul_nonneg hy.1 (by omega)
  have h2 : y * W ≤ 15 * 16 := Int.mul_le_mul (by omega) s2 (by omega) (by omega)
  have h3 : (y + 1) * W ≤ H * W := Int.mul_le_mul_of_nonneg_right (by omega) (by omega)
  rw [Int.add_mul, Int.one_mul, Int.mul_comm H W] at h3
  omega
theorem pixelI (W H x y : Int) (v : Value) (L : List Int) (w : World) (h : imOk W H L) (hx : 0 ≤ x ∧ x < W) (hy : 0 ≤ y ∧ y < H) (hv : RdI w v L) :
    Calls Tryz.prog 110 #[.agg #[.int .i64 W, .int .i64 H, v], .int .i64 x, .int .i64 y] w fun e w' => e = .returned (.int .i64 (L.getD (y * W + x).toNat 0)) ∧ Below w.heap.size w w' := by
  have hv2 := hv.alloc (.cells #[.int .i64 W, .int .i64 H, v] 133)
  have hw := (Below.refl w.heap.size w).alloc (Nat.le_refl _) (.cells #[.int .i64 W, .int .i64 H, v] 133)
  obtain ⟨m0, m1, p0, p1, pn⟩ := px_place h hx hy
  obtain ⟨A, c, rfl⟩ := hv.form
  obtain ⟨m, hm⟩ := Int.eq_ofNat_of_zero_le m0
  obtain ⟨x, rfl⟩ := Int.eq_ofNat_of_zero_le hx.1
  obtain ⟨g, p, rfl, hp, hc⟩ := hv2.at_ (k := m + x) (by omega)
  have Hp : Hid (L.getD (y * W + (x : Int)).toNat 0 = p) := Lib.hid (by
    rw [show (y * W + (x : Int)).toNat = m + x by omega, List.getD_eq_getElem?_getD, hp]; rfl)
  obtain ⟨n, hn⟩ : ∃ n, n = L.length := ⟨_, rfl⟩
  rw [← hn] at p1 pn hw hc ⊢
  rw [hm] at p1 m1
  have Hw := Lib.hid hw
  clear hv hv2 hp hw hn h p0
  have hy0 := hy.1
  have hmx : (m : Int) + (x : Int) < (n : Int) := p1
  have hm2 : (m : Int) ≤ 240 := m1
  go_enter Tryz.func110, Tryz.ntmps110
  go_wp2_with fail
  go_ret
  exact ⟨ret_int Hp.out.symm, Hw.out⟩
end Go.Proofs.YtfolphadhmgbiaaGreat
namespace Go.Proofs.YtfolphadhmgbiaaGreat
open Go.RowKit
/-- The place that is shown at place k, of f pixels on t. -/
def sclN (f t k : Nat) : Nat := k * f / t
theorem sclN_lt {f t k : Nat} (h1 : 1 ≤ f) (h2 : k < t) : sclN f t k < f := by
  unfold sclN
  exact Nat.div_lt_of_lt_mul (Nat.mul_lt_mul_of_pos_right h2 h1)
theorem scl_num {f t k : Nat} (h1 : 1 ≤ f ∧ f ≤ 16) (h2 : 1 ≤ t ∧ t ≤ 16) (h3 : k < t) :
    ∃ m q : Nat, (k : Int) * (f : Int) = (m : Int) ∧ m ≤ 256 ∧ Int.tdiv (m : Int) (t : Int) = (q : Int) ∧ (m : Int) / (t : Int) = (q : Int) ∧ sclN f t k = q ∧ q < f := by
  refine ⟨k * f, k * f / t, by simp, Nat.mul_le_mul (show k ≤ 16 by omega) h1.2, ?_, by simp, rfl, sclN_lt h1.1 h3⟩
  rw [Int.tdiv_eq_ediv_of_nonneg (by omega)]; simp
theorem scI_yes {f t k : Nat} (h1 : 1 ≤ f ∧ f ≤ 16) (h2 : 1 ≤ t ∧ t ≤ 16) (h3 : k < t) (w : World) : Calls Tryz.prog 188 #[.int .i64 f, .int .i64 t, .int .i64 k] w fun e w' => e = .returned (.int .i64 (sclN f t k : Nat)) ∧ w = w' := by
  obtain ⟨m, q, hm, m1, d1, d2, hq, q1⟩ := scl_num h1 h2 h3
  have Hq := Lib.hid hq
  obtain ⟨f1, f2⟩ := h1
  obtain ⟨t1, t2⟩ := h2
  have h0 : ¬ (t : Int) = 0 := by omega
  have hk : (k : Int) ≤ (t : Int) - 1 := by omega
  clear hq
  go_enter Tryz.func188, Tryz.ntmps188
  go_wp2_with ((go_at_call 66; (with_reducible refine (inI_yes _ _ _ _ (by omega) (by omega)).mono ?_); rintro e w' ⟨rfl, rfl⟩))
  go_ret
  exact ⟨ret_int (by rw [Hq.out]), rfl⟩
theorem scS_yes {f t k : Nat} (h1 : 1 ≤ f ∧ f ≤ 16) (h2 : 1 ≤ t ∧ t ≤ 16) (h3 : k < t) (w : World) : Calls Tryz.prog 182 #[.int .i64 f, .int .i64 t, .int .i64 k] w fun e w' => e = .returned (.int .i64 (sclN f t k : Nat)) ∧ w = w' := by
  obtain ⟨m, q, hm, m1, d1, d2, hq, q1⟩ := scl_num h1 h2 h3
  have Hq := Lib.hid hq
  obtain ⟨f1, f2⟩ := h1
  obtain ⟨t1, t2⟩ := h2
  have h0 : ¬ (t : Int) = 0 := by omega
  have hk : (k : Int) ≤ (t : Int) - 1 := by omega
  clear hq
  go_enter Tryz.func182, Tryz.ntmps182
  go_wp2_with ((go_at_call 60; (with_reducible refine (inS_yes _ _ _ _ (by omega) (by omega)).mono ?_); rintro e w' ⟨rfl, rfl⟩))
  go_ret
  exact ⟨ret_int (by rw [Hq.out]), rfl⟩
end Go.Proofs.YtfolphadhmgbiaaGreat
namespace Go.Proofs.YtfolphadhmgbiaaGreat
open Go.RowKit
section
variable {w w' : World} {g B : Nat} {a b c d : Int}
end
theorem px_call {a w w' : World} (h : Below a.heap.size a w) (hb : Below w.heap.size w w') : Below a.heap.size a w' := h.trans (hb.mono h.size)
end Go.Proofs.YtfolphadhmgbiaaGreat
namespace Go.Proofs.YtfolphadhmgbiaaGreat
open Go.RowKit
theorem fadeI_in (p al : Int) (hp : pixOk p) (ha : chOk al) (w : World) :
    Calls Tryz.prog 162 #[.int .i64 p, .int .i64 al] w fun e w' => e = .returned (.int .i64 (fade p al)) ∧ Below w.heap.size w w' := by
  have Hn : Hid (fade p al = fadeK p al) := if_pos ⟨hp, ha⟩
  obtain ⟨c0, h0⟩ : ∃ x, x = p / 16777216 := ⟨_, rfl⟩
  obtain ⟨c1, h1⟩ : ∃ x, x = p / 65536 % 256 := ⟨_, rfl⟩
  obtain ⟨c2, h2⟩ : ∃ x, x = p / 256 % 256 := ⟨_, rfl⟩
  obtain ⟨c3, h3⟩ : ∃ x, x = p % 256 := ⟨_, rfl⟩
  have HU := Lib.hid (unpackedI p hp)
  have Hc0 : Hid (chOk c0) := by rw [h0]; exact ch_0 hp
  have Hc1 : Hid (chOk c1) := by rw [h1]; exact ch_1 p
  have Hc2 : Hid (chOk c2) := by rw [h2]; exact ch_2 p
  have Hc3 : Hid (chOk c3) := by rw [h3]; exact ch_3 p
  rw [fadeK, ← h0, ← h1, ← h2, ← h3] at Hn
  rw [← h0, ← h1, ← h2, ← h3] at HU
  have HP := Lib.hid (partI_ok c0 al Hc0.out ha)
  have Hx := Lib.hid (part_ok Hc0.out ha)
  obtain ⟨x, hx⟩ : ∃ x, x = pxPart c0 al := ⟨_, rfl⟩
  rw [← hx] at HP Hn Hx
  have Hp := Lib.hid hp
  have Ha := Lib.hid ha
  clear h0 h1 h2 h3 hx hp ha
  go_enter Tryz.func162, Tryz.ntmps162
  go_wp2_with fail
  refine (pixI_yes p Hp.out _).mono ?_
  rintro e w' ⟨rfl, rfl⟩
  go_wp2_with fail
  refine (inI_yes _ 0 255 _ Ha.out.1 Ha.out.2).mono ?_
  rintro e w' ⟨rfl, rfl⟩
  go_wp2_with fail
  refine (HU.out _).mono ?_
  rintro e w1 ⟨rfl, K⟩
  go_wp2_with fail
  refine (HP.out _).mono ?_
  rintro e w' ⟨rfl, rfl⟩
  go_wp2_with fail
  refine (packedI x c1 c2 c3 Hx.out Hc1.out Hc2.out Hc3.out _).mono ?_
  rintro e w2 ⟨rfl, hb⟩
  go_wp2_with fail
  go_ret
  exact ⟨ret_int Hn.out.symm, px_call (by repeat first | exact K | refine Below.setCell ?_ (by have := K.size; first | (simp; done) | (simp; omega)) _ | refine Below.alloc ?_ (by have := K.size; first | (simp; done) | (simp; omega)) _) hb⟩
theorem fadeI_any (p al : Int) (w : World) :
    Calls Tryz.prog 162 #[.int .i64 p, .int .i64 al] w fun e w' => e = .returned (.int .i64 (fade p al)) ∧ Below w.heap.size w w' := by
  by_cases hp : pixOk p
  · by_cases ha : chOk al
    · exact fadeI_in p al hp ha w
    · have Hn : Hid (fade p al = -1) := if_neg fun h => ha h.2
      have Hp := Lib.hid hp
      have Ha := Lib.hid ha
      clear hp ha
      go_enter Tryz.func162, Tryz.ntmps162
      go_wp2_with fail
      refine (pixI_yes p Hp.out _).mono ?_
      rintro e w' ⟨rfl, rfl⟩
      go_wp2_with fail
      refine (inI_no _ 0 255 _ (ch_no Ha.out)).mono ?_
      rintro e w' ⟨rfl, rfl⟩
      go_wp2
      go_ret
      exact ⟨ret_int Hn.out.symm, Below.refl _ _⟩
  · have Hn : Hid (fade p al = -1) := if_neg fun h => hp h.1
    have Hp := Lib.hid hp
    clear hp
    go_enter Tryz.func162, Tryz.ntmps162
    go_wp2_with fail
    refine (pixI_no p Hp.out _).mono ?_
    rintro e w' ⟨rfl, rfl⟩
    go_wp2
    go_ret
    exact ⟨ret_int Hn.out.symm, Below.refl _ _⟩
end Go.Proofs.YtfolphadhmgbiaaGreat
