/- Texts of mine in one file: Blk4, Grid, RectEq, Rds, GridS, RowS, RegP, CanS, SameS, RgnC, Rok. No statement is proved here. -/
import Derived.Test.YtdgagooldlnpeaaGreatMA
import Derived.Test.YtdgagooldlnpeaaGreatProg
import Derived.WalkKit
import Derived.ProofKit
import Derived.OpenShut
import Derived.WalkLawsBesides
import Derived.WalkSpells
import Derived.ShutString
import Derived.ChangeOld
import Derived.Below
import Derived.Lib.Hide
import Derived.BigQuiet
import Derived.Deep.QuietTactic
import Derived.Maps.AppendAt
import Derived.Deep.Draws
import Derived.Deep.MidRow
import Derived.Deep.WholeRow
import Derived.Deep.OwnRows
import Derived.Deep.RegionHeld3
import Derived.Deep.DeepCutAuto
import Derived.Deep.LoopGhost
import Derived.OwnWalk
import Derived.Deep.AppendLies
import Derived.Deep.Onto
import Derived.Laws.AppendOwn
namespace Go.Proofs.YtdgagooldlnpeaaGreat
open Go.RowKit
theorem RcAt.set0 {w : World} {g : Nat} {r : Rc} (h : RcAt w g r) (a b c d : Int) :
  RcAt ((((w.setCell ⟨g, 0, none⟩ (.int .i64 a)).setCell ⟨g, 1, none⟩ (.int .i64 b)).setCell ⟨g, 2, none⟩ (.int .i64 c)).setCell ⟨g, 3, none⟩ (.int .i64 d)) g ⟨a, b, c, d⟩ := by
 unfold RcAt at *
 simp [World.setCell, Array.getElem?_modify, h]
end Go.Proofs.YtdgagooldlnpeaaGreat
namespace Go.Proofs.YtdgagooldlnpeaaGreat
open Go.RowKit
theorem GrAt.of_row {w : World} {b : Nat} {t : TypeId} {f : Nat → Value} {g : Nat → Bool} (h : w.rowIs b t 256 f) (e : ∀ k, k < 256 → f k = .bool (g k)) : GrAt w b t g := by
 obtain ⟨c, hb, hs, hf⟩ := h
 have ec : c = gCells g := gCells_ext hs fun k hk => by rw [hf k hk, e k hk]
 unfold GrAt
 rw [hb, ec]
theorem infoBool : (Tryz.prog.info? 4).map (fun i => (i.zero, i.size, i.bytes)) = some (some (.bool false), 1, 1) := by kernel_rfl
theorem made_grid : madeCells #[.bool false] 256 = gCells (fun _ => false) := by
 have h := GrAt.of_row (g := fun _ => false) (World.rowIs_made default (.bool false) 256 0) (fun k _ => rfl)
 unfold GrAt at h
 rw [heap_alloc_new] at h
 exact (Obj.cells.inj (Option.some.inj h)).1
theorem make_grid (W : World) : (Instr.makeSlice 146 (.int .i64 256) (.int .i64 256)).run Tryz.prog W = .ok (.slice (some ⟨W.heap.size, 0, none⟩) 256 256) (W.alloc (.cells (gCells fun _ => false) 4)) := by
 have h := run_make_row' (P := Tryz.prog) 146 4 (.bool false) 1 Tryz.underlying146 infoBool rfl .i64 .i64 256 (by omega) (by omega) W
 rw [made_grid] at h
 exact h
end Go.Proofs.YtdgagooldlnpeaaGreat
namespace Go.Proofs.YtdgagooldlnpeaaGreat
open Go.RowKit
theorem below_set4 {B : Nat} {w0 w : World} {g : Nat} (h : Below B w0 w) (hg : B ≤ g) (v0 v1 v2 v3 : Value) :
  Below B w0 ((((w.setCell ⟨g, 0, none⟩ v0).setCell ⟨g, 1, none⟩ v1).setCell ⟨g, 2, none⟩ v2).setCell ⟨g, 3, none⟩ v3) :=
 (((h.setCell (p := ⟨g, 0, none⟩) hg _).setCell (p := ⟨g, 1, none⟩) hg _).setCell (p := ⟨g, 2, none⟩) hg _).setCell (p := ⟨g, 3, none⟩) hg _
theorem rc_born {w w' : World} (hb : Below (w.alloc (.cells #[.int .i64 0, .int .i64 0, .int .i64 0, .int .i64 0] 113)).heap.size (w.alloc (.cells #[.int .i64 0, .int .i64 0, .int .i64 0, .int .i64 0] 113)) w') : RcAt w' w.heap.size ⟨0, 0, 0, 0⟩ :=
 (RcAt.new w ⟨0, 0, 0, 0⟩).below hb (RcAt.new w ⟨0, 0, 0, 0⟩).lt
theorem rc_born_drew {w w' : World} (hb : Below (w.alloc (.cells #[.int .i64 0, .int .i64 0, .int .i64 0, .int .i64 0] 113)).drew.heap.size (w.alloc (.cells #[.int .i64 0, .int .i64 0, .int .i64 0, .int .i64 0] 113)).drew w') : RcAt w' w.heap.size ⟨0, 0, 0, 0⟩ :=
 RcAt.below (w := (w.alloc (.cells #[.int .i64 0, .int .i64 0, .int .i64 0, .int .i64 0] 113)).drew) (RcAt.new w ⟨0, 0, 0, 0⟩) hb (RcAt.new w ⟨0, 0, 0, 0⟩).lt
theorem RcAt.setr {w : World} {g : Nat} {s : Rc} (h : RcAt w g s) (r : Rc) :
  RcAt ((((w.setCell ⟨g, 0, none⟩ (.int .i64 r.x)).setCell ⟨g, 1, none⟩ (.int .i64 r.y)).setCell ⟨g, 2, none⟩ (.int .i64 r.w)).setCell ⟨g, 3, none⟩ (.int .i64 r.h)) g r := h.set0 _ _ _ _
theorem RcAt.far4 {w : World} {g g' : Nat} {r : Rc} (h : RcAt w g r) (hg : g < g') (v0 v1 v2 v3 : Value) :
  RcAt ((((w.setCell ⟨g', 0, none⟩ v0).setCell ⟨g', 1, none⟩ v1).setCell ⟨g', 2, none⟩ v2).setCell ⟨g', 3, none⟩ v3) g r :=
 (((h.far (p := ⟨g', 0, none⟩) (Nat.ne_of_lt hg) _).far (p := ⟨g', 1, none⟩) (Nat.ne_of_lt hg) _).far (p := ⟨g', 2, none⟩) (Nat.ne_of_lt hg) _).far (p := ⟨g', 3, none⟩) (Nat.ne_of_lt hg) _
end Go.Proofs.YtdgagooldlnpeaaGreat
namespace Go.Proofs.YtdgagooldlnpeaaGreat
open Go.RowKit
theorem C4.far4 {w : World} {g o b : Nat} {r : Rc} (h : C4 w g o r) (hb : g ≠ b) (v0 v1 v2 v3 : Value) :
  C4 ((((w.setCell ⟨b, 0, none⟩ v0).setCell ⟨b, 1, none⟩ v1).setCell ⟨b, 2, none⟩ v2).setCell ⟨b, 3, none⟩ v3) g o r :=
 h.kept ((((Below.heap_setCell _ ⟨b, 3, none⟩ v3 g hb).trans (Below.heap_setCell _ ⟨b, 2, none⟩ v2 g hb)).trans (Below.heap_setCell _ ⟨b, 1, none⟩ v1 g hb)).trans (Below.heap_setCell _ ⟨b, 0, none⟩ v0 g hb))
end Go.Proofs.YtdgagooldlnpeaaGreat
namespace Go.Proofs.YtdgagooldlnpeaaGreat
open Go.RowKit
def GridAns (L : List Rc) (w : World) (e : Ending) (w' : World) : Prop :=
 ∃ b : Nat, e = .returned (.slice (some ⟨b, 0, none⟩) 256 256) ∧ w.heap.size ≤ b ∧ GrAt w' b 4 (gridOf L) ∧ Below w.heap.size w w'
theorem isectS_scr (r : Rc) (w : World) :
  Calls Tryz.prog 111 #[.agg #[.int .i64 r.x, .int .i64 r.y, .int .i64 r.w, .int .i64 r.h], .agg #[.int .i64 0, .int .i64 0, .int .i64 16, .int .i64 16]] w
   fun e w' => ∃ X Y W H : Nat, e = .returned (.agg #[.int .i64 X, .int .i64 Y, .int .i64 W, .int .i64 H]) ∧ Hid (isect r screenR = ⟨X, Y, W, H⟩) ∧ X + W ≤ 16 ∧ Y + H ≤ 16 ∧ Below w.heap.size w w' := by
 refine (isectS_any r screenR w).mono ?_
 rintro e w' ⟨rfl, hb⟩
 obtain ⟨X, Y, W, H, he, h1, h2⟩ := screen_nat r
 exact ⟨X, Y, W, H, by rw [he], he, h1, h2, hb⟩
theorem scr_cells {w : World} {g : Nat} (h : RcAt w g screenR) :
  w.cell? ⟨g, 0, none⟩ = some (.int .i64 0) ∧ w.cell? ⟨g, 1, none⟩ = some (.int .i64 0) ∧ w.cell? ⟨g, 2, none⟩ = some (.int .i64 16) ∧ w.cell? ⟨g, 3, none⟩ = some (.int .i64 16) := h.cells
structure GsSt (w : World) (g : Nat → Bool) (wr : World) : Prop where
 gr : GrAt wr w.heap.size 4 g
 sc : RcAt wr (w.heap.size + 1) screenR
 bw : Below w.heap.size w wr
theorem GsSt.size {w wr : World} {g : Nat → Bool} (h : GsSt w g wr) : w.heap.size + 1 < wr.heap.size := h.sc.lt
theorem GsSt.call {w wr w' : World} {g : Nat → Bool} (h : GsSt w g wr) (hb : Below wr.heap.size wr w') : GsSt w g w' :=
 ⟨h.gr.below hb h.gr.lt, h.sc.below hb h.sc.lt, h.bw.trans (hb.mono h.bw.size)⟩
theorem GsSt.alloc {w wr : World} {g : Nat → Bool} (h : GsSt w g wr) (o : Obj) : GsSt w g (wr.alloc o) :=
 ⟨h.gr.alloc o, h.sc.alloc o, h.bw.alloc h.bw.size o⟩
theorem GsSt.drew {w wr : World} {g : Nat → Bool} (h : GsSt w g wr) : GsSt w g wr.drew := ⟨h.gr, h.sc, h.bw.drew⟩
theorem GsSt.far4 {w wr : World} {g : Nat → Bool} {b : Nat} (h : GsSt w g wr) (hb : w.heap.size + 1 < b) (v0 v1 v2 v3 : Value) :
  GsSt w g ((((wr.setCell ⟨b, 0, none⟩ v0).setCell ⟨b, 1, none⟩ v1).setCell ⟨b, 2, none⟩ v2).setCell ⟨b, 3, none⟩ v3) :=
 ⟨(((h.gr.far (p := ⟨b, 0, none⟩) (by simp; omega) _).far (p := ⟨b, 1, none⟩) (by simp; omega) _).far (p := ⟨b, 2, none⟩) (by simp; omega) _).far (p := ⟨b, 3, none⟩) (by simp; omega) _,
  h.sc.far4 hb _ _ _ _, below_set4 h.bw (by omega) _ _ _ _⟩
theorem GsSt.set {w wr : World} {g : Nat → Bool} (h : GsSt w g wr) (k : Nat) (v : Bool) : GsSt w (gSet g k v) (wr.setCell ⟨w.heap.size, k, none⟩ (.bool v)) :=
 ⟨h.gr.set k v, h.sc.far (by simp) _, h.bw.setCell (Nat.le_refl _) _⟩
theorem GsSt.congr {w wr : World} {g g' : Nat → Bool} (h : GsSt w g wr) (e : ∀ k, k < 256 → g k = g' k) : GsSt w g' wr := ⟨h.gr.congr e, h.sc, h.bw⟩
set_option maxHeartbeats 400000 in
set_option maxRecDepth 10000 in
theorem gridS (v : Value) (L : List Rc) (w : World) (h : RdR w v L) : Calls Tryz.prog 120 #[v] w (GridAns L w) := by
 obtain ⟨A, c, rfl⟩ := h.form
 have hm : L.length ≤ 9223372036854775807 := by have := h.len; unfold maxLen at this; omega
 obtain ⟨n, hn⟩ : ∃ n, n = L.length := ⟨_, rfl⟩
 rw [← hn] at hm h ⊢
 have Hn := Lib.hid hn
 have H := Lib.hid h
 clear h hn
 have hmk := make_grid
 go_enter Tryz.func120, Tryz.ntmps120
 go_wp2_with fail
 go_loopg [5] n (fun gk i wr => ∃ k : Nat, k ≤ n ∧ gk = n - k ∧ i = .int .i64 k ∧ GsSt w (gridOf (L.take k)) wr)
 case atStart => exact ⟨0, Nat.zero_le _, by omega, rfl, ⟨((GrAt.new _ _ _).congr (fun k _ => (gridOf_nil k).symm)).alloc _, RcAt.newAt (by simp) screenR, ((Below.refl _ _).alloc (Nat.le_refl _) _).alloc (by simp) _⟩⟩
 case round =>
  obtain ⟨k, hk, rfl, rfl, hG⟩ := hrel
  by_cases hkn : k < n
  ·obtain ⟨gv, r, rfl, hr, hC⟩ := (H.out.below hG.bw (fun g _ hl => hl)).at_ (k := k) (by rw [← Hn.out]; exact hkn)
   have hgv : gv < w.heap.size := by
    obtain ⟨gv', r', e, _, hC'⟩ := H.out.at_ (k := k) (by rw [← Hn.out]; exact hkn)
    injection e with e
    injection e with e
    rw [e]; exact hC'.lt
   have Hr := Lib.hid hr
   clear hr
   have k0 : (0 : Int) ≤ (k : Int) := by omega
   have k1 : (k : Int) < (n : Int) := by omega
   have hsz := hG.size
   have hne : gv ≠ wr.heap.size := by omega
   go_upto_region 6 with fail
   go_cut [6] (fun s6 wx => ∃ g X Y W H : Nat, s6 = .pointer (some ⟨g, 0, none⟩) ∧ Hid (isect r screenR = ⟨X, Y, W, H⟩) ∧ X + W ≤ 16 ∧ Y + H ≤ 16 ∧ w.heap.size + 1 < g ∧ RcAt wx g ⟨X, Y, W, H⟩ ∧ GsSt w (gridOf (L.take k)) wx)
   case first =>
    obtain ⟨c0, c1, c2, c3⟩ := hC.cells
    obtain ⟨s0, s1, s2, s3⟩ := scr_cells hG.sc
    go_region_held3 (fun w' => (w'.cell? ⟨gv, k * 4, none⟩ = some (.int .i64 r.x) ∧ w'.cell? ⟨gv, k * 4 + 1, none⟩ = some (.int .i64 r.y) ∧ w'.cell? ⟨gv, k * 4 + 2, none⟩ = some (.int .i64 r.w) ∧ w'.cell? ⟨gv, k * 4 + 3, none⟩ = some (.int .i64 r.h)) ∧
     (w'.cell? ⟨w.heap.size + 1, 0, none⟩ = some (.int .i64 0) ∧ w'.cell? ⟨w.heap.size + 1, 1, none⟩ = some (.int .i64 0) ∧ w'.cell? ⟨w.heap.size + 1, 2, none⟩ = some (.int .i64 16) ∧ w'.cell? ⟨w.heap.size + 1, 3, none⟩ = some (.int .i64 16)))
     (with_reducible first | exact ⟨hC.cells, scr_cells hG.sc⟩ | exact ⟨hC.drew.cells, scr_cells hG.drew.sc⟩ | exact ⟨(hC.alloc _).cells, scr_cells (hG.alloc _).sc⟩ | exact ⟨(hC.drew.alloc _).cells, scr_cells (hG.drew.alloc _).sc⟩ | exact ⟨(hC.alloc _).drew.cells, scr_cells (hG.alloc _).drew.sc⟩ | exact ⟨(hC.far4 hne _ _ _ _).cells, scr_cells (hG.sc.far4 hsz _ _ _ _)⟩ | fail)
     ((go_at_call 111; (with_reducible refine (isectS_scr r _).mono ?_); rintro e wk ⟨X, Y, W, H, rfl, hI, hXW, hYH, hbk⟩; (with_reducible first | have hC := hC.call hbk | have hC := hC.drew.call hbk | have hC := (hC.alloc _).call hbk | have hC := (hC.drew.alloc _).call hbk | have hC := (hC.alloc _).drew.call hbk); (with_reducible first | have hG := hG.call hbk | have hG := hG.drew.call hbk | have hG := (hG.alloc _).call hbk | have hG := (hG.drew.alloc _).call hbk | have hG := (hG.alloc _).drew.call hbk); (with_reducible first | (have hN := rc_born_drew hbk; obtain ⟨z0, z1, z2, z3⟩ := hN.cells; have zf := hN.frozen) | (have hN := rc_born hbk; obtain ⟨z0, z1, z2, z3⟩ := hN.cells; have zf := hN.frozen) | skip)))
    all_goals
     go_wp2_with fail
     go_meet
     case rel => exact ⟨_, X, Y, W, H, rfl, hI, hXW, hYH, by first | exact hsz | exact hG.size, by first | exact hN.setr ⟨X, Y, W, H⟩ | exact RcAt.new wk ⟨X, Y, W, H⟩ | exact (RcAt.new wk ⟨X, Y, W, H⟩).drew, by first | exact hG.far4 hsz _ _ _ _ | exact hG.alloc _ | exact (hG.alloc _).drew | exact hG.drew.alloc _⟩
   case rest =>
    clear hC hG hsz hne
    obtain ⟨g, X, Y, W, H, rfl, hI, hXW, hYH, hg, hR, hG⟩ := hcut
    obtain ⟨r0, r1, r2, r3⟩ := hR.cells4
    go_wp2_with fail
    go_loopg [7] H (fun g2 i2 wy => ∃ y : Nat, Y ≤ y ∧ y ≤ Y + H ∧ g2 = Y + H - y ∧ i2 = .int .i64 y ∧ RcAt wy g ⟨X, Y, W, H⟩ ∧ GsSt w (markG (gridOf (L.take k)) X Y W H y X) wy)
    case atStart => exact ⟨Y, Nat.le_refl _, by omega, by omega, rfl, hR, hG.congr (fun i _ => (markG_start _ _ _ _ _ i).symm)⟩
    case round =>
     clear hR hG r0 r1 r2 r3
     obtain ⟨y, hy1, hy2, rfl, rfl, hR, hG⟩ := hrel
     obtain ⟨r0, r1, r2, r3⟩ := hR.cells4
     by_cases hyl : y < Y + H
     ·go_wp2_with fail
      go_loopg [8] W (fun g3 i3 wx => ∃ x : Nat, X ≤ x ∧ x ≤ X + W ∧ g3 = X + W - x ∧ i3 = .int .i64 x ∧ RcAt wx g ⟨X, Y, W, H⟩ ∧ GsSt w (markG (gridOf (L.take k)) X Y W H y x) wx)
      case atStart => exact ⟨X, Nat.le_refl _, by omega, by omega, rfl, hR, hG⟩
      case round =>
       clear hR hG r0 r1 r2 r3
       obtain ⟨x, hx1, hx2, rfl, rfl, hR, hG⟩ := hrel
       obtain ⟨r0, r1, r2, r3⟩ := hR.cells4
       by_cases hxl : x < X + W
       ·have b0 : (0 : Int) ≤ (y : Int) * 16 + (x : Int) := by omega
        have b1 : (y : Int) * 16 + (x : Int) < 256 := by omega
        have hcell := hG.gr.cell (y * 16 + x) (by omega)
        have hfz := hG.gr.frozen (y * 16 + x)
        go_wp2_with fail
        go_roundg (X + W - (x + 1))
        case measure => omega
        case rel => exact ⟨x + 1, by omega, by omega, rfl, by go_num, hR.far (by simp; omega) _, (hG.set (y * 16 + x) true).congr (fun i _ => markG_set _ X Y W H y x i ⟨hx1, hxl⟩ ⟨hy1, hyl⟩ hXW)⟩
       ·obtain rfl : x = X + W := by omega
        go_wp2_with fail
        go_roundg (Y + H - (y + 1))
        case measure => omega
        case rel => exact ⟨y + 1, by omega, by omega, rfl, by go_num, hR, hG.congr (fun i _ => markG_row _ X Y W H y i)⟩
     ·obtain rfl : y = Y + H := by omega
      go_wp2_with fail
      go_roundg (n - (k + 1))
      case measure => omega
      case rel => exact ⟨k + 1, by omega, rfl, by go_num, hG.congr (fun i hi => mark_take L k r X Y W H Hr.out hI.out i hi)⟩
  ·obtain rfl : k = n := by omega
   go_wp2_with fail
   go_ret
   exact ⟨_, rfl, Nat.le_refl _, hG.gr.congr (fun i _ => by rw [List.take_of_length_le (by rw [← Hn.out]; exact Nat.le_refl _)]), hG.bw⟩
end Go.Proofs.YtdgagooldlnpeaaGreat
namespace Go.Proofs.YtdgagooldlnpeaaGreat
open Go.RowKit
set_option maxHeartbeats 400000 in
set_option maxRecDepth 10000 in
theorem rowS (b : Nat) (g : Nat → Bool) (y z : Nat) (hy : y < 16) (hz : z < 16) (w : World) (hG : GrAt w b 4 g) :
  Calls Tryz.prog 212 #[.slice (some ⟨b, 0, none⟩) 256 256, .int .i64 y, .int .i64 z] w fun e w' => e = .returned (.bool (rowEq g y z)) ∧ ∃ q, w' = w.drewN q := by
 have HG := Lib.hid hG
 clear hG
 go_enter Tryz.func212, Tryz.ntmps212
 go_wp2_with fail
 go_loopw [7] (fun i wr => ∃ k : Nat, k ≤ 16 ∧ i = .int .i64 k ∧ (∀ j, j < k → g (y * 16 + j) = g (z * 16 + j)) ∧ ∃ q, wr = w.drewN q) (fun i _ => 16 - (intOf i).toNat)
 case atStart => exact ⟨0, Nat.zero_le _, rfl, fun j hj => by omega, 0, rfl⟩
 case round =>
  obtain ⟨k, hk, rfl, hall, q, rfl⟩ := hrel
  have Hall := Lib.hid hall
  clear hall
  by_cases hlt : k < 16
  ·have c1 := HG.out.cell (y * 16 + k) (by omega)
   have c2 := HG.out.cell (z * 16 + k) (by omega)
   obtain ⟨p, hp⟩ : ∃ p, p = g (y * 16 + k) := ⟨_, rfl⟩
   obtain ⟨r, hr⟩ : ∃ r, r = g (z * 16 + k) := ⟨_, rfl⟩
   rw [← hp] at c1
   rw [← hr] at c2
   have b0 : (0 : Int) ≤ (y : Int) * 16 + (k : Int) := by omega
   have b1 : (y : Int) * 16 + (k : Int) < 256 := by omega
   have b2 : (0 : Int) ≤ (z : Int) * 16 + (k : Int) := by omega
   have b3 : (z : Int) * 16 + (k : Int) < 256 := by omega
   have Hp := Lib.hid hp
   have Hr := Lib.hid hr
   clear hp hr
   by_cases hpr : p = r
   ·subst hpr
    go_wp2_with fail
    go_quiet (fail)
    go_wp2_with fail
    rename_i nq
    go_roundw
    case rel =>
     refine ⟨k + 1, by omega, by go_num, fun j hj => ?_, _, rfl⟩
     by_cases e : j < k
     ·exact Hall.out j e
     ·obtain rfl : j = k := by omega
      rw [← Hp.out, ← Hr.out]
    case measure => simp [intOf]; omega
   ·have hb : (p == r) = false := by rw [beq_eq_false_iff_ne]; exact hpr
    have hne : rowEq g y z = false := by
     rcases he : rowEq g y z with _ | _
     ·rfl
     ·exact absurd ((rowEq_iff g y z).1 he k hlt) (by rw [← Hp.out, ← Hr.out]; exact hpr)
    have Hne := Lib.hid hne
    clear hne hpr
    go_wp2_with fail
    go_quiet (fail)
    go_wp2_with fail
    go_ret
    exact ⟨ret_bool Hne.out.symm, q + _, by first | rfl | exact World.drewN_drewN _ _ _⟩
  ·obtain rfl : k = 16 := by omega
   have heq : rowEq g y z = true := (rowEq_iff g y z).2 Hall.out
   have Heq := Lib.hid heq
   clear heq
   go_wp2_with fail
   go_ret
   exact ⟨ret_bool Heq.out.symm, _, rfl⟩
end Go.Proofs.YtdgagooldlnpeaaGreat
namespace Go.Proofs.YtdgagooldlnpeaaGreat
theorem runs_open (g : Nat → Bool) (y h x u : Nat) (hx : x < 16) (hu : runW g y x = u) : runs g y h x = (if 0 < u then [⟨x, y, u, h⟩] else []) ++ runs g y h (x + u + 1) := by
 rw [runs, if_pos hx, hu]
theorem runs_end (g : Nat → Bool) (y h x : Nat) (hx : 16 ≤ x) : runs g y h x = [] := by rw [runs, if_neg (by omega)]
theorem runFrom_go {g : Nat → Bool} {y x u : Nat} (h1 : x + u < 16) (h2 : g (y * 16 + (x + u)) = true) : runFrom g y x u = runFrom g y x (u + 1) := by
 conv => lhs; rw [runFrom, if_pos ⟨h1, h2⟩]
theorem runFrom_stop {g : Nat → Bool} {y x u : Nat} (h1 : ¬ (x + u < 16 ∧ g (y * 16 + (x + u)) = true)) : runFrom g y x u = u := by
 rw [runFrom, if_neg h1]
end Go.Proofs.YtdgagooldlnpeaaGreat
namespace Go.Proofs.YtdgagooldlnpeaaGreat
open Go.RowKit
theorem rowS' (b : Nat) (g : Nat → Bool) (y z : Nat) (zi : Int) (hzi : zi = (z : Int)) (hy : y < 16) (hz : z < 16) (w : World) (hG : GrAt w b 4 g) :
  Calls Tryz.prog 212 #[.slice (some ⟨b, 0, none⟩) 256 256, .int .i64 y, .int .i64 zi] w fun e w' => e = .returned (.bool (rowEq g y z)) ∧ ∃ q, w' = w.drewN q := by
 subst hzi
 exact rowS b g y z hy hz w hG
structure CaSt (w : World) (b : Nat) (g : Nat → Bool) (v : Value) (L : List Rc) (wr : World) : Prop where
 rs : wr.heap[w.heap.size]? = some (.cells #[.slice none 0 0] 30 (0, 0))
 out : wr.heap[w.heap.size + 1]? = some (.cells #[v] 30 (0, 0))
 own : wr.ownsRow (w.heap.size + 2) 113 4 v L.length (rcsCells L)
 gr : GrAt wr b 4 g
 bl : b < w.heap.size
 bw : Below w.heap.size w wr
theorem CaSt.drewN {w wr : World} {b : Nat} {g : Nat → Bool} {v : Value} {L : List Rc} (h : CaSt w b g v L wr) (q : Nat) : CaSt w b g v L (wr.drewN q) :=
 ⟨h.rs, h.out, own_drewN h.own q, h.gr.drewN q, h.bl, below_drewN h.bw q⟩
theorem CaSt.size {w wr : World} {b : Nat} {g : Nat → Bool} {v : Value} {L : List Rc} (h : CaSt w b g v L wr) : w.heap.size + 1 < wr.heap.size := (Array.getElem?_eq_some_iff.1 h.out).1
theorem CaSt.cell {w wr : World} {b : Nat} {g : Nat → Bool} {v : Value} {L : List Rc} (h : CaSt w b g v L wr) : wr.cell? ⟨w.heap.size + 1, 0, none⟩ = some v := by
 have := h.out; simp [World.cell?, this]
theorem CaSt.frozen {w wr : World} {b : Nat} {g : Nat → Bool} {v : Value} {L : List Rc} (h : CaSt w b g v L wr) : wr.frozen? ⟨w.heap.size + 1, 0, none⟩ = false := by
 have := h.out; simp [World.frozen?, this]
theorem CaSt.rcell {w wr : World} {b : Nat} {g : Nat → Bool} {v : Value} {L : List Rc} (h : CaSt w b g v L wr) : wr.cell? ⟨w.heap.size, 0, none⟩ = some (.slice none 0 0) := by
 have := h.rs; simp [World.cell?, this]
theorem CaSt.rfrozen {w wr : World} {b : Nat} {g : Nat → Bool} {v : Value} {L : List Rc} (h : CaSt w b g v L wr) : wr.frozen? ⟨w.heap.size, 0, none⟩ = false := by
 have := h.rs; simp [World.frozen?, this]
theorem heap_set0 {w : World} {g : Nat} {s : Value} {T : TypeId} (hg : w.heap[g]? = some (.cells #[s] T (0, 0))) (v : Value) :
  (w.setCell ⟨g, 0, none⟩ v).heap[g]? = some (.cells #[v] T (0, 0)) := by rw [heap_setCell_same w g 0 _ T v hg]; rfl
theorem CaSt.next {w wr w2 : World} {b : Nat} {g : Nat → Bool} {v v' : Value} {L : List Rc} {o : Obj} (h : CaSt w b g v L wr) (r : Rc)
  (hown : w2.ownsRow (w.heap.size + 2) 113 4 v' (L.length + 1) (rcsCells L ++ rcCells r)) (hgr : (wr.alloc o).grownBy w2 v.ownBlock) :
  CaSt w b g v' (L ++ [r]) (w2.setCell ⟨w.heap.size + 1, 0, none⟩ v') := by
 have hlow : ∀ k, k < w.heap.size + 2 → some k ≠ v.ownBlock := fun k hk e => by have := (h.own.lt k e.symm).1; omega
 have hs := h.size
 have hk : ∀ k, k < w.heap.size + 2 → w2.heap[k]? = wr.heap[k]? := fun k hk => (hgr.block k (by simp; omega) (hlow k hk)).trans (Below.heap_alloc wr o k (by omega))
 refine ⟨?_, heap_set0 ((hk _ (by omega)).trans h.out) v', ?_, ?_, h.bl, ?_⟩
 ·exact (Below.heap_setCell w2 _ v' _ (by simp)).trans ((hk _ (by omega)).trans h.rs)
 ·have := hown.kept (row := some (w.heap.size + 1)) (w' := w2.setCell ⟨w.heap.size + 1, 0, none⟩ v') (grown_setc w2 _ _ v') (by
   by_cases hv : v'.ownBlock = none
   ·exact .inl hv
   ·refine .inr fun e => ?_
    have := (hown.lt _ e).1
    omega)
  rw [List.length_append, rcsCells_append, rcsCells_one]
  exact this
 ·exact (Below.heap_setCell w2 _ v' _ (by have := h.bl; simp; omega)).trans ((hk _ (by have := h.bl; omega)).trans h.gr)
 ·exact ((h.bw.alloc h.bw.size o).grown hgr (by have := h.bw.size; simp; omega) (fun k hk => by have := (h.own.lt k hk).1; omega)).setCell (by simp) _
theorem CaSt.form {w wr : World} {b : Nat} {g : Nat → Bool} {v : Value} {L : List Rc} (h : CaSt w b g v L wr) : ∃ A n c, v = .slice A n c := by
 obtain ⟨A, c, rfl⟩ := (RdR.of_own h.own).form
 exact ⟨A, _, c, rfl⟩
theorem CaSt.mid {w wr w2 : World} {b : Nat} {g : Nat → Bool} {v : Value} {L : List Rc} {o : Obj} (h : CaSt w b g v L wr) (hgr : (wr.alloc o).grownBy w2 v.ownBlock) :
  w2.cell? ⟨w.heap.size + 1, 0, none⟩ = some v ∧ w2.frozen? ⟨w.heap.size + 1, 0, none⟩ = false := by
 have hs := h.size
 have hk : w2.heap[w.heap.size + 1]? = wr.heap[w.heap.size + 1]? := (hgr.block _ (by simp; omega) (fun e => by have := (h.own.lt _ e.symm).1; omega)).trans (Below.heap_alloc wr o _ (by omega))
 have := hk.trans h.out
 exact ⟨by simp [World.cell?, this], by simp [World.frozen?, this]⟩
set_option maxHeartbeats 2000000 in
set_option maxRecDepth 10000 in
theorem canS (b : Nat) (g : Nat → Bool) (w : World) (hG : GrAt w b 4 g) : Calls Tryz.prog 170 #[.slice (some ⟨b, 0, none⟩) 256 256] w (CanAns g w) := by
  have hbl := hG.lt
  obtain ⟨i0, hi, hz0, hz1, hz2⟩ := info_parts infoRect
  have hS0 : CaSt w b g (.slice none 0 0) [] ((w.alloc (.cells #[.slice none 0 0] 30)).alloc (.cells #[.slice none 0 0] 30)) :=
    ⟨(Below.heap_alloc _ _ _ (by simp)).trans (heap_alloc_new w _), by have := heap_alloc_new (w.alloc (.cells #[.slice none 0 0] 30)) (.cells #[.slice none 0 0] 30); simpa using this,
      World.ownsRow_nil _ _ _ _, (hG.alloc _).alloc _, hbl, ((Below.refl _ _).alloc (Nat.le_refl _) _).alloc (by simp) _⟩
  clear hG
  go_enter Tryz.func170, Tryz.ntmps170
  go_wp2_with fail
  go_loopg [4] 16 (fun gk i wr => ∃ (y : Nat) (v : Value) (L : List Rc), y ≤ 16 ∧ gk = 16 - y ∧ i = .int .i64 y ∧ Hid (canon g = L ++ bands g y) ∧ CaSt w b g v L wr)
  case atStart => exact ⟨0, _, [], Nat.zero_le _, rfl, rfl, Lib.hid rfl, hS0⟩
  case round =>
    clear hS0
    obtain ⟨y, v, L, hy, rfl, rfl, hB, hS⟩ := hrel
    by_cases hy16 : y < 16
    · have hy16i : (y : Int) < 16 := by omega
      go_wp2_with fail
      go_loopg [5] 15 (fun g2 i2 wy => ∃ h : Nat, 1 ≤ h ∧ y + h ≤ 16 ∧ g2 = 16 - h ∧ i2 = .int .i64 h ∧ Hid (bandFrom g y h = bandH g y) ∧ CaSt w b g v L wy)
      case atStart => exact ⟨1, Nat.le_refl _, by omega, by omega, rfl, Lib.hid rfl, hS⟩
      case round =>
        clear hS
        obtain ⟨h, hh1, hh2, rfl, rfl, hH, hS⟩ := hrel
        by_cases hc : y + h < 16 ∧ rowEq g y (y + h) = true
        · have hyh := hc.1
          have hyi : (y : Int) + (h : Int) < 16 := by omega
          have Hre := Lib.hid hc.2
          clear hc
          go_wp2_with fail
          refine (rowS' b g y (y + h) _ (by omega) (by omega) (by omega) _ hS.gr).mono ?_
          rintro e w1 ⟨rfl, q, rfl⟩
          rw [Hre.out]
          go_wp2_with fail
          go_roundg (16 - (h + 1))
          case measure => omega
          case rel => exact ⟨h + 1, by omega, by omega, rfl, by go_num, Lib.hid ((bandFrom_go hyh Hre.out).symm.trans hH.out), hS.drewN q⟩
        · have hB2 : Hid (canon g = L ++ (runs g y h 0 ++ bands g (y + h))) := Lib.hid (by rw [hB.out, bands_open g y h hy16 (hH.out.symm.trans (bandFrom_stop hc))])
          have Hc := Lib.hid hc
          clear hc hB hH
          (by_cases hyh : y + h < 16)
          (have hyi : (y : Int) + (h : Int) < 16 := by omega
           have hre : rowEq g y (y + h) = false := by
            rcases e : rowEq g y (y + h) with _ | _
            · rfl
            · exact absurd ⟨hyh, e⟩ Hc.out
           have Hre := Lib.hid hre
           clear hre
           go_wp2_with fail
           refine (rowS' b g y (y + h) _ (by omega) (by omega) (by omega) _ hS.gr).mono ?_
           rintro e w1 ⟨rfl, q, rfl⟩
           rw [Hre.out]
           have hS := hS.drewN q
           clear hyi
           go_wp2_with fail)
          rotate_left
          (have hyi : ¬ (y : Int) + (h : Int) < 16 := by omega
           go_wp2_with fail)
          all_goals
            go_loopg [6] 17 (fun g3 i3 wx => ∃ (x : Nat) (v : Value) (L : List Rc), x ≤ 17 ∧ g3 = 17 - x ∧ i3 = .int .i64 x ∧ Hid (canon g = L ++ (runs g y h x ++ bands g (y + h))) ∧ CaSt w b g v L wx)
            case atStart => exact ⟨0, v, L, by omega, rfl, rfl, hB2, hS⟩
            case round =>
              clear hS hB2
              obtain ⟨x, v, L, hx, rfl, rfl, hB3, hS⟩ := hrel
              by_cases hx16 : x < 16
              · have hxi : (x : Int) < 16 := by omega
                go_wp2_with fail
                go_loopg [7] 16 (fun g4 i4 wu => ∃ u : Nat, x + u ≤ 16 ∧ g4 = 16 - u ∧ i4 = .int .i64 u ∧ Hid (runFrom g y x u = runW g y x) ∧ CaSt w b g v L wu)
                case atStart => exact ⟨0, by omega, rfl, rfl, Lib.hid rfl, hS⟩
                case round =>
                  clear hS
                  obtain ⟨u, hu1, rfl, rfl, hU, hS⟩ := hrel
                  by_cases hc : x + u < 16 ∧ g (y * 16 + (x + u)) = true
                  · have hxui : (x : Int) + (u : Int) < 16 := by omega
                    have b0 : (0 : Int) ≤ (y : Int) * 16 + (x : Int) + (u : Int) := by omega
                    have b1 : (y : Int) * 16 + (x : Int) + (u : Int) < 256 := by omega
                    have hcell := hS.gr.cell (y * 16 + x + u) (by omega)
                    rw [show g (y * 16 + x + u) = true by rw [Nat.add_assoc]; exact hc.2] at hcell
                    have Hc := Lib.hid hc
                    clear hc
                    go_wp2_with fail
                    go_roundg (16 - (u + 1))
                    case measure => omega
                    case rel => exact ⟨u + 1, by omega, rfl, by go_num, Lib.hid ((runFrom_go Hc.out.1 Hc.out.2).symm.trans hU.out), hS⟩
                  · have hB4 : Hid (canon g = L ++ (((if 0 < u then [⟨x, y, u, h⟩] else []) ++ runs g y h (x + u + 1)) ++ bands g (y + h))) :=
                      Lib.hid (by rw [hB3.out, runs_open g y h x u hx16 (hU.out.symm.trans (runFrom_stop hc))])
                    have hLl : L.length ≤ 256 := canon_part hB4.out
                    have Hc := Lib.hid hc
                    have oc := hS.cell
                    have of := hS.frozen
                    clear hc hB3 hU
                    by_cases hu0 : 0 < u
                    · rw [if_pos hu0] at hB4
                      have hu0i : (0 : Int) < (u : Int) := by omega
                      (by_cases hxu : x + u < 16)
                      (have hxui : (x : Int) + (u : Int) < 16 := by omega
                       have b0 : (0 : Int) ≤ (y : Int) * 16 + (x : Int) + (u : Int) := by omega
                       have b1 : (y : Int) * 16 + (x : Int) + (u : Int) < 256 := by omega
                       have hcell := hS.gr.cell (y * 16 + x + u) (by omega)
                       rw [show g (y * 16 + x + u) = false by
                        rw [Nat.add_assoc]
                        rcases e : g (y * 16 + (x + u)) with _ | _
                        · rfl
                        · exact absurd ⟨hxu, e⟩ Hc.out] at hcell)
                      rotate_left
                      (have hxui : ¬ (x : Int) + (u : Int) < 16 := by omega)
                      all_goals
                        go_wp2_with (at_builtin; refine wpList_append_own _ rfl _ _ 28 rfl (w.heap.size + 2) 113 i0 (.agg #[.int .i64 0, .int .i64 0, .int .i64 0, .int .i64 0]) 4 32 Tryz.underlying28 hi hz0 hz1 hz2 rfl (by decide) _ _ _ rfl (hS.own.alloc _) ⟨_, 0, none⟩ 1 1 _ rfl rfl (World.news_of_block (cs := #[.int .i64 x, .int .i64 y, .int .i64 u, .int .i64 h]) (fr := (0, 0)) (heap_alloc_new _ _)) (by intro u' hu'; simp at hu'; rcases hu' with rfl | rfl | rfl | rfl <;> rfl) (by unfold maxLen; omega) (by omega) (by have := hS.size; simp; omega) ?_)
                        intro v2 w2 hown2 hgrow _
                        obtain ⟨gq, cq, hvq, _, _⟩ := hown2.form (by omega)
                        subst hvq
                        obtain ⟨oc2, of2⟩ := hS.mid hgrow
                        have hS := hS.next ⟨x, y, u, h⟩ hown2 hgrow
                        clear hown2 hgrow oc of
                        go_wp2_with fail
                        go_roundg (17 - (x + u + 1))
                        case measure => omega
                        case rel => exact ⟨x + u + 1, _, L ++ [⟨x, y, u, h⟩], by omega, rfl, by go_num, Lib.hid (by rw [hB4.out]; simp only [List.append_assoc]), hS⟩
                    · obtain rfl : u = 0 := by omega
                      rw [if_neg (by omega), List.nil_append] at hB4
                      have b0 : (0 : Int) ≤ (y : Int) * 16 + (x : Int) := by omega
                      have b1 : (y : Int) * 16 + (x : Int) < 256 := by omega
                      have hcell := hS.gr.cell (y * 16 + x) (by omega)
                      rw [show g (y * 16 + x) = false by
                        rcases e : g (y * 16 + x) with _ | _
                        · rfl
                        · exact absurd ⟨hx16, e⟩ Hc.out] at hcell
                      go_wp2_with fail
                      go_roundg (17 - (x + 0 + 1))
                      case measure => omega
                      case rel => exact ⟨x + 0 + 1, v, L, by omega, rfl, by go_num, hB4, hS⟩
              · have hxi : ¬ (x : Int) < 16 := by omega
                go_wp2_with fail
                go_roundg (16 - (y + h))
                case measure => omega
                case rel => exact ⟨y + h, v, L, by omega, rfl, by go_num, Lib.hid (by rw [hB3.out, runs_end g y h x (by omega), List.nil_append]), hS⟩
    · obtain ⟨A, nv, cv, rfl⟩ := hS.form
      have hy16i : ¬ (y : Int) < 16 := by omega
      have hB2 : L = canon g := by rw [hB.out, bands_end g y (by omega), List.append_nil]
      have oc := hS.cell
      have of := hS.frozen
      have rc := hS.rcell
      have rf := hS.rfrozen
      have hsz := hS.size
      go_wp2_with fail
      exact bodyPost_ret (v := .agg #[.slice A nv cv]) (by simp [results, Tryz.results170, go_sem, rc]) rfl ⟨_, rfl, by
        have h1 := (hS.own.mono (show w.heap.size ≤ w.heap.size + 2 by omega)).kept (row := some w.heap.size) (grown_setc wr _ 0 (.slice A nv cv)) (by
          by_cases hv : (Value.slice A nv cv).ownBlock = none
          · exact .inl hv
          · refine .inr fun e => ?_
            have := (hS.own.lt _ e).1
            omega)
        rw [hB2] at h1
        exact h1, hS.bw.setCell (Nat.le_refl _) _⟩
end Go.Proofs.YtdgagooldlnpeaaGreat
namespace Go.Proofs.YtdgagooldlnpeaaGreat
open Go.RowKit
set_option maxHeartbeats 1000000 in
set_option maxRecDepth 10000 in
theorem sameS (v u : Value) (L M : List Rc) (w : World) (hv : RdR w v L) (hu : RdR w u M) :
  Calls Tryz.prog 166 #[v, u] w fun e w' => e = .returned (.bool (sameL L M)) ∧ ∃ q, w' = w.drewN q := by
 obtain ⟨A, c, rfl⟩ := hv.form
 obtain ⟨A', c', rfl⟩ := hu.form
 have hn1 : L.length ≤ 9223372036854775807 := by have := hv.len; unfold maxLen at this; omega
 have hn2 : M.length ≤ 9223372036854775807 := by have := hu.len; unfold maxLen at this; omega
 by_cases hlen : L.length = M.length
 ·obtain ⟨n, hn⟩ : ∃ n, n = L.length := ⟨_, rfl⟩
  rw [← hlen] at hu ⊢
  rw [← hn] at hn1 hv hu ⊢
  have Hn := Lib.hid hn
  have Hlen := Lib.hid hlen
  have Hv := Lib.hid hv
  have Hu := Lib.hid hu
  clear hlen hn2 hn hv hu
  go_enter Tryz.func166, Tryz.ntmps166
  go_wp2_with fail
  go_loopw [5] (fun i wr => ∃ k : Nat, k ≤ n ∧ i = .int .i64 k ∧ (∀ j, j < k → L[j]? = M[j]?) ∧ ∃ q, wr = w.drewN q) (fun i _ => n - (intOf i).toNat)
  case atStart => exact ⟨0, Nat.zero_le _, rfl, fun j hj => by omega, 0, rfl⟩
  case round =>
   obtain ⟨k, hk, rfl, hall, q, rfl⟩ := hrel
   have Hall := Lib.hid hall
   clear hall
   by_cases hlt : k < n
   ·obtain ⟨ga, r, rfl, hr, hC⟩ := Hv.out.at_ (k := k) (by rw [← Hn.out]; exact hlt)
    obtain ⟨gb, s, rfl, hs, hD⟩ := Hu.out.at_ (k := k) (by rw [← Hlen.out, ← Hn.out]; exact hlt)
    have Hr := Lib.hid hr
    have Hs := Lib.hid hs
    obtain ⟨a0, a1, a2, a3⟩ := hC.cells
    obtain ⟨b0, b1, b2, b3⟩ := hD.cells
    clear hr hs hC hD
    have k0 : (0 : Int) ≤ (k : Int) := by omega
    have k1 : (k : Int) < (n : Int) := by omega
    rcases rc_cases r s with ⟨hq, e0, e1, e2, e3⟩ | ⟨hq, hq'⟩
    ·have Hq := Lib.hid hq
     clear hq
     go_wp2_with fail
     go_quiet (fail)
     go_wp2_with fail
     rename_i nq
     go_roundw
     case rel =>
      refine ⟨k + 1, by omega, by go_num, fun j hj => ?_, _, rfl⟩
      by_cases e : j < k
      ·exact Hall.out j e
      ·obtain rfl : j = k := by omega
       rw [Hr.out, Hs.out, Hq.out]
     case measure => simp [intOf]; omega
    ·have hne : sameL L M = false := sameL_no fun e => hq (by have h1 := Hr.out; rw [e, Hs.out] at h1; injection h1 with h1; exact h1.symm)
     have Hne := Lib.hid hne
     clear hne hq
     rcases hq' with e0 | ⟨e0, e1⟩ | ⟨e0, e1, e2⟩ | ⟨e0, e1, e2, e3⟩
     ·go_wp2_with fail
      go_quiet (fail)
      go_wp2_with fail
      go_ret
      exact ⟨ret_bool Hne.out.symm, q + _, by first | rfl | exact World.drewN_drewN _ _ _⟩
     ·go_wp2_with fail
      go_quiet (fail)
      go_wp2_with fail
      go_ret
      exact ⟨ret_bool Hne.out.symm, q + _, by first | rfl | exact World.drewN_drewN _ _ _⟩
     ·go_wp2_with fail
      go_quiet (fail)
      go_wp2_with fail
      go_ret
      exact ⟨ret_bool Hne.out.symm, q + _, by first | rfl | exact World.drewN_drewN _ _ _⟩
     ·go_wp2_with fail
      go_quiet (fail)
      go_wp2_with fail
      go_ret
      exact ⟨ret_bool Hne.out.symm, q + _, by first | rfl | exact World.drewN_drewN _ _ _⟩
   ·obtain rfl : k = n := by omega
    have heq : L = M := List.ext_getElem? fun j => by
     by_cases e : j < k
     ·exact Hall.out j e
     ·rw [List.getElem?_eq_none (by rw [← Hn.out]; omega), List.getElem?_eq_none (by rw [← Hlen.out, ← Hn.out]; omega)]
    have Heq := Lib.hid (sameL_yes heq)
    clear heq
    go_wp2_with fail
    go_ret
    exact ⟨ret_bool Heq.out.symm, _, rfl⟩
 ·have Hne := Lib.hid (sameL_no (fun e : L = M => hlen (by rw [e])))
  have hb : ((L.length : Int) != (M.length : Int)) = true := by rw [bne_iff_ne]; omega
  go_enter Tryz.func166, Tryz.ntmps166
  go_wp2_with fail
  go_ret
  exact ⟨ret_bool Hne.out.symm, 0, rfl⟩
end Go.Proofs.YtdgagooldlnpeaaGreat
namespace Go.Proofs.YtdgagooldlnpeaaGreat
open Go.RowKit
set_option maxHeartbeats 1000000 in
set_option maxRecDepth 10000 in
theorem rofS (v : Value) (L : List Rc) (w : World) (h : RdR w v L) : Calls Tryz.prog 113 #[v] w (RofAns L w) := by
 have h1 := h.alloc (.cells #[.slice none 0 0] 30)
 have H := Lib.hid h1
 clear h h1
 go_enter Tryz.func113, Tryz.ntmps113
 go_wp2_with fail
 refine (gridS v L _ H.out).mono ?_
 rintro e w1 ⟨b, rfl, hb0, hG, hb1⟩
 go_wp2_with fail
 refine (canS b (gridOf L) _ hG).mono ?_
 rintro e w2 ⟨u, rfl, hown, hb2⟩
 have hz := hb1.size
 have hh := rg_cell (hb1.trans (hb2.mono hb1.size)) rfl
 have hw := ((Below.refl w.heap.size w).alloc (Nat.le_refl _) (.cells #[.slice none 0 0] 30)).trans ((hb1.trans (hb2.mono hb1.size)).mono (by simp))
 obtain ⟨A, c, hu⟩ := own_shape hown
 subst hu
 have rc : w2.cell? ⟨w.heap.size, 0, none⟩ = some (.slice none 0 0) := by simp [World.cell?, hh]
 have rf : w2.frozen? ⟨w.heap.size, 0, none⟩ = false := by simp [World.frozen?, hh]
 have Hown := Lib.hid hown
 simp at hz
 clear hown hb1 hb2 hG hb0 hh
 go_wp2_with fail
 exact bodyPost_ret (v := .agg #[.slice A (canon (gridOf L)).length c]) (by simp [results, Tryz.results113, go_sem, rc]) rfl ⟨_, rfl, own_set Hown.out (by omega) (by omega) _, hw.setCell (by simp) _⟩
end Go.Proofs.YtdgagooldlnpeaaGreat
namespace Go.Proofs.YtdgagooldlnpeaaGreat
open Go.RowKit
set_option maxHeartbeats 1000000 in
set_option maxRecDepth 10000 in
theorem rokS (v : Value) (L : List Rc) (w : World) (h : RdR w v L) : Calls Tryz.prog 108 #[.agg #[v]] w (RokAns L w) := by
 have hV := h.alloc (.cells #[v] 30)
 have hw := (Below.refl w.heap.size w).alloc (Nat.le_refl _) (.cells #[v] 30)
 have hc : (w.alloc (.cells #[v] 30)).cell? ⟨w.heap.size, 0, none⟩ = some v := new_cell w v _
 clear h
 go_enter Tryz.func108, Tryz.ntmps108
 go_wp2_with fail
 go_region_held3 (fun w' => w'.cell? ⟨w.heap.size, 0, none⟩ = some v)
  (with_reducible first | exact hc | exact cell_drew hc | fail)
  (first | (go_at_call 113; (with_reducible first | refine (rofS v L _ hV).mono ?_ | refine (rofS v L _ hV.drew).mono ?_); rintro e wk ⟨u, rfl, hown, hbk⟩; have hfld := field_rg u; (with_reducible first | have hV := hV.call hbk | have hV := hV.drew.call hbk); (with_reducible first | have hw := below_call hw hbk | have hw := below_call hw.drew hbk); (with_reducible first | (have hc := cell_call hbk hc) | (have hc := cell_call hbk (cell_drew hc)))) | (go_at_call 166; (with_reducible first | refine (sameS u v _ L _ (RdR.of_own hown) hV).mono ?_ | refine (sameS u v _ L _ (RdR.of_own hown).drew hV.drew).mono ?_); rintro e wk ⟨rfl, q, rfl⟩; have hw := below_drewN hw q; have hc := cell_drewN hc q))
 go_wp2_with fail
 go_ret
 exact ⟨rfl, by first | exact hw | exact hw.drew | exact below_drewN hw _⟩
end Go.Proofs.YtdgagooldlnpeaaGreat
