/- The contract of impl.pointsOf. No statement is proved here. -/
import Derived.Test.YtfehdcenmncbpabRd
import Derived.Test.YtfehdcenmncbpabRectC
import Derived.Test.YtfehdcenmncbpabBlk4
import Derived.Test.YtfehdcenmncbpabRegM
import Derived.Test.YtfehdcenmncbpabGrid
import Derived.Test.YtfehdcenmncbpabIsectP
import Derived.Test.YtfehdcenmncbpabIsectI
import Derived.Test.YtfehdcenmncbpabHasC
import Derived.Test.YtfehdcenmncbpabRectEq
import Derived.Test.YtfehdcenmncbpabRegN
import Derived.Test.YtfehdcenmncbpabMark
import Derived.Test.YtfehdcenmncbpabRds
import Derived.Test.YtfehdcenmncbpabArr
import Derived.Test.YtfehdcenmncbpabProg
import Derived.WalkKit
import Derived.ProofKit
import Derived.OpenShut
import Derived.WalkLawsBesides
import Derived.WalkSpells
import Derived.ShutString
import Derived.ChangeOld
import Derived.Below
import Derived.Lib.Hide
import Derived.BigQuiet
import Derived.Deep.QuietTactic
import Derived.Maps.AppendAt
import Derived.Deep.Draws
import Derived.Deep.MidRow
import Derived.Deep.WholeRow
import Derived.Deep.OwnRows
import Derived.Deep.RegionHeld3
import Derived.Deep.DeepCutAuto
import Derived.Deep.LoopGhost
namespace Go.Proofs.Ytfehdcenmncbpab
open Go.RowKit
/-- What pointsOf answers. -/
def PtsAns (L : List Rc) (w : World) (e : Ending) (w' : World) : Prop := e = .returned (.agg (gCells (gridOf L))) ∧ Below w.heap.size w w'
theorem isectI_scr (r : Rc) (w : World) :
    Calls Try.prog 62 #[.agg #[.int .i64 r.x, .int .i64 r.y, .int .i64 r.w, .int .i64 r.h], .agg #[.int .i64 0, .int .i64 0, .int .i64 16, .int .i64 16]] w
      fun e w' => ∃ X Y W H : Nat, e = .returned (.agg #[.int .i64 X, .int .i64 Y, .int .i64 W, .int .i64 H]) ∧ Hid (isect r screenR = ⟨X, Y, W, H⟩) ∧ X + W ≤ 16 ∧ Y + H ≤ 16 ∧ Below w.heap.size w w' := by
  refine (isectI_any r screenR w).mono ?_
  rintro e w' ⟨rfl, hb⟩
  obtain ⟨X, Y, W, H, he, h1, h2⟩ := screen_nat r
  exact ⟨X, Y, W, H, by rw [he], he, h1, h2, hb⟩
theorem right_nat (X Y W H : Nat) (h1 : X + W ≤ 16) (h2 : Y + H ≤ 16) (w : World) :
    Calls Try.prog 107 #[.agg #[.int .i64 X, .int .i64 Y, .int .i64 W, .int .i64 H]] w fun e w' => e = .returned (.int .i64 (X + W)) ∧ Below w.heap.size w w' := by
  refine (rightOf_any ⟨X, Y, W, H⟩ (by unfold Rc.ok; dsimp only; omega) w).mono ?_
  rintro e w' ⟨rfl, rfl⟩
  exact ⟨rfl, (Below.refl _ _).alloc (Nat.le_refl _) _⟩
theorem bottom_nat (X Y W H : Nat) (h1 : X + W ≤ 16) (h2 : Y + H ≤ 16) (w : World) :
    Calls Try.prog 63 #[.agg #[.int .i64 X, .int .i64 Y, .int .i64 W, .int .i64 H]] w fun e w' => e = .returned (.int .i64 (Y + H)) ∧ Below w.heap.size w w' := by
  refine (bottomOf_any ⟨X, Y, W, H⟩ (by unfold Rc.ok; dsimp only; omega) w).mono ?_
  rintro e w' ⟨rfl, rfl⟩
  exact ⟨rfl, (Below.refl _ _).alloc (Nat.le_refl _) _⟩
/-- The memory in the loops of pointsOf: the result's variable, the grid. -/
structure GpSt (w : World) (g : Nat → Bool) (wr : World) : Prop where
  rs : GrAt wr w.heap.size 80 (fun _ => false)
  gr : GrAt wr (w.heap.size + 1) 80 g
  bw : Below w.heap.size w wr
theorem GpSt.size {w wr : World} {g : Nat → Bool} (h : GpSt w g wr) : w.heap.size + 1 < wr.heap.size := h.gr.lt
theorem GpSt.call {w wr w' : World} {g : Nat → Bool} (h : GpSt w g wr) (hb : Below wr.heap.size wr w') : GpSt w g w' :=
  ⟨h.rs.below hb h.rs.lt, h.gr.below hb h.gr.lt, h.bw.trans (hb.mono h.bw.size)⟩
theorem GpSt.alloc {w wr : World} {g : Nat → Bool} (h : GpSt w g wr) (o : Obj) : GpSt w g (wr.alloc o) :=
  ⟨h.rs.alloc o, h.gr.alloc o, h.bw.alloc h.bw.size o⟩
theorem GpSt.set {w wr : World} {g : Nat → Bool} (h : GpSt w g wr) (k : Nat) (v : Bool) : GpSt w (gSet g k v) (wr.setCell ⟨w.heap.size + 1, k, none⟩ (.bool v)) :=
  ⟨h.rs.far (by simp) _, h.gr.set k v, h.bw.setCell (by simp) _⟩
theorem GpSt.congr {w wr : World} {g g' : Nat → Bool} (h : GpSt w g wr) (e : ∀ k, k < 256 → g k = g' k) : GpSt w g' wr := ⟨h.rs, h.gr.congr e, h.bw⟩
set_option maxHeartbeats 2000000 in
set_option maxRecDepth 10000 in
theorem gridI (v : Value) (L : List Rc) (w : World) (h : RdR w v L) : Calls Try.prog 110 #[v] w (PtsAns L w) := by
  obtain ⟨A, c, rfl⟩ := h.form
  have hm : L.length ≤ 9223372036854775807 := by have := h.len; unfold maxLen at this; omega
  obtain ⟨n, hn⟩ : ∃ n, n = L.length := ⟨_, rfl⟩
  rw [← hn] at hm h ⊢
  have Hn := Lib.hid hn
  have H := Lib.hid h
  clear h hn
  have hz := zeroGrid
  go_enter Try.func110, Try.ntmps110
  go_wp2_with fail
  go_loopg [11] n (fun gk i wr => ∃ k : Nat, k ≤ n ∧ gk = n - k ∧ i = .int .i64 k ∧ GpSt w (gridOf (L.take k)) wr)
  case atStart => exact ⟨0, Nat.zero_le _, by omega, rfl, ⟨(GrAt.new _ _ _).alloc _, (GrAt.newAt (by simp) _ _).congr (fun k _ => (gridOf_nil k).symm), ((Below.refl _ _).alloc (Nat.le_refl _) _).alloc (by simp) _⟩⟩
  case round =>
    obtain ⟨k, hk, rfl, rfl, hG⟩ := hrel
    by_cases hkn : k < n
    · obtain ⟨gv, r, rfl, hr, hC⟩ := (H.out.below hG.bw (fun g _ hl => hl)).at_ (k := k) (by rw [← Hn.out]; exact hkn)
      have Hr := Lib.hid hr
      clear hr
      have k0 : (0 : Int) ≤ (k : Int) := by omega
      have k1 : (k : Int) < (n : Int) := by omega
      obtain ⟨c0, c1, c2, c3⟩ := hC.cells
      go_wp2_with fail
      refine (isectI_scr r _).mono ?_
      rintro e wk ⟨X, Y, W, H, rfl, hI, hXW, hYH, hbk⟩
      have hG := (hG.alloc _).call hbk
      have hsz := hG.size
      clear c0 c1 c2 c3 hC hbk
      go_wp2_with fail
      have hR := RcAt.new wk ⟨X, Y, W, H⟩
      have hG := hG.alloc (.cells #[.int .i64 X, .int .i64 Y, .int .i64 W, .int .i64 H] 31)
      go_loopg [7] H (fun g2 i2 wy => ∃ y : Nat, Y ≤ y ∧ y ≤ Y + H ∧ g2 = Y + H - y ∧ i2 = .int .i64 y ∧ RcAt wy wk.heap.size ⟨X, Y, W, H⟩ ∧ GpSt w (markG (gridOf (L.take k)) X Y W H y X) wy)
      case atStart => exact ⟨Y, Nat.le_refl _, by omega, by omega, rfl, hR, hG.congr (fun i _ => (markG_start _ _ _ _ _ i).symm)⟩
      case round =>
        clear hR hG
        obtain ⟨y, hy1, hy2, rfl, rfl, hR, hG⟩ := hrel
        obtain ⟨r0, r1, r2, r3⟩ := hR.cells4
        go_wp2_with fail
        refine (bottom_nat X Y W H hXW hYH _).mono ?_
        rintro e wb ⟨rfl, hbb⟩
        have hR := hR.below hbb hR.lt
        have hG := hG.call hbb
        clear hbb r0 r1 r2 r3
        obtain ⟨r0, r1, r2, r3⟩ := hR.cells4
        by_cases hyl : y < Y + H
        · have hyi : (y : Int) < (Y : Int) + (H : Int) := by omega
          go_wp2_with fail
          go_loopg [8] W (fun g3 i3 wx => ∃ x : Nat, X ≤ x ∧ x ≤ X + W ∧ g3 = X + W - x ∧ i3 = .int .i64 x ∧ RcAt wx wk.heap.size ⟨X, Y, W, H⟩ ∧ GpSt w (markG (gridOf (L.take k)) X Y W H y x) wx)
          case atStart => exact ⟨X, Nat.le_refl _, by omega, by omega, rfl, hR, hG⟩
          case round =>
            clear hR hG r0 r1 r2 r3
            obtain ⟨x, hx1, hx2, rfl, rfl, hR, hG⟩ := hrel
            obtain ⟨r0, r1, r2, r3⟩ := hR.cells4
            go_wp2_with fail
            refine (right_nat X Y W H hXW hYH _).mono ?_
            rintro e wc ⟨rfl, hbc⟩
            have hR := hR.below hbc hR.lt
            have hG := hG.call hbc
            clear hbc r0 r1 r2 r3
            by_cases hxl : x < X + W
            · have hxi : (x : Int) < (X : Int) + (W : Int) := by omega
              have b0 : (0 : Int) ≤ (y : Int) := by omega
              have b1 : (y : Int) < 16 := by omega
              have b2 : (0 : Int) ≤ (x : Int) := by omega
              have b3 : (x : Int) < 16 := by omega
              have hcell := hG.gr.cell (y * 16 + x) (by omega)
              have hfz := hG.gr.frozen (y * 16 + x)
              go_wp2_with fail
              go_roundg (X + W - (x + 1))
              case measure => omega
              case rel => exact ⟨x + 1, by omega, by omega, rfl, by go_num, hR.far (by simp; omega) _, (hG.set (y * 16 + x) true).congr (fun i _ => markG_set _ X Y W H y x i ⟨hx1, hxl⟩ ⟨hy1, hyl⟩ hXW)⟩
            · obtain rfl : x = X + W := by omega
              go_wp2_with fail
              go_roundg (Y + H - (y + 1))
              case measure => omega
              case rel => exact ⟨y + 1, by omega, by omega, rfl, by go_num, hR, hG.congr (fun i _ => markG_row _ X Y W H y i)⟩
        · obtain rfl : y = Y + H := by omega
          go_wp2_with fail
          go_roundg (n - (k + 1))
          case measure => omega
          case rel => exact ⟨k + 1, by omega, rfl, by go_num, hG.congr (fun i hi => mark_take L k r X Y W H Hr.out hI.out i hi)⟩
    · obtain rfl : k = n := by omega
      have hG := hG.congr (g' := gridOf L) (fun i _ => by rw [List.take_of_length_le (by rw [← Hn.out]; exact Nat.le_refl _)])
      go_wp2_with fail
      refine wp_load_grid (Operand.tmp 3) rfl (w.heap.size + 1) (gridOf L) ?_ hG.gr ?_
      · rfl
      have hgs := gCells_size (gridOf L)
      have s1 := storeCellsGrid hG.rs (gridOf L)
      go_wp2_with fail
      exact bodyPost_ret (v := .agg (gCells (gridOf L))) (results_cell_row rfl _ _ w.heap.size _ _ _ _ (by rfl) (hG.rs.row (g' := gridOf L)) Try.underlying80 rfl (sizeGrid _)) rfl ⟨rfl, below_setRow hG.bw (Nat.le_refl _) _⟩
end Go.Proofs.Ytfehdcenmncbpab
