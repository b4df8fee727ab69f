/- The contracts of impl.clamped, impl.MakePixel, impl.Fade: channels in a block of memory. No statement is proved here. -/
import Derived.Test.YtfehdcenmncbpaaPixM
import Derived.Test.YtfehdcenmncbpaaClampC
import Derived.Test.YtfehdcenmncbpaaProg
import Derived.WalkKit
import Derived.ProofKit
import Derived.OpenShut
import Derived.WalkLawsBesides
import Derived.WalkSpells
import Derived.ShutString
import Derived.ChangeOld
import Derived.Below
import Derived.Lib.Hide
import Derived.Laws.BitsAllLaws
import Derived.Lib.QuoteBits
import Derived.Deep.RegionHeld3
namespace Go.Proofs.Ytfehdcenmncbpaa
open Go.RowKit
/-- Block g holds four channels. -/
def ChAt (w : World) (g : Nat) (a b c d : Int) : Prop := w.heap[g]? = some (.cells #[.int .i64 a, .int .i64 b, .int .i64 c, .int .i64 d] 78 (0, 0))
section
variable {w w' : World} {g B : Nat} {a b c d : Int}
theorem ChAt.lt (h : ChAt w g a b c d) : g < w.heap.size := (Array.getElem?_eq_some_iff.1 h).1
theorem ChAt.cells (h : ChAt w g a b c d) :
    w.cell? ⟨g, 0, none⟩ = some (.int .i64 a) ∧ w.cell? ⟨g, 1, none⟩ = some (.int .i64 b) ∧ w.cell? ⟨g, 2, none⟩ = some (.int .i64 c) ∧ w.cell? ⟨g, 3, none⟩ = some (.int .i64 d) := by
  unfold ChAt at h
  refine ⟨?_, ?_, ?_, ?_⟩ <;> simp [World.cell?, h]
theorem ChAt.frozen (h : ChAt w g a b c d) (o : Nat) : w.frozen? ⟨g, o, none⟩ = false := by
  unfold ChAt at h; simp [World.frozen?, h]
theorem ChAt.below (h : ChAt w g a b c d) (hb : Below B w w') (hg : g < B) : ChAt w' g a b c d := (hb.block g hg).trans h
theorem ChAt.call (h : ChAt w g a b c d) (hb : Below w.heap.size w w') : ChAt w' g a b c d := h.below hb h.lt
theorem ChAt.alloc (h : ChAt w g a b c d) (o : Obj) : ChAt (w.alloc o) g a b c d := (Below.heap_alloc w o g h.lt).trans h
theorem ChAt.new (w : World) (a b c d : Int) : ChAt (w.alloc (.cells #[.int .i64 a, .int .i64 b, .int .i64 c, .int .i64 d] 78)) w.heap.size a b c d := heap_alloc_new w _
theorem ChAt.newAt (h : w.heap.size = g) (a b c d : Int) : ChAt (w.alloc (.cells #[.int .i64 a, .int .i64 b, .int .i64 c, .int .i64 d] 78)) g a b c d := h ▸ ChAt.new w a b c d
theorem ChAt.drew (h : ChAt w g a b c d) : ChAt w.drew g a b c d := h
theorem ChAt.far (h : ChAt w g a b c d) {p : Addr} (hp : g ≠ p.block) (v : Value) : ChAt (w.setCell p v) g a b c d := (Below.heap_setCell w p v g hp).trans h
theorem ChAt.set0 (h : ChAt w g a b c d) (x : Int) : ChAt (w.setCell ⟨g, 0, none⟩ (.int .i64 x)) g x b c d := by
  unfold ChAt at *; simp [World.setCell, Array.getElem?_modify, h]
theorem ChAt.set1 (h : ChAt w g a b c d) (x : Int) : ChAt (w.setCell ⟨g, 1, none⟩ (.int .i64 x)) g a x c d := by
  unfold ChAt at *; simp [World.setCell, Array.getElem?_modify, h]
theorem ChAt.set2 (h : ChAt w g a b c d) (x : Int) : ChAt (w.setCell ⟨g, 2, none⟩ (.int .i64 x)) g a b x d := by
  unfold ChAt at *; simp [World.setCell, Array.getElem?_modify, h]
theorem ChAt.set3 (h : ChAt w g a b c d) (x : Int) : ChAt (w.setCell ⟨g, 3, none⟩ (.int .i64 x)) g a b c x := by
  unfold ChAt at *; simp [World.setCell, Array.getElem?_modify, h]
end
theorem px_call {a w w' : World} (h : Below a.heap.size a w) (hb : Below w.heap.size w w') : Below a.heap.size a w' := h.trans (hb.mono h.size)
/-- A channel brought into its range. -/
def clC (x : Int) : Int := clamp x 0 255
theorem clC_ok {x : Int} (h : chOk x) : clC x = x := by unfold chOk at h; unfold clC clamp; split <;> (try split) <;> omega
theorem clC_no {x : Int} (h : ¬ chOk x) : clC x ≠ x := by unfold chOk at h; unfold clC clamp; split <;> (try split) <;> omega
theorem clI (x : Int) (w : World) :
    Calls Try.prog 95 #[.int .i64 x, .int .i64 0, .int .i64 255] w fun e w' => e = .returned (.int .i64 (clC x)) ∧ w = w' := clampI x 0 255 w
theorem clampedI (a r g b : Int) (w : World) :
    Calls Try.prog 94 #[.agg #[.int .i64 a, .int .i64 r, .int .i64 g, .int .i64 b]] w
      fun e w' => e = .returned (.agg #[.int .i64 (clC a), .int .i64 (clC r), .int .i64 (clC g), .int .i64 (clC b)]) ∧ Below w.heap.size w w' := by
  go_enter Try.func94, Try.ntmps94
  go_wp2_with fail
  go_loopw [4] (fun i wr => ∃ (k : Nat) (c0 c1 c2 c3 : Int), k ≤ 4 ∧ i = .int .i64 k ∧ Hid (c0 = (if 0 < k then clC a else a) ∧ c1 = (if 1 < k then clC r else r) ∧ c2 = (if 2 < k then clC g else g) ∧ c3 = (if 3 < k then clC b else b)) ∧
    ChAt wr w.heap.size c0 c1 c2 c3 ∧ ChAt wr (w.heap.size + 1) 0 0 0 0 ∧ Below w.heap.size w wr) (fun i _ => 4 - (intOf i).toNat)
  case atStart => exact ⟨0, a, r, g, b, by omega, rfl, ⟨rfl, rfl, rfl, rfl⟩, (ChAt.new w a r g b).alloc _, ChAt.newAt (by simp) 0 0 0 0, ((Below.refl _ _).alloc (Nat.le_refl _) _).alloc (by simp) _⟩
  case round =>
    obtain ⟨k, c0, c1, c2, c3, hk, rfl, Hc, hC, hZ, K⟩ := hrel
    have hsz := hZ.lt
    obtain ⟨d0, d1, d2, d3⟩ := hC.cells
    have df := hC.frozen
    have HC := Lib.hid hC
    have HZ := Lib.hid hZ
    have HK := Lib.hid K
    obtain rfl | rfl | rfl | rfl | rfl : k = 0 ∨ k = 1 ∨ k = 2 ∨ k = 3 ∨ k = 4 := by omega
    · obtain rfl : c0 = a := by simpa using Hc.out.1
      clear hC hZ K
      go_wp2_with fail
      refine (clI _ _).mono ?_
      rintro e w2 ⟨rfl, rfl⟩
      go_wp2_with fail
      go_roundw
      case rel => exact ⟨1, _, _, _, _, by omega, rfl, ⟨rfl, Hc.out.2.1, Hc.out.2.2.1, Hc.out.2.2.2⟩, HC.out.set0 _, HZ.out.far (by simp) _, HK.out.setCell (by simp) _⟩
      case measure => simp [intOf]
    · obtain rfl : c1 = r := by simpa using Hc.out.2.1
      clear hC hZ K
      go_wp2_with fail
      refine (clI _ _).mono ?_
      rintro e w2 ⟨rfl, rfl⟩
      go_wp2_with fail
      go_roundw
      case rel => exact ⟨2, _, _, _, _, by omega, rfl, ⟨Hc.out.1, rfl, Hc.out.2.2.1, Hc.out.2.2.2⟩, HC.out.set1 _, HZ.out.far (by simp) _, HK.out.setCell (by simp) _⟩
      case measure => simp [intOf]
    · obtain rfl : c2 = g := by simpa using Hc.out.2.2.1
      clear hC hZ K
      go_wp2_with fail
      refine (clI _ _).mono ?_
      rintro e w2 ⟨rfl, rfl⟩
      go_wp2_with fail
      go_roundw
      case rel => exact ⟨3, _, _, _, _, by omega, rfl, ⟨Hc.out.1, Hc.out.2.1, rfl, Hc.out.2.2.2⟩, HC.out.set2 _, HZ.out.far (by simp) _, HK.out.setCell (by simp) _⟩
      case measure => simp [intOf]
    · obtain rfl : c3 = b := by simpa using Hc.out.2.2.2
      clear hC hZ K
      go_wp2_with fail
      refine (clI _ _).mono ?_
      rintro e w2 ⟨rfl, rfl⟩
      go_wp2_with fail
      go_roundw
      case rel => exact ⟨4, _, _, _, _, by omega, rfl, ⟨Hc.out.1, Hc.out.2.1, Hc.out.2.2.1, rfl⟩, HC.out.set3 _, HZ.out.far (by simp) _, HK.out.setCell (by simp) _⟩
      case measure => simp [intOf]
    · obtain rfl : c0 = clC a := by simpa using Hc.out.1
      obtain rfl : c1 = clC r := by simpa using Hc.out.2.1
      obtain rfl : c2 = clC g := by simpa using Hc.out.2.2.1
      obtain rfl : c3 = clC b := by simpa using Hc.out.2.2.2
      obtain ⟨z0, z1, z2, z3⟩ := hZ.cells
      have zf := hZ.frozen
      clear hC hZ K
      go_wp2_with fail
      exact bodyPost_ret (v := .agg #[.int .i64 (clC a), .int .i64 (clC r), .int .i64 (clC g), .int .i64 (clC b)]) (by simp [results, Try.results94, go_sem, z0, z1, z2, z3]) rfl
        ⟨rfl, (((HK.out.setCell (by simp) _).setCell (by simp) _).setCell (by simp) _).setCell (by simp) _⟩
end Go.Proofs.Ytfehdcenmncbpaa
