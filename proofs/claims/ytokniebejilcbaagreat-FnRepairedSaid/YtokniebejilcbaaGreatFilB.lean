/- The pixels of an image with a rectangle filled; a slice of one rectangle is built. No statement is proved here. -/
import Derived.Test.YtokniebejilcbaaGreatMA
import Derived.Test.YtokniebejilcbaaGreatMB
import Derived.Test.YtokniebejilcbaaGreatMC
import Derived.Test.YtokniebejilcbaaGreatCpyI
import Derived.Test.YtokniebejilcbaaGreatProg
import Derived.WalkKit
import Derived.ProofKit
import Derived.OpenShut
import Derived.WalkLawsBesides
import Derived.WalkSpells
import Derived.ShutString
import Derived.ChangeOld
import Derived.Below
import Derived.Lib.Hide
import Derived.BigQuiet
import Derived.Deep.QuietTactic
import Derived.Maps.AppendAt
import Derived.Deep.OwnRows
import Derived.Handy
import Derived.Deep.Draws
import Derived.OwnWalk
import Derived.Deep.AppendLies
import Derived.Deep.LoopGhost
import Derived.Deep.Onto
import Derived.Laws.BitsAllLaws
import Derived.Lib.QuoteBits
import Derived.Test.YtokniebejilcbaaGreatShelf
import Derived.Laws.CopyOwn
import Derived.Deep.RegionLaw
import Derived.Deep.RegionHeld3
import Derived.Deep.DeepCutAuto
import Derived.Great.BuildSlice
import Derived.Deep.MidRow
import Derived.Deep.WholeRow
import Derived.Laws.AppendOwn
namespace Go.Proofs.YtokniebejilcbaaGreat
open Go.RowKit
theorem okL_canon (g : Nat → Bool) : okL (canon g) = true := by
 unfold okL; rw [canon_idem]; exact sameL_yes rfl
noncomputable def fillIm (X Y : Int) (L : List Int) (r : Rc) (p : Int) : Im := copyIm X Y L (newIm X Y p).w (newIm X Y p).h (newIm X Y p).d (canon (gridOf [r]))
def rectF (W : Nat) (L : List Int) (r : Rc) (p : Int) : Nat → Int := fun k => if hasB r (k % W : Nat) (k / W : Nat) = true then p else L.getD k 0
theorem flat_ok {W H p : Int} (h : szOk W H) (hp : pixOk p) : imOk W H (flatN W H p) :=
 ⟨h, by unfold flatN; rw [tabI_length]; exact Int.toNat_of_nonneg (sz_mul h).1, fun k x hx => by obtain ⟨j, _, rfl⟩ := tabI_mem (List.mem_of_getElem? hx); exact hp⟩
theorem fill_val (W H : Nat) (L : List Int) (r : Rc) (p : Int) (h1 : imOk W H L) (hp : pixOk p) (hL : L.length = W * H) (wh : W ≤ 16) (hh : H ≤ 16) :
  fillIm W H L r p = ⟨W, H, tabI L.length (rectF W L r p)⟩ := by
 unfold fillIm
 rw [new_yes h1.1 hp]
 dsimp only
 rw [copy_yes h1 (flat_ok h1.1 hp) (okL_canon _)]
 congr 1
 refine tabI_congr _ fun k hk => ?_
 rw [hL] at hk
 have h2 := plc_row hk
 have h3 := Nat.mod_lt k (plc_pos hk)
 have h4 := plc_eq k W
 unfold copyF rectF
 simp only [Int.toNat_natCast]
 rw [gridOf_canon _ _ (by omega), gridOf_one, show (k / W * 16 + k % W) % 16 = k % W by omega, show (k / W * 16 + k % W) / 16 = k / W by omega]
 by_cases h : hasB r (k % W : Nat) (k / W : Nat) = true
 ·rw [if_pos h, if_pos ⟨h3, h2, h⟩, h4]
  unfold flatN
  exact tabI_getD _ _ _ (by rw [← Int.natCast_mul, Int.toNat_natCast]; exact hk)
 ·rw [if_neg h, if_neg fun h' => h h'.2.2]
theorem fill_no {X Y : Int} {L : List Int} {r : Rc} {p : Int} (h : ¬ (imOk X Y L ∧ r.ok ∧ pixOk p)) : fillIm X Y L r p = ⟨X, Y, L⟩ := by
 by_cases h1 : imOk X Y L
 ·by_cases hp : pixOk p
  ·obtain ⟨W, H, rfl, rfl, _, wh, _, hh, hL⟩ := im_nat h1
   rw [fill_val W H L r p h1 hp hL wh hh]
   congr 1
   exact (tabI_ext rfl fun k x hx => by
    unfold rectF
    rw [if_neg (by rw [has_no (fun h' => h ⟨h1, h'.1, hp⟩)]; simp), List.getD_eq_getElem?_getD, hx]; rfl).symm
  ·unfold fillIm
   rw [new_no fun h' => hp h'.2]
   exact copy_no fun h' => by have := h'.2.1.1; unfold szOk zeroIm at this; dsimp only at this; omega
 ·exact copy_no fun h' => h1 h'.1
def rectS (W : Nat) (p : Int) (f : Nat → Int) (X Y n y x : Nat) : Nat → Int := fun k =>
 if X ≤ k % W ∧ k % W < X + n ∧ Y ≤ k / W ∧ (k / W < y ∨ k / W = y ∧ k % W < x) then p else f k
theorem rectS_start (W : Nat) (p : Int) (f : Nat → Int) (X Y n k : Nat) : rectS W p f X Y n Y X k = f k := if_neg (by omega)
theorem rectS_row (W : Nat) (p : Int) (f : Nat → Int) (X Y n y k : Nat) : rectS W p f X Y n y (X + n) k = rectS W p f X Y n (y + 1) X k := by
 unfold rectS
 by_cases h : X ≤ k % W ∧ k % W < X + n ∧ Y ≤ k / W ∧ (k / W < y ∨ k / W = y ∧ k % W < X + n)
 ·rw [if_pos h, if_pos (by omega)]
 ·rw [if_neg h, if_neg (by omega)]
theorem rectS_set (W : Nat) (p : Int) (f : Nat → Int) (X Y n y x k : Nat) (hW : x < W) (hx : X ≤ x) (hx2 : x < X + n) (hy : Y ≤ y) :
  (if k = y * W + x then p else rectS W p f X Y n y x k) = rectS W p f X Y n y (x + 1) k := by
 by_cases e : k = y * W + x
 ·rw [if_pos e]
  obtain ⟨e1, e2⟩ := (plc_iff y k hW).1 e
  unfold rectS
  rw [e1, e2, if_pos ⟨hx, hx2, hy, by omega⟩]
 ·rw [if_neg e]
  have e' := mt (plc_iff y k hW).2 e
  unfold rectS
  by_cases h : X ≤ k % W ∧ k % W < X + n ∧ Y ≤ k / W ∧ (k / W < y ∨ k / W = y ∧ k % W < x)
  ·rw [if_pos h, if_pos (by omega)]
  ·rw [if_neg h, if_neg (by omega)]
theorem rectS_end (W H : Nat) (p : Int) (L : List Int) (r : Rc) (X Y n h k : Nat) (hk : k < W * H) (hI : ∀ p q : Nat, ((X ≤ p ∧ p < X + n ∧ Y ≤ q ∧ q < Y + h) ↔ (hasB r p q = true ∧ p < W ∧ q < H))) :
  rectS W p (fun k => L.getD k 0) X Y n (Y + h) X k = rectF W L r p k := by
 have h1 := plc_row hk
 have h2 := Nat.mod_lt k (plc_pos hk)
 have hi := hI (k % W) (k / W)
 unfold rectS rectF
 by_cases c : X ≤ k % W ∧ k % W < X + n ∧ Y ≤ k / W ∧ k / W < Y + h
 ·rw [if_pos (by omega), if_pos (hi.1 c).1]
 ·rw [if_neg (by omega), if_neg fun e => c (hi.2 ⟨e, h2, h1⟩)]
theorem run_build1 (r : Rc) (w : World) : (Instr.buildSlice 28 1 #[(0, .agg #[.int .i64 r.x, .int .i64 r.y, .int .i64 r.w, .int .i64 r.h])]).run Tryz.prog w = .ok (.slice (some ⟨w.heap.size, 0, none⟩) 1 1) (w.alloc (.cells #[.int .i64 r.x, .int .i64 r.y, .int .i64 r.w, .int .i64 r.h] 111)) := by
 kernel_rfl
theorem RdR.one {W : World} {g : Nat} {r : Rc} (h : RcAt W g r) : RdR W (.slice (some ⟨g, 0, none⟩) 1 1) [r] := by
 obtain ⟨h0, h1, h2, h3⟩ := h.cells
 refine ⟨by simp [maxLen], _, 1, rfl, fun _ => ⟨g, rfl, fun k s hs => ?_⟩⟩
 cases k with
 | zero => injection hs with hs; subst hs; exact ⟨h0, h1, h2, h3⟩
 | succ k => simp at hs
structure FlA (w : World) (X Y : Int) (v : Value) (r : Rc) (W : World) : Prop where
 a : ImAt W w.heap.size 55 X Y v
 b : RcAt W (w.heap.size + 1) r
 bw : Below w.heap.size w W
theorem FlA.call {w : World} {X Y : Int} {v : Value} {r : Rc} {W W' : World} (h : FlA w X Y v r W) (k : Below W.heap.size W W') : FlA w X Y v r W' :=
 ⟨h.a.call k, h.b.below k h.b.lt, belI_call h.bw k⟩
theorem FlA.grown {w : World} {X Y : Int} {v : Value} {r : Rc} {W W' : World} {g : Nat} (h : FlA w X Y v r W) (hg : W.grownBy W' (some g)) (hk : w.heap.size + 2 ≤ g) : FlA w X Y v r W' :=
 ⟨h.a.grown hg (by simp; omega), (hg.block _ h.b.lt (by simp; omega)).trans h.b, h.bw.grown hg h.bw.size (fun k hk => by injection hk with hk; omega)⟩
theorem FlA.born (w : World) (X Y : Int) (v : Value) (r : Rc) :
  FlA w X Y v r (((w.alloc (.cells #[.int .i64 X, .int .i64 Y, v] 55)).alloc (.cells #[.int .i64 r.x, .int .i64 r.y, .int .i64 r.w, .int .i64 r.h] 111)).alloc (.cells #[.int .i64 0, .int .i64 0, .slice none 0 0] 55)) :=
 ⟨((ImAt.new w _ _ _ _).alloc _).alloc _, (RcAt.newAt (w := w.alloc (.cells #[.int .i64 X, .int .i64 Y, v] 55)) (by simp) r).alloc _, belI_call (belI_call (belI_box _ _) (belI_box _ _)) (belI_box _ _)⟩
theorem fl_res (w : World) (X Y : Int) (v : Value) (r : Rc) :
  ImAt (((w.alloc (.cells #[.int .i64 X, .int .i64 Y, v] 55)).alloc (.cells #[.int .i64 r.x, .int .i64 r.y, .int .i64 r.w, .int .i64 r.h] 111)).alloc (.cells #[.int .i64 0, .int .i64 0, .slice none 0 0] 55)) (w.heap.size + 2) 55 0 0 (.slice none 0 0) :=
 ImAt.newAt (w := (w.alloc (.cells #[.int .i64 X, .int .i64 Y, v] 55)).alloc (.cells #[.int .i64 r.x, .int .i64 r.y, .int .i64 r.w, .int .i64 r.h] 111)) (by simp) _ _ _ _
end Go.Proofs.YtokniebejilcbaaGreat
