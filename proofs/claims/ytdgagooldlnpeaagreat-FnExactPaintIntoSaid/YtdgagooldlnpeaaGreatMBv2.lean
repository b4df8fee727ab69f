/- Texts of mine in one file: ImM, ImD, ImE, CpyB, DifB, Law, PnM. No statement is proved here. -/
import Derived.Test.YtdgagooldlnpeaaGreatMA
import Derived.Test.YtdgagooldlnpeaaGreatMAv023
import Derived.Test.YtdgagooldlnpeaaGreatMBv012
import Derived.Test.YtdgagooldlnpeaaGreatMB
import Derived.Test.YtdgagooldlnpeaaGreatMAv012
import Derived.Test.YtdgagooldlnpeaaGreatProg
import Derived.WalkKit
import Derived.ProofKit
import Derived.OpenShut
import Derived.WalkLawsBesides
import Derived.WalkSpells
import Derived.ShutString
import Derived.ChangeOld
import Derived.Below
import Derived.Lib.Hide
import Derived.BigQuiet
import Derived.Deep.QuietTactic
import Derived.Maps.AppendAt
import Derived.Deep.OwnRows
import Derived.Handy
import Derived.Deep.Draws
import Derived.OwnWalk
import Derived.Deep.AppendLies
import Derived.Deep.LoopGhost
import Derived.Deep.Onto
import Derived.Laws.BitsAllLaws
import Derived.Lib.QuoteBits
import Derived.Test.YtdgagooldlnpeaaGreatShelf
import Derived.Laws.CopyOwn
import Derived.Deep.RegionLaw
import Derived.Deep.RegionHeld3
import Derived.Deep.DeepCutAuto
import Derived.Great.BuildSlice
import Derived.Deep.MidRow
import Derived.Deep.WholeRow
import Derived.Laws.AppendOwn
import Derived.ChangeKeysEq
namespace Go.Proofs.YtdgagooldlnpeaaGreat
open Go.RowKit
theorem plc_span {W X n : Nat} (y k : Nat) (hX : X + n ≤ W) : (y * W + X ≤ k ∧ k < y * W + X + n) ↔ k / W = y ∧ X ≤ k % W ∧ k % W < X + n := by
 constructor
 ·rintro ⟨h1, h2⟩
  obtain ⟨d, hd⟩ : ∃ d, k = y * W + (X + d) := ⟨k - (y * W + X), by omega⟩
  subst hd
  have hx : X + d < W := by omega
  rw [plc_div y hx, plc_mod y hx]
  omega
 ·rintro ⟨rfl, h2, h3⟩
  have := plc_eq k W
  omega
theorem copy_len (X Y X2 Y2 : Int) (L F : List Int) (R : List Rc) : (copyIm X Y L X2 Y2 F R).d.length = L.length := by
 by_cases h : imOk X Y L ∧ imOk X2 Y2 F ∧ okL R = true
 ·rw [copy_yes h.1 h.2.1 h.2.2]; exact tabI_length _ _
 ·rw [copy_no h]
def copyS (W W2 : Nat) (L F : List Int) (g : Nat → Bool) (y x : Nat) : Nat → Int := fun k =>
 if (k / W < y ∨ k / W = y ∧ k % W < x) ∧ k % W < W2 ∧ g (k / W * 16 + k % W) = true then F.getD (k / W * W2 + k % W) 0 else L.getD k 0
theorem copyS_start (W W2 : Nat) (L F : List Int) (g : Nat → Bool) (k : Nat) : copyS W W2 L F g 0 0 k = L.getD k 0 :=
 if_neg fun h => by
  rcases h.1 with h | h
  ·exact Nat.not_lt_zero _ h
  ·exact Nat.not_lt_zero _ h.2
theorem copyS_row (W W2 x : Nat) (L F : List Int) (g : Nat → Bool) (y k : Nat) (hx : x = min W W2) (hW : 0 < W) : copyS W W2 L F g y x k = copyS W W2 L F g (y + 1) 0 k := by
 unfold copyS
 have hm := Nat.mod_lt k hW
 by_cases h : (k / W < y ∨ k / W = y ∧ k % W < x) ∧ k % W < W2 ∧ g (k / W * 16 + k % W) = true
 ·rw [if_pos h, if_pos ⟨by omega, h.2⟩]
 ·rw [if_neg h, if_neg fun h2 => h ⟨by omega, h2.2⟩]
theorem copyS_skip (W W2 : Nat) (L F : List Int) (g : Nat → Bool) (y x k : Nat) (hg : g (y * 16 + x) = false) : copyS W W2 L F g y x k = copyS W W2 L F g y (x + 1) k := by
 unfold copyS
 by_cases h : (k / W < y ∨ k / W = y ∧ k % W < x) ∧ k % W < W2 ∧ g (k / W * 16 + k % W) = true
 ·rw [if_pos h, if_pos ⟨by omega, h.2⟩]
 ·rw [if_neg h, if_neg]
  rintro ⟨h1, h2, h3⟩
  by_cases e : k / W = y ∧ k % W = x
  ·rw [e.1, e.2, hg] at h3; cases h3
  ·exact h ⟨by omega, h2, h3⟩
theorem copyS_set (W W2 : Nat) (L F : List Int) (g : Nat → Bool) (y x k : Nat) (hx : x < W) (hx2 : x < W2) (hg : g (y * 16 + x) = true) :
  (if k = y * W + x then F.getD (y * W2 + x) 0 else copyS W W2 L F g y x k) = copyS W W2 L F g y (x + 1) k := by
 by_cases e : k = y * W + x
 ·rw [if_pos e]
  obtain ⟨e1, e2⟩ := (plc_iff y k hx).1 e
  unfold copyS
  rw [e1, e2, if_pos ⟨by omega, hx2, hg⟩]
 ·rw [if_neg e]
  have e' := mt (plc_iff y k hx).2 e
  unfold copyS
  by_cases h : (k / W < y ∨ k / W = y ∧ k % W < x) ∧ k % W < W2 ∧ g (k / W * 16 + k % W) = true
  ·rw [if_pos h, if_pos ⟨by omega, h.2⟩]
  ·rw [if_neg h, if_neg fun h2 => h ⟨by omega, h2.2⟩]
theorem copyS_end (W H W2 H2 : Nat) (L F : List Int) (g : Nat → Bool) (y k : Nat) (hy : y = min H H2) (hk : k < W * H) : copyS W W2 L F g y 0 k = copyF W W2 H2 L F g k := by
 have h1 := plc_row hk
 unfold copyS copyF
 by_cases h : k % W < W2 ∧ k / W < H2 ∧ g (k / W * 16 + k % W) = true
 ·rw [if_pos h, if_pos ⟨by omega, h.1, h.2.2⟩]
 ·rw [if_neg h, if_neg fun h2 => h ⟨h2.2.1, by omega, h2.2.2⟩]
def copyR (W W2 : Nat) (F : List Int) (f : Nat → Int) (X Y n y : Nat) : Nat → Int := fun k =>
 if X ≤ k % W ∧ k % W < X + n ∧ Y ≤ k / W ∧ k / W < y then F.getD (k / W * W2 + k % W) 0 else f k
theorem copyR_start (W W2 : Nat) (F : List Int) (f : Nat → Int) (X Y n k : Nat) : copyR W W2 F f X Y n Y k = f k := if_neg (by omega)
theorem copyR_next (W W2 : Nat) (F : List Int) (f : Nat → Int) (X Y n y k : Nat) (hX : X + n ≤ W) (hy : Y ≤ y) :
  (if y * W + X ≤ k ∧ k < y * W + X + n then F.getD (y * W2 + X + (k - (y * W + X))) 0 else copyR W W2 F f X Y n y k) = copyR W W2 F f X Y n (y + 1) k := by
 by_cases e : y * W + X ≤ k ∧ k < y * W + X + n
 ·rw [if_pos e]
  obtain ⟨e1, e2, e3⟩ := (plc_span y k hX).1 e
  have h := plc_eq k W
  unfold copyR
  rw [if_pos ⟨e2, e3, by omega, by omega⟩]
  congr 1
  rw [e1] at h ⊢
  omega
 ·rw [if_neg e]
  have e' := mt (plc_span y k hX).2 e
  unfold copyR
  by_cases h : X ≤ k % W ∧ k % W < X + n ∧ Y ≤ k / W ∧ k / W < y
  ·rw [if_pos h, if_pos ⟨h.1, h.2.1, h.2.2.1, by omega⟩]
  ·rw [if_neg h, if_neg fun h2 => h (by
    by_cases e2 : k / W = y
    ·exact absurd ⟨e2, h2.1, h2.2.1⟩ e'
    ·exact ⟨h2.1, h2.2.1, h2.2.2.1, by omega⟩)]
theorem copyR_part (W H W2 H2 : Nat) (L F : List Int) (R : List Rc) (r : Rc) (j X Y n m k : Nat) (h16 : W ≤ 16 ∧ H ≤ 16) (hr : R[j]? = some r)
  (hk : k < W * H) (hI : ∀ p q : Nat, p < W → q < H → ((X ≤ p ∧ p < X + n ∧ Y ≤ q ∧ q < Y + m) ↔ (hasB r p q = true ∧ p < W2 ∧ q < H2))) :
  copyR W W2 F (copyF W W2 H2 L F (gridOf (R.take j))) X Y n (Y + m) k = copyF W W2 H2 L F (gridOf (R.take (j + 1))) k := by
 have h1 := plc_row hk
 have h2 := Nat.mod_lt k (plc_pos hk)
 have hi := hI (k % W) (k / W) h2 h1
 have hg : gridOf (R.take (j + 1)) (k / W * 16 + k % W) = (gridOf (R.take j) (k / W * 16 + k % W) || hasB r (k % W : Nat) (k / W : Nat)) := by
  rw [List.take_add_one, hr, gridOf_append]
  show (_ || gridOf [r] _) = _
  rw [gridOf_one, show (k / W * 16 + k % W) % 16 = k % W by omega, show (k / W * 16 + k % W) / 16 = k / W by omega]
 unfold copyR
 by_cases c : X ≤ k % W ∧ k % W < X + n ∧ Y ≤ k / W ∧ k / W < Y + m
 ·obtain ⟨b1, b2, b3⟩ := hi.1 c
  rw [if_pos c]
  unfold copyF
  rw [hg, b1, Bool.or_true, if_pos ⟨b2, b3, rfl⟩]
 ·rw [if_neg c]
  unfold copyF
  rw [hg]
  by_cases d : k % W < W2 ∧ k / W < H2
  ·have hb : hasB r (k % W : Nat) (k / W : Nat) = false := by
    rcases e : hasB r (k % W : Nat) (k / W : Nat) with _ | _
    ·rfl
    ·exact absurd (hi.2 ⟨e, d⟩) c
   rw [hb, Bool.or_false]
  ·rw [if_neg fun h => d ⟨h.1, h.2.1⟩, if_neg fun h => d ⟨h.1, h.2.1⟩]
end Go.Proofs.YtdgagooldlnpeaaGreat
namespace Go.Proofs.YtdgagooldlnpeaaGreat
open Go.RowKit
theorem zero71 (w : World) : (zeroValue 116).run Tryz.prog w = .ok (.agg #[.int .i64 0, .int .i64 0, .slice none 0 0]) w := by kernel_rfl
theorem size71 : (Tryz.prog.info? 116).map (·.size) = some 3 := by kernel_rfl
def CloneAns (L : List Int) (w : World) (e : Ending) (w' : World) : Prop := ∃ u, e = .returned u ∧ w'.ownsRow w.heap.size 3 1 u L.length (intCells L) ∧ Below w.heap.size w w'
theorem cloneI (v : Value) (L : List Int) (w : World) (hm : L.length ≤ 2097152) (hv : RdI w v L) : Calls Tryz.prog 194 #[v] w (CloneAns L w) := by
 rcases hv with ⟨rfl, rfl⟩ | ⟨g, c, rfl, hml, hlc, hc⟩
 ·refine (Tryz.slices_Clone_int_nil 0 0 w).mono ?_
  rintro e w' ⟨rfl, rfl⟩
  exact ⟨_, rfl, World.ownsRow_nil _ _ _ _, Below.refl _ _⟩
 ·refine (Tryz.slices_Clone_int g 0 L.length c L w (Nat.le_refl _) (by omega) (fun j hj => ?_)).mono ?_
  ·rw [Nat.zero_add, List.getD_eq_getElem?_getD, List.getElem?_eq_getElem hj]
   exact hc j _ (List.getElem?_eq_getElem hj)
  ·rintro e w' ⟨u, rfl, hown, _, hb⟩
   rw [List.take_length] at hown
   exact ⟨u, rfl, hown, hb⟩
set_option maxHeartbeats 600000 in
set_option maxRecDepth 10000 in
theorem copiedI (X Y : Int) (v : Value) (L : List Int) (w : World) (hm : L.length ≤ 2097152) (hv : RdI w v L) :
  Calls Tryz.prog 150 #[.agg #[.int .i64 X, .int .i64 Y, v]] w (ImAns X Y L w) := by
 have hv2 := (hv.alloc (.cells #[.int .i64 X, .int .i64 Y, v] 116)).alloc (.cells #[.int .i64 0, .int .i64 0, .slice none 0 0] 116)
 have hC := (ImAt.new w 116 X Y v).alloc (.cells #[.int .i64 0, .int .i64 0, .slice none 0 0] 116)
 have hR : ImAt ((w.alloc (.cells #[.int .i64 X, .int .i64 Y, v] 116)).alloc (.cells #[.int .i64 0, .int .i64 0, .slice none 0 0] 116)) (w.heap.size + 1) 116 0 0 (.slice none 0 0) := ImAt.newAt (by simp) _ _ _ _
 have hw := ((Below.refl w.heap.size w).alloc (Nat.le_refl _) (.cells #[.int .i64 X, .int .i64 Y, v] 116)).alloc (by simp) (.cells #[.int .i64 0, .int .i64 0, .slice none 0 0] 116)
 obtain ⟨A, c, rfl⟩ := hv.form
 obtain ⟨n, hn⟩ : ∃ n, n = L.length := ⟨_, rfl⟩
 rw [← hn] at hv2 hC hR hw ⊢
 have Hn := Lib.hid hn
 have Hm := Lib.hid hm
 clear hv hn hm
 obtain ⟨c0, c1, c2⟩ := hC.cells
 go_enter Tryz.func150, Tryz.ntmps150
 go_wp2_with fail
 refine (cloneI _ L _ Hm.out hv2).mono ?_
 rintro e w2 ⟨u, rfl, hown, hb⟩
 obtain ⟨Au, cu, hu⟩ := ownI_shape hown
 subst hu
 have hz := hb.size
 simp at hz
 have hC := hC.call hb
 have hR := hR.call hb
 have hlt := fun g hg => (hown.lt g hg).1
 have Hown := Lib.hid hown
 have Hw := Lib.hid (hw.trans (hb.mono hw.size))
 have Hlt := Lib.hid hlt
 clear hown hb hw hv2 c0 c1 c2 hlt
 obtain ⟨c0, c1, c2⟩ := hC.cells
 obtain ⟨r0, r1, r2⟩ := hR.cells
 have cf := hC.frozen 2
 have f0 := hR.frozen 0
 have f1 := hR.frozen 1
 have f2 := hR.frozen 2
 go_wp2_with fail
 have j := (hR.far (p := ⟨w.heap.size, 2, none⟩) (by simp) (.slice Au L.length cu)).set3 X Y (.slice Au L.length cu)
 obtain ⟨x0, x1, x2⟩ := j.cells
 refine bodyPost_ret (v := .agg #[.int .i64 X, .int .i64 Y, .slice Au L.length cu]) (by simp [results, Tryz.results150, go_sem, x0, x1, x2]) rfl ⟨_, rfl, ?_, (((Hw.out.setCell (by simp) _).setCell (by simp) _).setCell (by simp) _).setCell (by simp) _⟩
 exact ownI_far (ownI_far (ownI_far (ownI_far (Hown.out.mono (by simp; omega)) (fun g hg => by have := Hlt.out g hg; simp at this ⊢; omega) _) (fun g hg => by have := Hlt.out g hg; simp at this ⊢; omega) _) (fun g hg => by have := Hlt.out g hg; simp at this ⊢; omega) _) (fun g hg => by have := Hlt.out g hg; simp at this ⊢; omega) _
end Go.Proofs.YtdgagooldlnpeaaGreat
namespace Go.Proofs.YtdgagooldlnpeaaGreat
open Go.RowKit
theorem rightI_b (r : Rc) (hr : r.ok) (w : World) :
  Calls Tryz.prog 164 #[.agg #[.int .i64 r.x, .int .i64 r.y, .int .i64 r.w, .int .i64 r.h]] w fun e w' => e = .returned (.int .i64 (r.x + r.w)) ∧ Below w.heap.size w w' := by
 refine (rightOf_any r hr w).mono ?_
 rintro e w' ⟨rfl, rfl⟩
 exact ⟨rfl, belI_box _ _⟩
set_option maxHeartbeats 600000 in
set_option maxRecDepth 10000 in
theorem spanI (W X n y m : Nat) (H Yr Hr : Int) (g N c : Nat) (w : World) (hW : W ≤ 16) (hy : y ≤ 15) (hm : y * W = m) (hN : m + W ≤ N) (hNc : N ≤ c) (hn : 1 ≤ n) (hX : X + n ≤ W) (hr : (⟨X, Yr, n, Hr⟩ : Rc).ok) :
  Calls Tryz.prog 152 #[.agg #[.int .i64 W, .int .i64 H, .slice (some ⟨g, 0, none⟩) N c], .agg #[.int .i64 X, .int .i64 Yr, .int .i64 n, .int .i64 Hr], .int .i64 y] w
   fun e w' => (∃ c', e = .returned (.slice (some ⟨g, m + X, none⟩) n c')) ∧ Below w.heap.size w w' := by
 have m240 : m ≤ 240 := by rw [← hm]; exact Nat.mul_le_mul hy hW
 have q1 : (y : Int) * (W : Int) = (m : Int) := by rw [← hm]; simp
 have q2 : ((y : Int) + 1) * (W : Int) = ((m + W : Nat) : Int) := by rw [Int.add_mul, q1, Int.one_mul]; omega
 have Hr' := Lib.hid hr
 have hw := belI_call (belI_box w (.cells #[.int .i64 W, .int .i64 H, .slice (some ⟨g, 0, none⟩) N c] 116)) (belI_box _ (.cells #[.int .i64 X, .int .i64 Yr, .int .i64 n, .int .i64 Hr] 113))
 have hR : RcAt ((w.alloc (.cells #[.int .i64 W, .int .i64 H, .slice (some ⟨g, 0, none⟩) N c] 116)).alloc (.cells #[.int .i64 X, .int .i64 Yr, .int .i64 n, .int .i64 Hr] 113)) (w.heap.size + 1) ⟨X, Yr, n, Hr⟩ := RcAt.newAt (w := w.alloc (.cells #[.int .i64 W, .int .i64 H, .slice (some ⟨g, 0, none⟩) N c] 116)) (by simp) ⟨X, Yr, n, Hr⟩
 clear hr hm
 go_enter Tryz.func152, Tryz.ntmps152
 go_wp2_with fail
 have f1 : X + n ≤ c - m := by omega
 have f2 : (X : Int) + (n : Int) ≤ ((c - m : Nat) : Int) := by omega
 have f3 : X + n - X = n := by omega
 have f4 : ¬ c - m = X := by omega
 have f5 : (0 : Int) ≤ (X : Int) + (n : Int) := by omega
 have f6 : X ≤ ((X : Int) + (n : Int)).toNat := by omega
 have f7 : ((X : Int) + (n : Int)).toNat - X = n := by omega
 obtain ⟨w0, hw0⟩ : ∃ w0, w0 = (w.alloc (.cells #[.int .i64 W, .int .i64 H, .slice (some ⟨g, 0, none⟩) N c] 116)).alloc (.cells #[.int .i64 X, .int .i64 Yr, .int .i64 n, .int .i64 Hr] 113) := ⟨_, rfl⟩
 rw [← hw0] at hw hR ⊢
 clear hw0
 refine wp_region_held_drew (S := fun W => Below w0.heap.size w0 W) (by kernel_rfl) (Below.refl _ _).drew (fun hS => ?_)
 refine tcH (i := 0) (v := .slice (some ⟨g, m, none⟩) (m + W - m) (c - m)) rfl (by intro w' hSw; (try dsimp only at hSw); (obtain ⟨r0, r1, r2, r3⟩ := (hR.below hSw hR.lt).cells); go_simp) ?_
 refine tcH (i := 1) (v := .pointer (some ⟨w.heap.size + 1, 0, none⟩)) rfl (by intro w' hSw; (try dsimp only at hSw); (obtain ⟨r0, r1, r2, r3⟩ := (hR.below hSw hR.lt).cells); go_simp) ?_
 refine tcH (i := 2) (v := .int .i64 X) rfl (by intro w' hSw; (try dsimp only at hSw); (obtain ⟨r0, r1, r2, r3⟩ := (hR.below hSw hR.lt).cells); go_simp) ?_
 refine tcH (i := 3) (v := .agg #[.int .i64 X, .int .i64 Yr, .int .i64 n, .int .i64 Hr]) rfl (by intro w' hSw; (try dsimp only at hSw); (obtain ⟨r0, r1, r2, r3⟩ := (hR.below hSw hR.lt).cells); go_simp) ?_
 (try simp only [Act.put]); (try simp only [zPa]); (try simp only [zPb, zPc])
 refine wpAnyH_ready (rs := [4]) (by kernel_rfl) (by simp) ?_
 refine (AllReadyH.cons rfl (fun K hK => ?_) AllReadyH.nil)
 ·rw [if_pos (by kernel_rfl)]
  (try simp only [zGa]); (try simp only [zGb]); (try simp only [zGc])
  go_simp
  with_reducible refine (rightI_b ⟨X, Yr, n, Hr⟩ Hr'.out _).mono ?_
  rintro e W' ⟨rfl, hb⟩
  dsimp only
  refine hK.out _ _ (belI_call hS hb) (fun hS => ?_)
  clear hK
  (try simp only [Act.put]); (try simp only [zPa]); (try simp only [zPb, zPc])
  refine wpAnyH_ready (rs := [5]) (by kernel_rfl) (by simp) ?_
  refine (AllReadyH.cons rfl (fun K hK => ?_) AllReadyH.nil)
  ·rw [if_pos (by kernel_rfl)]
   (try simp only [zGa]); (try simp only [zGb]); (try simp only [zGc])
   go_simp
   refine hK.out _ _ (hS) (fun hS => ?_)
   clear hK
   (try simp only [Act.put]); (try simp only [zPa]); (try simp only [zPb, zPc])
   refine tcH (i := 6) (v := .slice (some ⟨g, m + X, none⟩) n (c - m - X)) rfl (by intro w' hSw; (try dsimp only at hSw); (obtain ⟨r0, r1, r2, r3⟩ := (hR.below hSw hR.lt).cells); go_simp) ?_
   refine wpAnyH_done (by kernel_rfl) ?_ _
   go_wp2_with fail
   go_ret
   exact ⟨⟨_, rfl⟩, belI_call hw hS⟩
end Go.Proofs.YtdgagooldlnpeaaGreat
namespace Go.Proofs.YtdgagooldlnpeaaGreat
open Go.RowKit
def RgAt (w : World) (g : Nat) (v : Value) : Prop := w.heap[g]? = some (.cells #[v] 30 (0, 0))
theorem RgAt.lt {w : World} {g : Nat} {v : Value} (h : RgAt w g v) : g < w.heap.size := (Array.getElem?_eq_some_iff.1 h).1
theorem RgAt.cell {w : World} {g : Nat} {v : Value} (h : RgAt w g v) : w.cell? ⟨g, 0, none⟩ = some v := by rw [cell_of_row _ _ _ _ _ _ h]; rfl
theorem RgAt.call {w w' : World} {g : Nat} {v : Value} (h : RgAt w g v) (hb : Below w.heap.size w w') : RgAt w' g v := (hb.block g h.lt).trans h
theorem RgAt.alloc {w : World} {g : Nat} {v : Value} (h : RgAt w g v) (o : Obj) : RgAt (w.alloc o) g v := (Below.heap_alloc w o g h.lt).trans h
theorem RgAt.newAt {w : World} {g : Nat} (h : w.heap.size = g) (v : Value) : RgAt (w.alloc (.cells #[v] 30)) g v := h ▸ heap_alloc_new w _
structure CsB (w : World) (X Y : Int) (v : Value) (X2 Y2 : Int) (u : Value) (F : List Int) (vr : Value) (R : List Rc) (W : World) : Prop where
 a : ImAt W w.heap.size 55 X Y v
 b : ImAt W (w.heap.size + 1) 55 X2 Y2 u
 c : RgAt W (w.heap.size + 2) vr
 d : ImAt W (w.heap.size + 3) 55 0 0 (.slice none 0 0)
 ru : RdI W u F
 rr : RdR W vr R
 bw : Below w.heap.size w W
theorem CsB.call {w : World} {X Y : Int} {v : Value} {X2 Y2 : Int} {u : Value} {F : List Int} {vr : Value} {R : List Rc} {W W' : World} (h : CsB w X Y v X2 Y2 u F vr R W) (k : Below W.heap.size W W') : CsB w X Y v X2 Y2 u F vr R W' :=
 ⟨h.a.call k, h.b.call k, h.c.call k, h.d.call k, h.ru.call k, h.rr.call k, belI_call h.bw k⟩
theorem CsB.born (w : World) (X Y : Int) (v : Value) (X2 Y2 : Int) (u : Value) (F : List Int) (vr : Value) (R : List Rc) (hu : RdI w u F) (hr : RdR w vr R) :
  CsB w X Y v X2 Y2 u F vr R ((((w.alloc (.cells #[.int .i64 X, .int .i64 Y, v] 55)).alloc (.cells #[.int .i64 X2, .int .i64 Y2, u] 55)).alloc (.cells #[vr] 30)).alloc (.cells #[.int .i64 0, .int .i64 0, .slice none 0 0] 55)) :=
 ⟨(((ImAt.new w _ _ _ _).alloc _).alloc _).alloc _, ((ImAt.newAt (w := w.alloc (.cells #[.int .i64 X, .int .i64 Y, v] 55)) (by simp) _ _ _ _).alloc _).alloc _, (RgAt.newAt (w := (w.alloc (.cells #[.int .i64 X, .int .i64 Y, v] 55)).alloc (.cells #[.int .i64 X2, .int .i64 Y2, u] 55)) (by simp) _).alloc _,
  ImAt.newAt (w := ((w.alloc (.cells #[.int .i64 X, .int .i64 Y, v] 55)).alloc (.cells #[.int .i64 X2, .int .i64 Y2, u] 55)).alloc (.cells #[vr] 30)) (by simp) _ _ _ _,
  (((hu.alloc _).alloc _).alloc _).alloc _, (((hr.alloc _).alloc _).alloc _).alloc _, belI_call (belI_call (belI_call (belI_box _ _) (belI_box _ _)) (belI_box _ _)) (belI_box _ _)⟩
theorem wp_copy_mine {P : Program} {o : Oper} {a : Act} {w : World} {K : Act → World → Prop} {Q : Exit → Act → World → Prop} (d s : Operand) (dT sT : TypeId)
  (ho : o.op = .call { callee := .builtin .copy, args := #[d, s], argTypes := #[dT, sT] }) (elem : TypeId) (hu : P.underlying dT = some (.slice elem)) (hsz : (P.info? elem).map (·.size) = some 1)
  (base g off n cap dLen dCap : Nat) (ad : Addr) (sLen sCap : Nat) (xs cs : List Value) (m : Nat) (hcm : cs.length = m) (hd : a.eval d = .slice (some ⟨g, off, none⟩) dLen dCap) (hs : a.eval s = .slice (some ad) sLen sCap)
  (hown : w.ownsRow base elem 1 (.slice (some ⟨g, 0, none⟩) n cap) n xs) (hn : m = Nat.min sLen dLen)
  (hsrc : ∀ j v, cs[j]? = some v → w.cell? (ad.add j) = some v) (hfit : off + m ≤ n) (h1 : ∀ v ∈ cs, v.oneCell' = true)
  (h : ∀ w', Hid (w'.ownsRow base elem 1 (.slice (some ⟨g, 0, none⟩) n cap) n (splice xs off cs)) → Hid (w.grownBy w' (some g)) → K (a.put o.dst (goInt m)) w') : o.wp P a w K Q := by
 obtain ⟨w', hrun, h2, h3⟩ := run_copy_own (P := P) w dT sT o.type elem base g off n cap dLen dCap ad sLen sCap xs cs m hcm hu hsz hown hn hsrc hfit h1
 unfold Oper.wp
 simp [execOp, ho, resolve, invoke, builtin, hd, hs, hrun, Result.andThen]
 exact h w' h2 h3
theorem grown_drewI (w : World) (row : Option Nat) : w.grownBy w.drew row := ⟨rfl, rfl, rfl, Nat.le_refl _, fun _ _ _ => rfl⟩
theorem own_cap {w : World} {B g n cap : Nat} {e : TypeId} {xs : List Value} (h : w.ownsRow B e 1 (.slice (some ⟨g, 0, none⟩) n cap) n xs) : n ≤ cap := by
 rcases h.2 with ⟨h, _⟩ | ⟨g', cap', cur, he, _, _, hnc, _⟩
 ·cases h
 ·cases he; exact hnc
end Go.Proofs.YtdgagooldlnpeaaGreat
namespace Go.Proofs.YtdgagooldlnpeaaGreat
open Go.RowKit
theorem RgAt.frozen {w : World} {g : Nat} {v : Value} (h : RgAt w g v) : w.frozen? ⟨g, 0, none⟩ = false := by unfold RgAt at h; simp [World.frozen?, h]
theorem RgAt.grown {w w' : World} {g : Nat} {v : Value} {row : Option Nat} (h : RgAt w g v) (hg : w.grownBy w' row) (hr : some g ≠ row) : RgAt w' g v := (hg.block g h.lt hr).trans h
end Go.Proofs.YtdgagooldlnpeaaGreat
namespace Go.Proofs.YtdgagooldlnpeaaGreat
open Go.RowKit
theorem ImV.made {W V : World} {b : Nat} {X Y : Int} {v : Value} {L : List Int} (hat : ImAt V b 55 X Y v) (hown : V.ownsRow W.heap.size 3 1 v L.length (intCells L)) (hb : W.heap.size ≤ b) (hn : ∀ k, v.ownBlock = some k → k ≠ b) :
  ImV W.heap.size V.heap.size b X Y v L V := ⟨hat, hown, hb, hat.lt, fun k hk => ⟨(hown.lt k hk).2, hn k hk⟩, Nat.le_refl _⟩
end Go.Proofs.YtdgagooldlnpeaaGreat
namespace Go.Proofs.YtdgagooldlnpeaaGreat
open Go.RowKit
theorem zeroIm_bad : ¬ imOk zeroIm.w zeroIm.h zeroIm.d := fun h => by have := h.1; unfold szOk zeroIm at this; dsimp only at this; omega
end Go.Proofs.YtdgagooldlnpeaaGreat
