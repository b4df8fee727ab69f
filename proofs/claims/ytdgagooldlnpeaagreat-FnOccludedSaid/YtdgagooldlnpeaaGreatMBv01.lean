/- Texts of mine in one file: FilB, FilS, SameIm, DfsM, Law, Lk, SnM, SlC, SnC, EdM, OcK. No statement is proved here. -/
import Derived.Test.YtdgagooldlnpeaaGreatMA
import Derived.Test.YtdgagooldlnpeaaGreatMBv013
import Derived.Test.YtdgagooldlnpeaaGreatMAv01
import Derived.Test.YtdgagooldlnpeaaGreatMBv012
import Derived.Test.YtdgagooldlnpeaaGreatMB
import Derived.Test.YtdgagooldlnpeaaGreatMAv012
import Derived.Test.YtdgagooldlnpeaaGreatMAv013
import Derived.Test.YtdgagooldlnpeaaGreatMC
import Derived.Test.YtdgagooldlnpeaaGreatProg
import Derived.WalkKit
import Derived.ProofKit
import Derived.OpenShut
import Derived.WalkLawsBesides
import Derived.WalkSpells
import Derived.ShutString
import Derived.ChangeOld
import Derived.Below
import Derived.Lib.Hide
import Derived.BigQuiet
import Derived.Deep.QuietTactic
import Derived.Maps.AppendAt
import Derived.Deep.OwnRows
import Derived.Handy
import Derived.Deep.Draws
import Derived.OwnWalk
import Derived.Deep.AppendLies
import Derived.Deep.LoopGhost
import Derived.Deep.Onto
import Derived.Laws.BitsAllLaws
import Derived.Lib.QuoteBits
import Derived.Test.YtdgagooldlnpeaaGreatShelf
import Derived.Laws.CopyOwn
import Derived.Deep.RegionLaw
import Derived.Deep.RegionHeld3
import Derived.Deep.DeepCutAuto
import Derived.Great.BuildSlice
import Derived.Deep.MidRow
import Derived.Deep.WholeRow
import Derived.Laws.AppendOwn
import Derived.Shelf.RegionOpenPlain
import Derived.Lib.SliceRun
import Derived.Deep.RegionWith
import Derived.ChangeKeysEq
import Derived.Deep.DeepAppendRoom
namespace Go.Proofs.YtdgagooldlnpeaaGreat
open Go.RowKit
theorem okL_canon (g : Nat → Bool) : okL (canon g) = true := by
 unfold okL; rw [canon_idem]; exact sameL_yes rfl
noncomputable def fillIm (X Y : Int) (L : List Int) (r : Rc) (p : Int) : Im := copyIm X Y L (newIm X Y p).w (newIm X Y p).h (newIm X Y p).d (canon (gridOf [r]))
def rectF (W : Nat) (L : List Int) (r : Rc) (p : Int) : Nat → Int := fun k => if hasB r (k % W : Nat) (k / W : Nat) = true then p else L.getD k 0
theorem fill_val (W H : Nat) (L : List Int) (r : Rc) (p : Int) (h1 : imOk W H L) (hp : pixOk p) (hL : L.length = W * H) (wh : W ≤ 16) (hh : H ≤ 16) :
  fillIm W H L r p = ⟨W, H, tabI L.length (rectF W L r p)⟩ := by
 unfold fillIm
 rw [new_yes h1.1 hp]
 dsimp only
 rw [copy_yes h1 (flat_ok h1.1 hp) (okL_canon _)]
 congr 1
 refine tabI_congr _ fun k hk => ?_
 rw [hL] at hk
 have h2 := plc_row hk
 have h3 := Nat.mod_lt k (plc_pos hk)
 have h4 := plc_eq k W
 unfold copyF rectF
 simp only [Int.toNat_natCast]
 rw [gridOf_canon _ _ (by omega), gridOf_one, show (k / W * 16 + k % W) % 16 = k % W by omega, show (k / W * 16 + k % W) / 16 = k / W by omega]
 by_cases h : hasB r (k % W : Nat) (k / W : Nat) = true
 ·rw [if_pos h, if_pos ⟨h3, h2, h⟩, h4]
  unfold flatN
  exact tabI_getD _ _ _ (by rw [← Int.natCast_mul, Int.toNat_natCast]; exact hk)
 ·rw [if_neg h, if_neg fun h' => h h'.2.2]
theorem fill_no {X Y : Int} {L : List Int} {r : Rc} {p : Int} (h : ¬ (imOk X Y L ∧ r.ok ∧ pixOk p)) : fillIm X Y L r p = ⟨X, Y, L⟩ := by
 by_cases h1 : imOk X Y L
 ·by_cases hp : pixOk p
  ·obtain ⟨W, H, rfl, rfl, _, wh, _, hh, hL⟩ := im_nat h1
   rw [fill_val W H L r p h1 hp hL wh hh]
   congr 1
   exact (tabI_ext rfl fun k x hx => by
    unfold rectF
    rw [if_neg (by rw [has_no (fun h' => h ⟨h1, h'.1, hp⟩)]; simp), List.getD_eq_getElem?_getD, hx]; rfl).symm
  ·unfold fillIm
   rw [new_no fun h' => hp h'.2]
   exact copy_no fun h' => by have := h'.2.1.1; unfold szOk zeroIm at this; dsimp only at this; omega
 ·exact copy_no fun h' => h1 h'.1
def rectS (W : Nat) (p : Int) (f : Nat → Int) (X Y n y x : Nat) : Nat → Int := fun k =>
 if X ≤ k % W ∧ k % W < X + n ∧ Y ≤ k / W ∧ (k / W < y ∨ k / W = y ∧ k % W < x) then p else f k
theorem rectS_start (W : Nat) (p : Int) (f : Nat → Int) (X Y n k : Nat) : rectS W p f X Y n Y X k = f k := if_neg (by omega)
theorem rectS_row (W : Nat) (p : Int) (f : Nat → Int) (X Y n y k : Nat) : rectS W p f X Y n y (X + n) k = rectS W p f X Y n (y + 1) X k := by
 unfold rectS
 by_cases h : X ≤ k % W ∧ k % W < X + n ∧ Y ≤ k / W ∧ (k / W < y ∨ k / W = y ∧ k % W < X + n)
 ·rw [if_pos h, if_pos (by omega)]
 ·rw [if_neg h, if_neg (by omega)]
theorem rectS_set (W : Nat) (p : Int) (f : Nat → Int) (X Y n y x k : Nat) (hW : x < W) (hx : X ≤ x) (hx2 : x < X + n) (hy : Y ≤ y) :
  (if k = y * W + x then p else rectS W p f X Y n y x k) = rectS W p f X Y n y (x + 1) k := by
 by_cases e : k = y * W + x
 ·rw [if_pos e]
  obtain ⟨e1, e2⟩ := (plc_iff y k hW).1 e
  unfold rectS
  rw [e1, e2, if_pos ⟨hx, hx2, hy, by omega⟩]
 ·rw [if_neg e]
  have e' := mt (plc_iff y k hW).2 e
  unfold rectS
  by_cases h : X ≤ k % W ∧ k % W < X + n ∧ Y ≤ k / W ∧ (k / W < y ∨ k / W = y ∧ k % W < x)
  ·rw [if_pos h, if_pos (by omega)]
  ·rw [if_neg h, if_neg (by omega)]
theorem rectS_end (W H : Nat) (p : Int) (L : List Int) (r : Rc) (X Y n h k : Nat) (hk : k < W * H) (hI : ∀ p q : Nat, ((X ≤ p ∧ p < X + n ∧ Y ≤ q ∧ q < Y + h) ↔ (hasB r p q = true ∧ p < W ∧ q < H))) :
  rectS W p (fun k => L.getD k 0) X Y n (Y + h) X k = rectF W L r p k := by
 have h1 := plc_row hk
 have h2 := Nat.mod_lt k (plc_pos hk)
 have hi := hI (k % W) (k / W)
 unfold rectS rectF
 by_cases c : X ≤ k % W ∧ k % W < X + n ∧ Y ≤ k / W ∧ k / W < Y + h
 ·rw [if_pos (by omega), if_pos (hi.1 c).1]
 ·rw [if_neg (by omega), if_neg fun e => c (hi.2 ⟨e, h2, h1⟩)]
structure FlA (w : World) (X Y : Int) (v : Value) (r : Rc) (W : World) : Prop where
 a : ImAt W w.heap.size 55 X Y v
 b : RcAt W (w.heap.size + 1) r
 bw : Below w.heap.size w W
theorem FlA.call {w : World} {X Y : Int} {v : Value} {r : Rc} {W W' : World} (h : FlA w X Y v r W) (k : Below W.heap.size W W') : FlA w X Y v r W' :=
 ⟨h.a.call k, h.b.below k h.b.lt, belI_call h.bw k⟩
theorem FlA.grown {w : World} {X Y : Int} {v : Value} {r : Rc} {W W' : World} {g : Nat} (h : FlA w X Y v r W) (hg : W.grownBy W' (some g)) (hk : w.heap.size + 2 ≤ g) : FlA w X Y v r W' :=
 ⟨h.a.grown hg (by simp; omega), (hg.block _ h.b.lt (by simp; omega)).trans h.b, h.bw.grown hg h.bw.size (fun k hk => by injection hk with hk; omega)⟩
theorem FlA.born (w : World) (X Y : Int) (v : Value) (r : Rc) :
  FlA w X Y v r (((w.alloc (.cells #[.int .i64 X, .int .i64 Y, v] 55)).alloc (.cells #[.int .i64 r.x, .int .i64 r.y, .int .i64 r.w, .int .i64 r.h] 113)).alloc (.cells #[.int .i64 0, .int .i64 0, .slice none 0 0] 55)) :=
 ⟨((ImAt.new w _ _ _ _).alloc _).alloc _, (RcAt.newAt (w := w.alloc (.cells #[.int .i64 X, .int .i64 Y, v] 55)) (by simp) r).alloc _, belI_call (belI_call (belI_box _ _) (belI_box _ _)) (belI_box _ _)⟩
theorem fl_res (w : World) (X Y : Int) (v : Value) (r : Rc) :
  ImAt (((w.alloc (.cells #[.int .i64 X, .int .i64 Y, v] 55)).alloc (.cells #[.int .i64 r.x, .int .i64 r.y, .int .i64 r.w, .int .i64 r.h] 113)).alloc (.cells #[.int .i64 0, .int .i64 0, .slice none 0 0] 55)) (w.heap.size + 2) 55 0 0 (.slice none 0 0) :=
 ImAt.newAt (w := (w.alloc (.cells #[.int .i64 X, .int .i64 Y, v] 55)).alloc (.cells #[.int .i64 r.x, .int .i64 r.y, .int .i64 r.w, .int .i64 r.h] 113)) (by simp) _ _ _ _
end Go.Proofs.YtdgagooldlnpeaaGreat
namespace Go.Proofs.YtdgagooldlnpeaaGreat
open Go.RowKit
set_option maxHeartbeats 1000000 in
set_option maxRecDepth 10000 in
theorem fillS_bad1 (X Y : Int) (v : Value) (L : List Int) (r : Rc) (p : Int) (w : World) (hm : L.length ≤ 2097152) (hv : RdI w v L) (h1 : ¬ imOk X Y L) :
  Calls Tryz.prog 185 #[.agg #[.int .i64 X, .int .i64 Y, v], .agg #[.int .i64 r.x, .int .i64 r.y, .int .i64 r.w, .int .i64 r.h], .int .i64 p] w (AnsIm (fillIm X Y L r p) w) := by
 have HA : Hid (fillIm X Y L r p = ⟨X, Y, L⟩) := Lib.hid (fill_no fun h => h1 h.1)
 have Ho := Lib.hid h1
 clear h1
 have Hm := Lib.hid hm
 obtain ⟨A, c, rfl⟩ := hv.form
 have hS := FlA.born w X Y (.slice A L.length c) r
 have hd := fl_res w X Y (.slice A L.length c) r
 have hv0 := (((hv.alloc (.cells #[.int .i64 X, .int .i64 Y, .slice A L.length c] 55)).alloc (.cells #[.int .i64 r.x, .int .i64 r.y, .int .i64 r.w, .int .i64 r.h] 113)).alloc (.cells #[.int .i64 0, .int .i64 0, .slice none 0 0] 55))
 clear hm hv
 obtain ⟨a0, a1, a2⟩ := hS.a.cells
 go_enter Tryz.func185, Tryz.ntmps185
 go_wp2_with fail
 refine (l05Copy_any X Y _ L _ Hm.out hv0).mono ?_
 rintro e w1 ⟨vo, rfl, hown, hb⟩
 obtain ⟨Ao, co, hvo⟩ := ownI_shape hown
 subst hvo
 have hv1 := hv0.call hb
 have hS1 := hS.call hb
 have hd1 := hd.call hb
 have hO := ImV.born (X := X) (Y := Y) hb hown
 have hl : w.heap.size + 3 ≤ (((w.alloc (.cells #[.int .i64 X, .int .i64 Y, .slice A L.length c] 55)).alloc (.cells #[.int .i64 r.x, .int .i64 r.y, .int .i64 r.w, .int .i64 r.h] 113)).alloc (.cells #[.int .i64 0, .int .i64 0, .slice none 0 0] 55)).heap.size := by simp
 obtain ⟨lo, hlo⟩ : ∃ lo, lo = (((w.alloc (.cells #[.int .i64 X, .int .i64 Y, .slice A L.length c] 55)).alloc (.cells #[.int .i64 r.x, .int .i64 r.y, .int .i64 r.w, .int .i64 r.h] 113)).alloc (.cells #[.int .i64 0, .int .i64 0, .slice none 0 0] 55)).heap.size := ⟨_, rfl⟩
 rw [← hlo] at hO hl
 replace hS := hS1.call (belI_box w1 (.cells #[.int .i64 X, .int .i64 Y, .slice Ao L.length co] 55))
 replace hd := hd1.call (belI_box w1 (.cells #[.int .i64 X, .int .i64 Y, .slice Ao L.length co] 55))
 have hv := hv1.call (belI_box w1 (.cells #[.int .i64 X, .int .i64 Y, .slice Ao L.length co] 55))
 clear hown hb hS1 hd1 hv1 hv0 a0 a1 a2 hlo
 obtain ⟨a0, a1, a2⟩ := hS.a.cells
 go_wp2_with fail
 refine (imS X Y _ L _ hv).mono ?_
 rintro e w2 ⟨rfl, hb⟩
 replace hS := hS.call hb
 replace hd := hd.call hb
 replace hO := hO.call hb
 clear hb hv a0 a1 a2
 rw [imB_no Ho.out]
 obtain ⟨d0, d1, d2⟩ := hd.cells
 obtain ⟨o0, o1, o2⟩ := hO.cells
 have f0 := hd.frozen 0
 have f1 := hd.frozen 1
 have f2 := hd.frozen 2
 go_wp2_with fail
 have j := hd.set3 X Y (.slice Ao L.length co)
 obtain ⟨x0, x1, x2⟩ := j.cells
 refine bodyPost_ret (v := .agg #[.int .i64 X, .int .i64 Y, .slice Ao L.length co]) (by simp [results, Tryz.results185, go_sem, x0, x1, x2]) rfl ?_
 unfold AnsIm
 rw [HA.out]
 exact ans_set hO.own rfl (by omega) (by omega) hS.bw
set_option maxHeartbeats 1000000 in
set_option maxRecDepth 10000 in
theorem fillS_bad2 (X Y : Int) (v : Value) (L : List Int) (r : Rc) (p : Int) (w : World) (hm : L.length ≤ 2097152) (hv : RdI w v L) (h1 : imOk X Y L) (h2 : ¬ r.ok) :
  Calls Tryz.prog 185 #[.agg #[.int .i64 X, .int .i64 Y, v], .agg #[.int .i64 r.x, .int .i64 r.y, .int .i64 r.w, .int .i64 r.h], .int .i64 p] w (AnsIm (fillIm X Y L r p) w) := by
 have HA : Hid (fillIm X Y L r p = ⟨X, Y, L⟩) := Lib.hid (fill_no fun h => h2 h.2.1)
 have Ho := Lib.hid h1
 have Hr := Lib.hid h2
 clear h1 h2
 have Hm := Lib.hid hm
 obtain ⟨A, c, rfl⟩ := hv.form
 have hS := FlA.born w X Y (.slice A L.length c) r
 have hd := fl_res w X Y (.slice A L.length c) r
 have hv0 := (((hv.alloc (.cells #[.int .i64 X, .int .i64 Y, .slice A L.length c] 55)).alloc (.cells #[.int .i64 r.x, .int .i64 r.y, .int .i64 r.w, .int .i64 r.h] 113)).alloc (.cells #[.int .i64 0, .int .i64 0, .slice none 0 0] 55))
 clear hm hv
 obtain ⟨a0, a1, a2⟩ := hS.a.cells
 go_enter Tryz.func185, Tryz.ntmps185
 go_wp2_with fail
 refine (l05Copy_any X Y _ L _ Hm.out hv0).mono ?_
 rintro e w1 ⟨vo, rfl, hown, hb⟩
 obtain ⟨Ao, co, hvo⟩ := ownI_shape hown
 subst hvo
 have hv1 := hv0.call hb
 have hS1 := hS.call hb
 have hd1 := hd.call hb
 have hO := ImV.born (X := X) (Y := Y) hb hown
 have hl : w.heap.size + 3 ≤ (((w.alloc (.cells #[.int .i64 X, .int .i64 Y, .slice A L.length c] 55)).alloc (.cells #[.int .i64 r.x, .int .i64 r.y, .int .i64 r.w, .int .i64 r.h] 113)).alloc (.cells #[.int .i64 0, .int .i64 0, .slice none 0 0] 55)).heap.size := by simp
 obtain ⟨lo, hlo⟩ : ∃ lo, lo = (((w.alloc (.cells #[.int .i64 X, .int .i64 Y, .slice A L.length c] 55)).alloc (.cells #[.int .i64 r.x, .int .i64 r.y, .int .i64 r.w, .int .i64 r.h] 113)).alloc (.cells #[.int .i64 0, .int .i64 0, .slice none 0 0] 55)).heap.size := ⟨_, rfl⟩
 rw [← hlo] at hO hl
 replace hS := hS1.call (belI_box w1 (.cells #[.int .i64 X, .int .i64 Y, .slice Ao L.length co] 55))
 replace hd := hd1.call (belI_box w1 (.cells #[.int .i64 X, .int .i64 Y, .slice Ao L.length co] 55))
 have hv := hv1.call (belI_box w1 (.cells #[.int .i64 X, .int .i64 Y, .slice Ao L.length co] 55))
 clear hown hb hS1 hd1 hv1 hv0 a0 a1 a2 hlo
 obtain ⟨a0, a1, a2⟩ := hS.a.cells
 go_wp2_with fail
 refine (imS X Y _ L _ hv).mono ?_
 rintro e w2 ⟨rfl, hb⟩
 replace hS := hS.call hb
 replace hd := hd.call hb
 replace hO := hO.call hb
 clear hb hv a0 a1 a2
 rw [imB_yes Ho.out]
 obtain ⟨b0, b1, b2, b3⟩ := hS.b.cells
 go_wp2_with fail
 refine (rectOkS_no r Hr.out _).mono ?_
 rintro e w3 ⟨rfl, hb⟩
 replace hS := hS.call hb
 replace hd := hd.call hb
 replace hO := hO.call hb
 clear hb b0 b1 b2 b3
 obtain ⟨d0, d1, d2⟩ := hd.cells
 obtain ⟨o0, o1, o2⟩ := hO.cells
 have f0 := hd.frozen 0
 have f1 := hd.frozen 1
 have f2 := hd.frozen 2
 go_wp2_with fail
 have j := hd.set3 X Y (.slice Ao L.length co)
 obtain ⟨x0, x1, x2⟩ := j.cells
 refine bodyPost_ret (v := .agg #[.int .i64 X, .int .i64 Y, .slice Ao L.length co]) (by simp [results, Tryz.results185, go_sem, x0, x1, x2]) rfl ?_
 unfold AnsIm
 rw [HA.out]
 exact ans_set hO.own rfl (by omega) (by omega) hS.bw
set_option maxHeartbeats 1000000 in
set_option maxRecDepth 10000 in
theorem fillS_bad3 (X Y : Int) (v : Value) (L : List Int) (r : Rc) (p : Int) (w : World) (hm : L.length ≤ 2097152) (hv : RdI w v L) (h1 : imOk X Y L) (h2 : r.ok) (h3 : ¬ pixOk p) :
  Calls Tryz.prog 185 #[.agg #[.int .i64 X, .int .i64 Y, v], .agg #[.int .i64 r.x, .int .i64 r.y, .int .i64 r.w, .int .i64 r.h], .int .i64 p] w (AnsIm (fillIm X Y L r p) w) := by
 have HA : Hid (fillIm X Y L r p = ⟨X, Y, L⟩) := Lib.hid (fill_no fun h => h3 h.2.2)
 have Ho := Lib.hid h1
 have Hr := Lib.hid h2
 have Hp := Lib.hid h3
 clear h1 h2 h3
 have Hm := Lib.hid hm
 obtain ⟨A, c, rfl⟩ := hv.form
 have hS := FlA.born w X Y (.slice A L.length c) r
 have hd := fl_res w X Y (.slice A L.length c) r
 have hv0 := (((hv.alloc (.cells #[.int .i64 X, .int .i64 Y, .slice A L.length c] 55)).alloc (.cells #[.int .i64 r.x, .int .i64 r.y, .int .i64 r.w, .int .i64 r.h] 113)).alloc (.cells #[.int .i64 0, .int .i64 0, .slice none 0 0] 55))
 clear hm hv
 obtain ⟨a0, a1, a2⟩ := hS.a.cells
 go_enter Tryz.func185, Tryz.ntmps185
 go_wp2_with fail
 refine (l05Copy_any X Y _ L _ Hm.out hv0).mono ?_
 rintro e w1 ⟨vo, rfl, hown, hb⟩
 obtain ⟨Ao, co, hvo⟩ := ownI_shape hown
 subst hvo
 have hv1 := hv0.call hb
 have hS1 := hS.call hb
 have hd1 := hd.call hb
 have hO := ImV.born (X := X) (Y := Y) hb hown
 have hl : w.heap.size + 3 ≤ (((w.alloc (.cells #[.int .i64 X, .int .i64 Y, .slice A L.length c] 55)).alloc (.cells #[.int .i64 r.x, .int .i64 r.y, .int .i64 r.w, .int .i64 r.h] 113)).alloc (.cells #[.int .i64 0, .int .i64 0, .slice none 0 0] 55)).heap.size := by simp
 obtain ⟨lo, hlo⟩ : ∃ lo, lo = (((w.alloc (.cells #[.int .i64 X, .int .i64 Y, .slice A L.length c] 55)).alloc (.cells #[.int .i64 r.x, .int .i64 r.y, .int .i64 r.w, .int .i64 r.h] 113)).alloc (.cells #[.int .i64 0, .int .i64 0, .slice none 0 0] 55)).heap.size := ⟨_, rfl⟩
 rw [← hlo] at hO hl
 replace hS := hS1.call (belI_box w1 (.cells #[.int .i64 X, .int .i64 Y, .slice Ao L.length co] 55))
 replace hd := hd1.call (belI_box w1 (.cells #[.int .i64 X, .int .i64 Y, .slice Ao L.length co] 55))
 have hv := hv1.call (belI_box w1 (.cells #[.int .i64 X, .int .i64 Y, .slice Ao L.length co] 55))
 clear hown hb hS1 hd1 hv1 hv0 a0 a1 a2 hlo
 obtain ⟨a0, a1, a2⟩ := hS.a.cells
 go_wp2_with fail
 refine (imS X Y _ L _ hv).mono ?_
 rintro e w2 ⟨rfl, hb⟩
 replace hS := hS.call hb
 replace hd := hd.call hb
 replace hO := hO.call hb
 clear hb hv a0 a1 a2
 rw [imB_yes Ho.out]
 obtain ⟨b0, b1, b2, b3⟩ := hS.b.cells
 go_wp2_with fail
 refine (rectOkS_yes r Hr.out _).mono ?_
 rintro e w3 ⟨rfl, hb⟩
 replace hS := hS.call hb
 replace hd := hd.call hb
 replace hO := hO.call hb
 clear hb b0 b1 b2 b3
 go_wp2_with fail
 refine (pixS_no p Hp.out _).mono ?_
 rintro e w4 ⟨rfl, rfl⟩
 obtain ⟨d0, d1, d2⟩ := hd.cells
 obtain ⟨o0, o1, o2⟩ := hO.cells
 have f0 := hd.frozen 0
 have f1 := hd.frozen 1
 have f2 := hd.frozen 2
 go_wp2_with fail
 have j := hd.set3 X Y (.slice Ao L.length co)
 obtain ⟨x0, x1, x2⟩ := j.cells
 refine bodyPost_ret (v := .agg #[.int .i64 X, .int .i64 Y, .slice Ao L.length co]) (by simp [results, Tryz.results185, go_sem, x0, x1, x2]) rfl ?_
 unfold AnsIm
 rw [HA.out]
 exact ans_set hO.own rfl (by omega) (by omega) hS.bw
set_option maxHeartbeats 1000000 in
set_option maxRecDepth 10000 in
theorem fillS_ok (X Y : Int) (v : Value) (L : List Int) (r : Rc) (p : Int) (w : World) (hm : L.length ≤ 2097152) (hv : RdI w v L) (h1 : imOk X Y L) (h2 : r.ok) (h3 : pixOk p) :
  Calls Tryz.prog 185 #[.agg #[.int .i64 X, .int .i64 Y, v], .agg #[.int .i64 r.x, .int .i64 r.y, .int .i64 r.w, .int .i64 r.h], .int .i64 p] w (AnsIm (fillIm X Y L r p) w) := by
 obtain ⟨W, H, rfl, rfl, wl, wh, hl1, hl2, hL⟩ := im_nat h1
 have HA : Hid (fillIm W H L r p = ⟨W, H, tabI L.length (rectF W L r p)⟩) := Lib.hid (fill_val W H L r p h1 h3 hL wh hl2)
 have hL0 : 0 < L.length := by rw [hL]; exact Nat.mul_pos wl hl1
 have hL256 : L.length ≤ 256 := by rw [hL]; exact mul_256 wh hl2
 have HL := Lib.hid hL
 have Ho := Lib.hid h1
 have Hr := Lib.hid h2
 have Hp := Lib.hid h3
 clear h1 h2 h3 hL
 have Hm := Lib.hid hm
 obtain ⟨A, c, rfl⟩ := hv.form
 have hS := FlA.born w W H (.slice A L.length c) r
 have hd := fl_res w W H (.slice A L.length c) r
 have hv0 := (((hv.alloc (.cells #[.int .i64 W, .int .i64 H, .slice A L.length c] 55)).alloc (.cells #[.int .i64 r.x, .int .i64 r.y, .int .i64 r.w, .int .i64 r.h] 113)).alloc (.cells #[.int .i64 0, .int .i64 0, .slice none 0 0] 55))
 clear hm hv
 obtain ⟨a0, a1, a2⟩ := hS.a.cells
 go_enter Tryz.func185, Tryz.ntmps185
 go_wp2_with fail
 refine (l05Copy_any W H _ L _ Hm.out hv0).mono ?_
 rintro e w1 ⟨vo, rfl, hown, hb⟩
 obtain ⟨gq, cq, hvq, hgq, _⟩ := hown.form hL0
 subst hvq
 have hv1 := hv0.call hb
 have hS1 := hS.call hb
 have hd1 := hd.call hb
 have hO := ImV.born (X := W) (Y := H) hb hown
 have hl : w.heap.size + 3 ≤ (((w.alloc (.cells #[.int .i64 W, .int .i64 H, .slice A L.length c] 55)).alloc (.cells #[.int .i64 r.x, .int .i64 r.y, .int .i64 r.w, .int .i64 r.h] 113)).alloc (.cells #[.int .i64 0, .int .i64 0, .slice none 0 0] 55)).heap.size := by simp
 obtain ⟨lo, hlo⟩ : ∃ lo, lo = (((w.alloc (.cells #[.int .i64 W, .int .i64 H, .slice A L.length c] 55)).alloc (.cells #[.int .i64 r.x, .int .i64 r.y, .int .i64 r.w, .int .i64 r.h] 113)).alloc (.cells #[.int .i64 0, .int .i64 0, .slice none 0 0] 55)).heap.size := ⟨_, rfl⟩
 rw [← hlo] at hO hl hgq
 replace hS := hS1.call (belI_box w1 (.cells #[.int .i64 W, .int .i64 H, .slice (some ⟨gq, 0, none⟩) L.length cq] 55))
 replace hd := hd1.call (belI_box w1 (.cells #[.int .i64 W, .int .i64 H, .slice (some ⟨gq, 0, none⟩) L.length cq] 55))
 have hv := hv1.call (belI_box w1 (.cells #[.int .i64 W, .int .i64 H, .slice (some ⟨gq, 0, none⟩) L.length cq] 55))
 clear hown hb hS1 hd1 hv1 hv0 a0 a1 a2 hlo
 obtain ⟨a0, a1, a2⟩ := hS.a.cells
 go_wp2_with fail
 refine (imS W H _ L _ hv).mono ?_
 rintro e w2 ⟨rfl, hb⟩
 replace hS := hS.call hb
 replace hd := hd.call hb
 replace hO := hO.call hb
 clear hb hv a0 a1 a2
 rw [imB_yes Ho.out]
 obtain ⟨b0, b1, b2, b3⟩ := hS.b.cells
 go_wp2_with fail
 refine (rectOkS_yes r Hr.out _).mono ?_
 rintro e w3 ⟨rfl, hb⟩
 replace hS := hS.call hb
 replace hd := hd.call hb
 replace hO := hO.call hb
 clear hb b0 b1 b2 b3
 go_wp2_with fail
 refine (pixS_yes p Hp.out _).mono ?_
 rintro e w4 ⟨rfl, rfl⟩
 obtain ⟨a0, a1, a2⟩ := hS.a.cells
 obtain ⟨b0, b1, b2, b3⟩ := hS.b.cells
 go_wp2_with fail
 refine (partS r W H wl wh hl1 hl2 _).mono ?_
 rintro e W1 ⟨⟨X, Y, n, h, rfl, hXn, hYh, hn1, HI⟩, hb⟩
 replace hS := hS.call hb
 replace hd := hd.call hb
 replace hO := hO.call hb
 clear hb a0 a1 a2 b0 b1 b2 b3
 have hgb := (hO.hk gq rfl).1
 have hgb2 := (hO.hk gq rfl).2
 have hhs := hO.hs
 obtain ⟨bt, hbt⟩ : ∃ bt, bt = W1.heap.size := ⟨_, rfl⟩
 have hS2 := hS.call (belI_box W1 (.cells #[.int .i64 X, .int .i64 Y, .int .i64 n, .int .i64 h] 113))
 have hd2 := hd.call (belI_box W1 (.cells #[.int .i64 X, .int .i64 Y, .int .i64 n, .int .i64 h] 113))
 have hO2 := hO.call (belI_box W1 (.cells #[.int .i64 X, .int .i64 Y, .int .i64 n, .int .i64 h] 113))
 have hT := RcAt.newAt (w := W1) hbt.symm ⟨X, Y, n, h⟩
 dsimp only at hT
 obtain ⟨V0, hV0⟩ : ∃ V0, V0 = W1.alloc (.cells #[.int .i64 X, .int .i64 Y, .int .i64 n, .int .i64 h] 113) := ⟨_, rfl⟩
 rw [← hV0] at hS2 hd2 hO2 hT
 have HV := Lib.hid hV0
 have HB := Lib.hid hbt
 have HN : Hid (some w.heap.size ≠ some gq ∧ some (w.heap.size + 1) ≠ some gq ∧ some (w.heap.size + 2) ≠ some gq ∧ some w1.heap.size ≠ some gq ∧ some bt ≠ some gq) := Lib.hid ⟨by simp; omega, by simp; omega, by simp; omega, by simp; omega, by simp; omega⟩
 have Hown : Hid (V0.ownsRow lo 3 1 (.slice (some ⟨gq, 0, none⟩) L.length cq) L.length (intCells (tabI L.length (rectS W p (fun k => L.getD k 0) X Y n Y X)))) := Lib.hid (by
  have h := hO2.own
  rw [tabI_congr L.length (fun k _ => rectS_start W p (fun k => L.getD k 0) X Y n k), ← tabI_self]
  exact h)
 have Hgr : Hid (V0.grownBy V0 (some gq)) := Lib.hid (World.grownBy.refl _ _)
 have HS := Lib.hid hS2
 have HO := Lib.hid hO2.at_
 have HD := Lib.hid hd2
 have HT := Lib.hid hT
 obtain ⟨t0, t1, t2, t3⟩ := hT.cells
 rw [hV0, hbt] at t0 t1 t2 t3
 clear hS hd hO hS2 hd2 hO2 hT hV0 hbt
 go_wp2_with fail
 rw [← HV.out, ← HB.out]
 clear t0 t1 t2 t3
 go_loopg [9] h (fun g9 s9 wr => ∃ (y : Nat) (V : World), V = wr ∧ Y ≤ y ∧ y ≤ Y + h ∧ g9 = Y + h - y ∧ s9 = .int .i64 y ∧ Hid (V.ownsRow lo 3 1 (.slice (some ⟨gq, 0, none⟩) L.length cq) L.length (intCells (tabI L.length (rectS W p (fun k => L.getD k 0) X Y n y X)))) ∧ Hid (V0.grownBy V (some gq)))
 case atStart => exact ⟨Y, _, rfl, Nat.le_refl _, by omega, by omega, rfl, Hown, Hgr⟩
 case round =>
  clear Hown Hgr
  obtain ⟨y, wy, hV, hy1, hy2, rfl, rfl, Hown, Hgr⟩ := hrel
  subst hV
  obtain ⟨t0, t1, t2, t3⟩ := (show RcAt wy bt ⟨X, Y, n, h⟩ from (Hgr.out.block _ HT.out.lt HN.out.2.2.2.2).trans HT.out).cells
  dsimp only at t0 t1 t2 t3
  by_cases hyl : y < Y + h
  ·have hyi : (y : Int) < (Y : Int) + (h : Int) := by omega
   go_wp2_with fail
   go_loopg [10] n (fun g10 s10 wz => ∃ (x : Nat) (V : World), V = wz ∧ X ≤ x ∧ x ≤ X + n ∧ g10 = X + n - x ∧ s10 = .int .i64 x ∧ Hid (V.ownsRow lo 3 1 (.slice (some ⟨gq, 0, none⟩) L.length cq) L.length (intCells (tabI L.length (rectS W p (fun k => L.getD k 0) X Y n y x)))) ∧ Hid (V0.grownBy V (some gq)))
   case atStart => exact ⟨X, _, rfl, Nat.le_refl _, by omega, by omega, rfl, Hown, Hgr⟩
   case round =>
    clear Hown Hgr t0 t1 t2 t3
    obtain ⟨x, wx, hV, hx1, hx2, rfl, rfl, Hown, Hgr⟩ := hrel
    subst hV
    obtain ⟨t0, t1, t2, t3⟩ := (show RcAt wx bt ⟨X, Y, n, h⟩ from (Hgr.out.block _ HT.out.lt HN.out.2.2.2.2).trans HT.out).cells
    dsimp only at t0 t1 t2 t3
    by_cases hxl : x < X + n
    ·have hxi : (x : Int) < (X : Int) + (n : Int) := by omega
     obtain ⟨m, hm⟩ : ∃ m, m = y * W := ⟨_, rfl⟩
     have e1 : (y : Int) * (W : Int) = (m : Int) := by rw [hm]; simp
     have l1 : m + x < L.length := by rw [hm, HL.out]; exact plc_lt (by omega) (by omega)
     have l3 : (m : Int) + (x : Int) < (L.length : Int) := by omega
     obtain ⟨a0, a1, a2⟩ := (HS.out.a.grown Hgr.out HN.out.1).cells
     obtain ⟨o0, o1, o2⟩ := (HO.out.grown Hgr.out HN.out.2.2.2.1).cells
     have cS : wx.cell? ⟨gq, m + x, none⟩ = some (.int .i64 (rectS W p (fun k => L.getD k 0) X Y n y x (m + x))) := by
      have h := Hown.out.cellAt (m + x) (by omega)
      rw [intCells_get, tabI_get _ _ _ l1] at h
      exact h
     have fS : wx.frozen? ⟨gq, m + x, none⟩ = false := Hown.out.frozenAt (m + x)
     have Hm1 := Lib.hid hm
     clear hm
     go_wp2_with fail
     go_roundg (X + n - (x + 1))
     case measure => omega
     case rel =>
      refine ⟨x + 1, _, rfl, by omega, by omega, rfl, by go_num, ?_, Lib.hid (Hgr.out.trans (grown_setI _ gq (m + x) _))⟩
      have h := (ownI_put Hown.out (m + x) p).1
      rw [tabI_set] at h
      rw [← tabI_congr L.length (fun k _ => rectS_set W p (fun k => L.getD k 0) X Y n y x k (by omega) hx1 hxl hy1), ← Hm1.out]
      exact Lib.hid h
    ·obtain rfl : x = X + n := by omega
     have hxi : ¬ ((X + n : Nat) : Int) < (X : Int) + (n : Int) := by omega
     go_wp2_with fail
     go_roundg (Y + h - (y + 1))
     case measure => omega
     case rel =>
      refine ⟨y + 1, _, rfl, by omega, by omega, rfl, by go_num, ?_, Hgr⟩
      rw [← tabI_congr L.length (fun k _ => rectS_row W p (fun k => L.getD k 0) X Y n y k)]
      exact Hown
  ·obtain rfl : y = Y + h := by omega
   have hyi : ¬ ((Y + h : Nat) : Int) < (Y : Int) + (h : Int) := by omega
   have hdd := HD.out.grown Hgr.out HN.out.2.2.1
   obtain ⟨d0, d1, d2⟩ := hdd.cells
   obtain ⟨o0, o1, o2⟩ := (HO.out.grown Hgr.out HN.out.2.2.2.1).cells
   have f0 := hdd.frozen 0
   have f1 := hdd.frozen 1
   have f2 := hdd.frozen 2
   go_wp2_with fail
   have j := hdd.set3 W H (.slice (some ⟨gq, 0, none⟩) L.length cq)
   obtain ⟨x0, x1, x2⟩ := j.cells
   refine bodyPost_ret (v := .agg #[.int .i64 W, .int .i64 H, .slice (some ⟨gq, 0, none⟩) L.length cq]) (by simp [results, Tryz.results185, go_sem, x0, x1, x2]) rfl ?_
   unfold AnsIm
   rw [HA.out]
   refine ans_set (lo := lo) (b := w.heap.size + 2) (n := L.length) ?_ (tabI_length _ _) (by omega) (by omega) (HS.out.bw.grown Hgr.out HS.out.bw.size (fun k hk => by injection hk with hk; omega))
   rw [← tabI_congr L.length (fun k hk => rectS_end W H p L r X Y n h k (by rw [← HL.out]; exact hk) HI.out)]
   exact Hown.out
theorem fillS_any (X Y : Int) (v : Value) (L : List Int) (r : Rc) (p : Int) (w : World) (hm : L.length ≤ 2097152) (hv : RdI w v L) :
  Calls Tryz.prog 185 #[.agg #[.int .i64 X, .int .i64 Y, v], .agg #[.int .i64 r.x, .int .i64 r.y, .int .i64 r.w, .int .i64 r.h], .int .i64 p] w (AnsIm (fillIm X Y L r p) w) := by
 by_cases h1 : imOk X Y L
 ·by_cases h2 : r.ok
  ·by_cases h3 : pixOk p
   ·exact fillS_ok X Y v L r p w hm hv h1 h2 h3
   ·exact fillS_bad3 X Y v L r p w hm hv h1 h2 h3
  ·exact fillS_bad2 X Y v L r p w hm hv h1 h2
 ·exact fillS_bad1 X Y v L r p w hm hv h1
end Go.Proofs.YtdgagooldlnpeaaGreat
namespace Go.Proofs.YtdgagooldlnpeaaGreat
open Go.RowKit
open Classical in
noncomputable def imEq (L M : List Int) : Bool := decide (L = M)
theorem imEq_yes (L : List Int) : imEq L L = true := by unfold imEq; exact decide_eq_true rfl
theorem imEq_no {L M : List Int} (h : L ≠ M) : imEq L M = false := by unfold imEq; exact decide_eq_false h
open Classical in
noncomputable def sameM (X Y : Int) (L : List Int) (X2 Y2 : Int) (M : List Int) : Bool := decide (X = X2 ∧ Y = Y2 ∧ L = M)
theorem sameM_yes (X Y : Int) (L : List Int) : sameM X Y L X Y L = true := by unfold sameM; exact decide_eq_true ⟨rfl, rfl, rfl⟩
theorem sameM_no {X Y : Int} {L : List Int} {X2 Y2 : Int} {M : List Int} (h : ¬ (X = X2 ∧ Y = Y2 ∧ L = M)) : sameM X Y L X2 Y2 M = false := by unfold sameM; exact decide_eq_false h
theorem sameM_in (X Y : Int) (L M : List Int) : sameM X Y L X Y M = imEq L M := by
 by_cases h : L = M
 ·subst h; rw [sameM_yes, imEq_yes]
 ·rw [imEq_no h, sameM_no fun k => h k.2.2]
def ImEqAns (L M : List Int) (w : World) (e : Ending) (w' : World) : Prop := e = .returned (.bool (imEq L M)) ∧ ∃ q, w' = w.drewN q
theorem ext_of {L M : List Int} (h : L.length = M.length) (hall : ∀ j, j < L.length → L[j]? = M[j]?) : L = M := by
 apply List.ext_getElem?
 intro j
 by_cases hj : j < L.length
 ·exact hall j hj
 ·rw [List.getElem?_eq_none (by omega), List.getElem?_eq_none (by omega)]
set_option maxHeartbeats 1000000 in
theorem sameInts_any (v u : Value) (L M : List Int) (w : World) (hv : RdI w v L) (hu : RdI w u M) : Calls Tryz.prog 91 #[v, u] w (ImEqAns L M w) := by
 obtain ⟨A, c, rfl⟩ := hv.form
 obtain ⟨A', c', rfl⟩ := hu.form
 have h1 := hv.len
 have h2 := hu.len
 unfold maxLen at h1 h2
 obtain ⟨n, hn⟩ : ∃ n, n = L.length := ⟨_, rfl⟩
 obtain ⟨n2, hn2⟩ : ∃ n2, n2 = M.length := ⟨_, rfl⟩
 rw [← hn] at h1 hv ⊢
 rw [← hn2] at h2 hu ⊢
 have Hn := Lib.hid hn
 have Hn2 := Lib.hid hn2
 have Hv := Lib.hid hv
 have Hu := Lib.hid hu
 clear hv hu hn hn2
 by_cases hl : n = n2
 ·subst hl
  go_enter Tryz.func91, Tryz.ntmps91
  go_wp2_with fail
  go_loopw [5] (fun i wr => ∃ k : Nat, k ≤ n ∧ i = .int .i64 k ∧ Hid (∀ j, j < k → L[j]? = M[j]?) ∧ ∃ q, wr = w.drewN q) (fun i _ => n - (intOf i).toNat)
  case atStart => exact ⟨0, Nat.zero_le _, rfl, Lib.hid (fun j hj => by omega), 0, rfl⟩
  case round =>
   obtain ⟨k, hk, rfl, Hall, q, rfl⟩ := hrel
   by_cases hlt : k < n
   ·obtain ⟨a, x, rfl, hx, hcx⟩ := Hv.out.at_ (k := k) (by rw [← Hn.out]; exact hlt)
    obtain ⟨a', y, rfl, hy, hcy⟩ := Hu.out.at_ (k := k) (by rw [← Hn2.out]; exact hlt)
    have Hx := Lib.hid hx
    have Hy := Lib.hid hy
    clear hx hy
    have k0 : (0 : Int) ≤ (k : Int) := by omega
    have k1 : (k : Int) < (n : Int) := by omega
    by_cases hxy : x = y
    ·subst hxy
     go_wp2_with fail
     go_quiet (fail)
     go_wp2_with fail
     rename_i nq
     go_roundw
     case rel =>
      refine ⟨k + 1, by omega, by go_num, Lib.hid (fun j hj => ?_), _, rfl⟩
      by_cases e : j < k
      ·exact Hall.out j e
      ·obtain rfl : j = k := by omega
       rw [Hx.out, Hy.out]
     case measure => simp [intOf]; omega
    ·have hb : (x == y) = false := by rw [beq_eq_false_iff_ne]; exact hxy
     have hno : imEq L M = false := imEq_no fun h => hxy (by have h3 := Hx.out; rw [h, Hy.out] at h3; exact (Option.some.inj h3).symm)
     have Hno := Lib.hid hno
     clear hno hxy
     go_wp2_with fail
     go_quiet (fail)
     go_wp2_with fail
     go_ret
     exact ⟨ret_bool Hno.out.symm, q + _, by first | rfl | exact World.drewN_drewN _ _ _⟩
   ·obtain rfl : k = n := by omega
    have hyes : imEq L M = true := by
     have h : L = M := ext_of (by rw [← Hn.out, ← Hn2.out]) (fun j hj => Hall.out j (by rw [Hn.out]; exact hj))
     subst h; exact imEq_yes L
    have Hyes := Lib.hid hyes
    clear hyes
    go_wp2_with fail
    go_ret
    exact ⟨ret_bool Hyes.out.symm, _, rfl⟩
 ·have hno : imEq L M = false := imEq_no fun h => hl (by rw [Hn.out, Hn2.out, h])
  have Hno := Lib.hid hno
  have hli : ((n : Int) == (n2 : Int)) = false := by rw [beq_eq_false_iff_ne]; omega
  clear hno
  go_enter Tryz.func91, Tryz.ntmps91
  go_wp2_with fail
  go_ret
  exact ⟨ret_bool Hno.out.symm, 0, rfl⟩
def SameMAns (X Y : Int) (L : List Int) (X2 Y2 : Int) (M : List Int) (w : World) (e : Ending) (w' : World) : Prop := e = .returned (.bool (sameM X Y L X2 Y2 M)) ∧ Below w.heap.size w w'
set_option maxHeartbeats 1000000 in
theorem sameIL (X Y : Int) (v : Value) (L : List Int) (X2 Y2 : Int) (u : Value) (M : List Int) (w : World) (hv : RdI w v L) (hu : RdI w u M) :
  Calls Tryz.prog 35 #[.agg #[.int .i64 X, .int .i64 Y, v], .agg #[.int .i64 X2, .int .i64 Y2, u]] w (SameMAns X Y L X2 Y2 M w) := by
 have hv2 := (hv.alloc (.cells #[.int .i64 X, .int .i64 Y, v] 55)).alloc (.cells #[.int .i64 X2, .int .i64 Y2, u] 55)
 have hu2 := (hu.alloc (.cells #[.int .i64 X, .int .i64 Y, v] 55)).alloc (.cells #[.int .i64 X2, .int .i64 Y2, u] 55)
 have Hw := Lib.hid (belI_call (belI_box w (.cells #[.int .i64 X, .int .i64 Y, v] 55)) (belI_box _ (.cells #[.int .i64 X2, .int .i64 Y2, u] 55)))
 have Hv := Lib.hid hv2
 have Hu := Lib.hid hu2
 obtain ⟨A, c, rfl⟩ := hv.form
 obtain ⟨A', c', rfl⟩ := hu.form
 clear hv hu hv2 hu2
 by_cases hx : X = X2
 ·subst hx
  by_cases hy : Y = Y2
  ·subst hy
   obtain ⟨b, hb⟩ : ∃ b, b = imEq L M := ⟨_, rfl⟩
   have HA : Hid (sameM X Y L X Y M = b) := Lib.hid (by rw [hb]; exact sameM_in X Y L M)
   have R := fun W h1 h2 => sameInts_any (.slice A L.length c) (.slice A' M.length c') L M W h1 h2
   unfold ImEqAns at R
   rw [← hb] at R
   have HR := Lib.hid R
   clear R hb
   go_enter Tryz.func35, Tryz.ntmps35
   go_wp2_with fail
   refine (HR.out _ Hv.out Hu.out).mono ?_
   rintro e w1 ⟨rfl, q, rfl⟩
   go_wp2_with fail
   go_ret
   exact ⟨ret_bool HA.out.symm, ⟨Hw.out.os, Hw.out.tape, Hw.out.output, Hw.out.size, Hw.out.block⟩⟩
  ·have HA : Hid (sameM X Y L X Y2 M = false) := Lib.hid (sameM_no fun h => hy h.2.1)
   have hyb : (Y == Y2) = false := by rw [beq_eq_false_iff_ne]; exact hy
   go_enter Tryz.func35, Tryz.ntmps35
   go_wp2_with fail
   go_ret
   exact ⟨ret_bool HA.out.symm, Hw.out⟩
 ·have HA : Hid (sameM X Y L X2 Y2 M = false) := Lib.hid (sameM_no fun h => hx h.1)
  have hxb : (X == X2) = false := by rw [beq_eq_false_iff_ne]; exact hx
  go_enter Tryz.func35, Tryz.ntmps35
  go_wp2_with fail
  go_ret
  exact ⟨ret_bool HA.out.symm, Hw.out⟩
end Go.Proofs.YtdgagooldlnpeaaGreat
namespace Go.Proofs.YtdgagooldlnpeaaGreat
open Go.RowKit
theorem fill_ok {X Y : Int} {L : List Int} (r : Rc) (p : Int) (h : imOk X Y L) : ∃ M, fillIm X Y L r p = ⟨X, Y, M⟩ ∧ imOk X Y M := by
 by_cases hp : pixOk p
 ·obtain ⟨W, H, rfl, rfl, wl, wh, hl, hh, hL⟩ := im_nat h
  refine ⟨_, fill_val W H L r p h hp hL wh hh, h.1, by rw [tabI_length]; exact h.2.1, fun k x hx => ?_⟩
  obtain ⟨j, hj, rfl⟩ := tabI_mem (List.mem_of_getElem? hx)
  unfold rectF
  split
  ·exact hp
  ·rw [List.getD_eq_getElem?_getD, List.getElem?_eq_getElem hj]; exact h.2.2 j _ (List.getElem?_eq_getElem hj)
 ·exact ⟨L, fill_no fun h' => hp h'.2.2, h⟩
end Go.Proofs.YtdgagooldlnpeaaGreat
namespace Go.Proofs.YtdgagooldlnpeaaGreat
open Go.RowKit
theorem ownA_ne {v : Value} {b : Nat} (h : ∀ g, v.ownBlock = some g → g ≠ b) : v.ownBlock = none ∨ v.ownBlock ≠ some b := by
 by_cases hv : v.ownBlock = none
 ·exact .inl hv
 ·exact .inr fun e => h b e rfl
end Go.Proofs.YtdgagooldlnpeaaGreat
namespace Go.Proofs.YtdgagooldlnpeaaGreat
open Go.RowKit
theorem r_ed {w : World} {f : Ed} {d : Value} {bs : List Nat} (h : repEd.R w f [.int .i64 f.kind, .int .i64 f.id, .int .i64 f.a, .int .i64 f.b, .int .i64 f.bw, .int .i64 f.bh, d] bs) : repInts.R w f.data [d] bs := by
 obtain ⟨d', e, h⟩ := h
 have e2 : d = d' := by simpa [edCells] using e
 subst e2
 exact h
end Go.Proofs.YtdgagooldlnpeaaGreat
namespace Go.Proofs.YtdgagooldlnpeaaGreat
open Go.RowKit
def repEds : Rep (List Ed) := repSl repEd 97 7
section
variable {α : Type} {M L : List α} {k : Nat}
end
end Go.Proofs.YtdgagooldlnpeaaGreat
namespace Go.Proofs.YtdgagooldlnpeaaGreat
open Go.RowKit
theorem rows_one {w : World} : ∀ {L : List Sf} {xs : List (List Value)} {bss : List (List Nat)}, rowsR repSf w L xs bss → ∀ u ∈ xs.flatten, u.oneCell' = true
  | [], [], [], _, u, hu => by simp at hu
  | f :: L, x :: xs, b :: bss, h, u, hu => by
    rw [List.flatten_cons, List.mem_append] at hu
    rcases hu with hu | hu
    · obtain ⟨d, rfl, hd⟩ := h.1
      obtain ⟨⟨A, c, rfl⟩, _⟩ := ints_form hd
      simp only [sfCells, List.mem_cons, List.not_mem_nil, or_false] at hu
      rcases hu with rfl | rfl | rfl | rfl | rfl | rfl | rfl | rfl | rfl | rfl | rfl <;> rfl
    · exact rows_one h.2 u hu
theorem info2_sf : ∃ i0, Tryz.prog.info? 89 = some i0 ∧ i0.zero = some (.agg #[.int .i64 0, .int .i64 0, .int .i64 0, .int .i64 0, .int .i64 0, .int .i64 0, .int .i64 0, .bool false, .int .i64 0, .int .i64 0, .slice none 0 0]) ∧ i0.size = 11 ∧ i0.bytes ≤ 1000 := by
  have h : (Tryz.prog.info? 89).map (fun i => (i.zero, i.size, decide (i.bytes ≤ 1000))) = some (some (.agg #[.int .i64 0, .int .i64 0, .int .i64 0, .int .i64 0, .int .i64 0, .int .i64 0, .int .i64 0, .bool false, .int .i64 0, .int .i64 0, .slice none 0 0]), 11, true) := by kernel_rfl
  cases e : Tryz.prog.info? 89 with
  | none => rw [e] at h; simp at h
  | some i =>
    rw [e] at h
    simp only [Option.map_some, Option.some.injEq, Prod.mk.injEq, decide_eq_true_eq] at h
    exact ⟨i, rfl, h.1, h.2.1, h.2.2⟩
end Go.Proofs.YtdgagooldlnpeaaGreat
namespace Go.Proofs.YtdgagooldlnpeaaGreat
open Go.RowKit
def SnAns (s : Sn) (w : World) (e : Ending) (w' : World) : Prop := ∃ u bs, e = .returned (.agg #[.int .i64 s.w, .int .i64 s.h, .int .i64 s.back, u]) ∧ repSfs.Own w.heap.size w' s.fs [u] bs ∧ Below w.heap.size w w'
end Go.Proofs.YtdgagooldlnpeaaGreat
namespace Go.Proofs.YtdgagooldlnpeaaGreat
open Go.RowKit
def edNew (e : Ed) : Sf := ⟨e.id, e.a, e.b, 0, 0, 255, 0, true, e.bw, e.bh, e.data⟩
def edF (e : Ed) (f : Sf) : Sf :=
 if e.kind = 2 then { f with x := e.a, y := e.b } else if e.kind = 5 then { f with bw := e.bw, bh := e.bh, data := e.data } else if e.kind = 6 then { f with alpha := e.a } else if e.kind = 7 then { f with orient := e.a } else if e.kind = 8 then { f with w := e.a, h := e.b } else { f with vis := e.a == 1 }
def edL (e : Ed) (L : List Sf) (k : Nat) (f : Sf) : List Sf :=
 if e.kind = 0 then L ++ [edNew e] else if e.kind = 1 then L.eraseIdx k else if e.kind = 3 then L.eraseIdx k ++ [f] else if e.kind = 4 then f :: L.eraseIdx k else L.set k (edF e f)
def edS (s : Sn) (e : Ed) : Sn :=
 if e.kind = 10 then { s with back := e.a } else { s with fs := edL e s.fs (idxF s.fs e.id).toNat ((s.fs[(idxF s.fs e.id).toNat]?).getD sfZero) }
def edOk (s : Sn) (e : Ed) : Prop := (0 ≤ e.kind ∧ e.kind ≤ 10) ∧ (e.kind = 0 ∨ e.kind = 10 ∨ 0 ≤ idxF s.fs e.id)
open Classical in
noncomputable def doE (s : Sn) (e : Ed) : Sn × Bool := if snOk s ∧ edOk s e ∧ snOk (edS s e) then (edS s e, true) else (s, false)
theorem doE_yes {s : Sn} {e : Ed} (h : snOk s) (he : edOk s e) (h2 : snOk (edS s e)) : doE s e = (edS s e, true) := if_pos ⟨h, he, h2⟩
theorem doE_no {s : Sn} {e : Ed} (h : ¬ (snOk s ∧ edOk s e ∧ snOk (edS s e))) : doE s e = (s, false) := if_neg h
theorem doE_ok {s : Sn} (e : Ed) (h : snOk s) : snOk (doE s e).1 := by
 by_cases h2 : snOk s ∧ edOk s e ∧ snOk (edS s e)
 ·rw [doE_yes h2.1 h2.2.1 h2.2.2]; exact h2.2.2
 ·rw [doE_no h2]; exact h
theorem sn_small {s : Sn} (h : snOk s) : s.fs.length ≤ 6 ∧ lenFs s.fs ≤ 1536 := by
  refine ⟨h.2.2.1, ?_⟩
  have hall : ∀ L : List Sf, (∀ f ∈ L, f.data.length ≤ 256) → lenFs L ≤ L.length * 256 := by
    intro L hL
    induction L with
    | nil => simp [lenFs]
    | cons f L ih =>
      have h1 := ih fun g hg => hL g (by simp [hg])
      have h2 := hL f (by simp)
      unfold lenFs at h1 ⊢
      simp only [List.map_cons, List.sum_cons, List.length_cons]
      omega
  have h1 := hall s.fs fun f hf => by
    obtain ⟨k, hk⟩ := List.getElem?_of_mem hf
    have hs := (h.2.2.2 k f hk).1
    have him := hs.2.2.2.2.2.2
    have hsz := sz_mul him.1
    have hlen := him.2.1
    omega
  have h2 := h.2.2.1
  omega
theorem sn_siz {s : Sn} (h : snOk s) : sizFs s.fs ≤ 2097152 ∧ cntFs s.fs ≤ 100000000 := by
 have := sn_small h; unfold sizFs cntFs; omega
theorem idx_get {L : List Sf} {i : Int} (h : 0 ≤ idxF L i) : ∃ (k : Nat) (f : Sf), idxF L i = (k : Int) ∧ k < L.length ∧ L[k]? = some f ∧ f.id = i := by
 rcases idxF_is (L := L) (i := i) with ⟨e, _⟩ | ⟨k, f, e, hf, hi, _⟩
 ·omega
 ·exact ⟨k, f, e, (List.getElem?_eq_some_iff.1 hf).1, hf, hi⟩
theorem edS_k {s : Sn} {e : Ed} {k : Nat} {f : Sf} (hk : idxF s.fs e.id = (k : Int)) (hf : s.fs[k]? = some f) (h10 : e.kind ≠ 10) : edS s e = { s with fs := edL e s.fs k f } := by
 unfold edS; rw [if_neg h10, hk, Int.toNat_natCast, hf]; rfl
theorem edS_add {s : Sn} {e : Ed} (h : e.kind = 0) : edS s e = { s with fs := s.fs ++ [edNew e] } := by
 unfold edS edL; rw [if_neg (by omega), if_pos h]
theorem edS_back {s : Sn} {e : Ed} (h : e.kind = 10) : edS s e = { s with back := e.a } := by unfold edS; rw [if_pos h]
end Go.Proofs.YtdgagooldlnpeaaGreat
namespace Go.Proofs.YtdgagooldlnpeaaGreat
open Go.RowKit
theorem sn_sizes {s : Sn} (h : snOk s) : 1 ≤ s.w ∧ s.w ≤ 16 ∧ 1 ≤ s.h ∧ s.h ≤ 16 ∧ 1 ≤ s.w * s.h ∧ s.w * s.h ≤ 256 := by
 have h1 := h.1
 unfold szOk at h1
 have h2 : 1 * 1 ≤ s.w * s.h := Int.mul_le_mul (by omega) (by omega) (by omega) (by omega)
 have h3 : s.w * s.h ≤ 16 * 16 := Int.mul_le_mul (by omega) (by omega) (by omega) (by omega)
 omega
end Go.Proofs.YtdgagooldlnpeaaGreat
