/- Texts of mine in one file: FilB, DfsM, EdH, EdW, EdQ, OrdB, OrdS, OcS. No statement is proved here. -/
import Derived.Test.YtdgagooldlnpeaaGreatMA
import Derived.Test.YtdgagooldlnpeaaGreatMB
import Derived.Test.YtdgagooldlnpeaaGreatCpyI
import Derived.Test.YtdgagooldlnpeaaGreatMC
import Derived.Test.YtdgagooldlnpeaaGreatSnD
import Derived.Test.YtdgagooldlnpeaaGreatSnS
import Derived.Test.YtdgagooldlnpeaaGreatProg
import Derived.WalkKit
import Derived.ProofKit
import Derived.OpenShut
import Derived.WalkLawsBesides
import Derived.WalkSpells
import Derived.ShutString
import Derived.ChangeOld
import Derived.Below
import Derived.Lib.Hide
import Derived.BigQuiet
import Derived.Deep.QuietTactic
import Derived.Maps.AppendAt
import Derived.Deep.OwnRows
import Derived.Handy
import Derived.Deep.Draws
import Derived.OwnWalk
import Derived.Deep.AppendLies
import Derived.Deep.LoopGhost
import Derived.Deep.Onto
import Derived.Laws.BitsAllLaws
import Derived.Lib.QuoteBits
import Derived.Test.YtdgagooldlnpeaaGreatShelf
import Derived.Laws.CopyOwn
import Derived.Deep.RegionLaw
import Derived.Deep.RegionHeld3
import Derived.Deep.DeepCutAuto
import Derived.Great.BuildSlice
import Derived.Deep.MidRow
import Derived.Deep.WholeRow
import Derived.Laws.AppendOwn
import Derived.Shelf.RegionOpenPlain
import Derived.Lib.SliceRun
import Derived.Deep.RegionWith
import Derived.Deep.CutBlock
import Derived.ChangeKeysEq
import Derived.Deep.DeepAppendRoom
namespace Go.Proofs.YtdgagooldlnpeaaGreat
open Go.RowKit
theorem okL_canon (g : Nat → Bool) : okL (canon g) = true := by
 unfold okL; rw [canon_idem]; exact sameL_yes rfl
noncomputable def fillIm (X Y : Int) (L : List Int) (r : Rc) (p : Int) : Im := copyIm X Y L (newIm X Y p).w (newIm X Y p).h (newIm X Y p).d (canon (gridOf [r]))
def rectF (W : Nat) (L : List Int) (r : Rc) (p : Int) : Nat → Int := fun k => if hasB r (k % W : Nat) (k / W : Nat) = true then p else L.getD k 0
theorem flat_ok {W H p : Int} (h : szOk W H) (hp : pixOk p) : imOk W H (flatN W H p) :=
 ⟨h, by unfold flatN; rw [tabI_length]; exact Int.toNat_of_nonneg (sz_mul h).1, fun k x hx => by obtain ⟨j, _, rfl⟩ := tabI_mem (List.mem_of_getElem? hx); exact hp⟩
theorem fill_val (W H : Nat) (L : List Int) (r : Rc) (p : Int) (h1 : imOk W H L) (hp : pixOk p) (hL : L.length = W * H) (wh : W ≤ 16) (hh : H ≤ 16) :
  fillIm W H L r p = ⟨W, H, tabI L.length (rectF W L r p)⟩ := by
 unfold fillIm
 rw [new_yes h1.1 hp]
 dsimp only
 rw [copy_yes h1 (flat_ok h1.1 hp) (okL_canon _)]
 congr 1
 refine tabI_congr _ fun k hk => ?_
 rw [hL] at hk
 have h2 := plc_row hk
 have h3 := Nat.mod_lt k (plc_pos hk)
 have h4 := plc_eq k W
 unfold copyF rectF
 simp only [Int.toNat_natCast]
 rw [gridOf_canon _ _ (by omega), gridOf_one, show (k / W * 16 + k % W) % 16 = k % W by omega, show (k / W * 16 + k % W) / 16 = k / W by omega]
 by_cases h : hasB r (k % W : Nat) (k / W : Nat) = true
 ·rw [if_pos h, if_pos ⟨h3, h2, h⟩, h4]
  unfold flatN
  exact tabI_getD _ _ _ (by rw [← Int.natCast_mul, Int.toNat_natCast]; exact hk)
 ·rw [if_neg h, if_neg fun h' => h h'.2.2]
theorem fill_no {X Y : Int} {L : List Int} {r : Rc} {p : Int} (h : ¬ (imOk X Y L ∧ r.ok ∧ pixOk p)) : fillIm X Y L r p = ⟨X, Y, L⟩ := by
 by_cases h1 : imOk X Y L
 ·by_cases hp : pixOk p
  ·obtain ⟨W, H, rfl, rfl, _, wh, _, hh, hL⟩ := im_nat h1
   rw [fill_val W H L r p h1 hp hL wh hh]
   congr 1
   exact (tabI_ext rfl fun k x hx => by
    unfold rectF
    rw [if_neg (by rw [has_no (fun h' => h ⟨h1, h'.1, hp⟩)]; simp), List.getD_eq_getElem?_getD, hx]; rfl).symm
  ·unfold fillIm
   rw [new_no fun h' => hp h'.2]
   exact copy_no fun h' => by have := h'.2.1.1; unfold szOk zeroIm at this; dsimp only at this; omega
 ·exact copy_no fun h' => h1 h'.1
def rectS (W : Nat) (p : Int) (f : Nat → Int) (X Y n y x : Nat) : Nat → Int := fun k =>
 if X ≤ k % W ∧ k % W < X + n ∧ Y ≤ k / W ∧ (k / W < y ∨ k / W = y ∧ k % W < x) then p else f k
theorem rectS_start (W : Nat) (p : Int) (f : Nat → Int) (X Y n k : Nat) : rectS W p f X Y n Y X k = f k := if_neg (by omega)
theorem rectS_row (W : Nat) (p : Int) (f : Nat → Int) (X Y n y k : Nat) : rectS W p f X Y n y (X + n) k = rectS W p f X Y n (y + 1) X k := by
 unfold rectS
 by_cases h : X ≤ k % W ∧ k % W < X + n ∧ Y ≤ k / W ∧ (k / W < y ∨ k / W = y ∧ k % W < X + n)
 ·rw [if_pos h, if_pos (by omega)]
 ·rw [if_neg h, if_neg (by omega)]
theorem rectS_set (W : Nat) (p : Int) (f : Nat → Int) (X Y n y x k : Nat) (hW : x < W) (hx : X ≤ x) (hx2 : x < X + n) (hy : Y ≤ y) :
  (if k = y * W + x then p else rectS W p f X Y n y x k) = rectS W p f X Y n y (x + 1) k := by
 by_cases e : k = y * W + x
 ·rw [if_pos e]
  obtain ⟨e1, e2⟩ := (plc_iff y k hW).1 e
  unfold rectS
  rw [e1, e2, if_pos ⟨hx, hx2, hy, by omega⟩]
 ·rw [if_neg e]
  have e' := mt (plc_iff y k hW).2 e
  unfold rectS
  by_cases h : X ≤ k % W ∧ k % W < X + n ∧ Y ≤ k / W ∧ (k / W < y ∨ k / W = y ∧ k % W < x)
  ·rw [if_pos h, if_pos (by omega)]
  ·rw [if_neg h, if_neg (by omega)]
theorem rectS_end (W H : Nat) (p : Int) (L : List Int) (r : Rc) (X Y n h k : Nat) (hk : k < W * H) (hI : ∀ p q : Nat, ((X ≤ p ∧ p < X + n ∧ Y ≤ q ∧ q < Y + h) ↔ (hasB r p q = true ∧ p < W ∧ q < H))) :
  rectS W p (fun k => L.getD k 0) X Y n (Y + h) X k = rectF W L r p k := by
 have h1 := plc_row hk
 have h2 := Nat.mod_lt k (plc_pos hk)
 have hi := hI (k % W) (k / W)
 unfold rectS rectF
 by_cases c : X ≤ k % W ∧ k % W < X + n ∧ Y ≤ k / W ∧ k / W < Y + h
 ·rw [if_pos (by omega), if_pos (hi.1 c).1]
 ·rw [if_neg (by omega), if_neg fun e => c (hi.2 ⟨e, h2, h1⟩)]
theorem run_build1 (r : Rc) (w : World) : (Instr.buildSlice 28 1 #[(0, .agg #[.int .i64 r.x, .int .i64 r.y, .int .i64 r.w, .int .i64 r.h])]).run Tryz.prog w = .ok (.slice (some ⟨w.heap.size, 0, none⟩) 1 1) (w.alloc (.cells #[.int .i64 r.x, .int .i64 r.y, .int .i64 r.w, .int .i64 r.h] 113)) := by
 kernel_rfl
theorem RdR.one {W : World} {g : Nat} {r : Rc} (h : RcAt W g r) : RdR W (.slice (some ⟨g, 0, none⟩) 1 1) [r] := by
 obtain ⟨h0, h1, h2, h3⟩ := h.cells
 refine ⟨by simp [maxLen], _, 1, rfl, fun _ => ⟨g, rfl, fun k s hs => ?_⟩⟩
 cases k with
 | zero => injection hs with hs; subst hs; exact ⟨h0, h1, h2, h3⟩
 | succ k => simp at hs
structure FlA (w : World) (X Y : Int) (v : Value) (r : Rc) (W : World) : Prop where
 a : ImAt W w.heap.size 55 X Y v
 b : RcAt W (w.heap.size + 1) r
 bw : Below w.heap.size w W
theorem FlA.call {w : World} {X Y : Int} {v : Value} {r : Rc} {W W' : World} (h : FlA w X Y v r W) (k : Below W.heap.size W W') : FlA w X Y v r W' :=
 ⟨h.a.call k, h.b.below k h.b.lt, belI_call h.bw k⟩
theorem FlA.grown {w : World} {X Y : Int} {v : Value} {r : Rc} {W W' : World} {g : Nat} (h : FlA w X Y v r W) (hg : W.grownBy W' (some g)) (hk : w.heap.size + 2 ≤ g) : FlA w X Y v r W' :=
 ⟨h.a.grown hg (by simp; omega), (hg.block _ h.b.lt (by simp; omega)).trans h.b, h.bw.grown hg h.bw.size (fun k hk => by injection hk with hk; omega)⟩
theorem FlA.born (w : World) (X Y : Int) (v : Value) (r : Rc) :
  FlA w X Y v r (((w.alloc (.cells #[.int .i64 X, .int .i64 Y, v] 55)).alloc (.cells #[.int .i64 r.x, .int .i64 r.y, .int .i64 r.w, .int .i64 r.h] 113)).alloc (.cells #[.int .i64 0, .int .i64 0, .slice none 0 0] 55)) :=
 ⟨((ImAt.new w _ _ _ _).alloc _).alloc _, (RcAt.newAt (w := w.alloc (.cells #[.int .i64 X, .int .i64 Y, v] 55)) (by simp) r).alloc _, belI_call (belI_call (belI_box _ _) (belI_box _ _)) (belI_box _ _)⟩
theorem fl_res (w : World) (X Y : Int) (v : Value) (r : Rc) :
  ImAt (((w.alloc (.cells #[.int .i64 X, .int .i64 Y, v] 55)).alloc (.cells #[.int .i64 r.x, .int .i64 r.y, .int .i64 r.w, .int .i64 r.h] 113)).alloc (.cells #[.int .i64 0, .int .i64 0, .slice none 0 0] 55)) (w.heap.size + 2) 55 0 0 (.slice none 0 0) :=
 ImAt.newAt (w := (w.alloc (.cells #[.int .i64 X, .int .i64 Y, v] 55)).alloc (.cells #[.int .i64 r.x, .int .i64 r.y, .int .i64 r.w, .int .i64 r.h] 113)) (by simp) _ _ _ _
end Go.Proofs.YtdgagooldlnpeaaGreat
namespace Go.Proofs.YtdgagooldlnpeaaGreat
open Go.RowKit
theorem fill_ok {X Y : Int} {L : List Int} (r : Rc) (p : Int) (h : imOk X Y L) : ∃ M, fillIm X Y L r p = ⟨X, Y, M⟩ ∧ imOk X Y M := by
 by_cases hp : pixOk p
 ·obtain ⟨W, H, rfl, rfl, wl, wh, hl, hh, hL⟩ := im_nat h
  refine ⟨_, fill_val W H L r p h hp hL wh hh, h.1, by rw [tabI_length]; exact h.2.1, fun k x hx => ?_⟩
  obtain ⟨j, hj, rfl⟩ := tabI_mem (List.mem_of_getElem? hx)
  unfold rectF
  split
  ·exact hp
  ·rw [List.getD_eq_getElem?_getD, List.getElem?_eq_getElem hj]; exact h.2.2 j _ (List.getElem?_eq_getElem hj)
 ·exact ⟨L, fill_no fun h' => hp h'.2.2, h⟩
theorem rowCnt_none (g : Nat → Bool) (y x : Nat) (h : ∀ p, p < 16 → g (y * 16 + p) = false) : rowCnt g y x = 0 := by
 fun_induction rowCnt g y x with
 | case1 x hx ih => rw [if_neg (by rw [h x hx]; simp), ih]; rfl
 | case2 x hx => rfl
end Go.Proofs.YtdgagooldlnpeaaGreat
namespace Go.Proofs.YtdgagooldlnpeaaGreat
open Go.RowKit
structure HalfU (B : Nat) (w : World) (M : List Sf) (v : Value) (bs : List Nat) : Prop where
 ex : ∃ xs bss, rowsR repSf w M xs bss ∧ (∀ x ∈ xs, x.length = 11) ∧ w.ownsRow B 89 11 v M.length xs.flatten ∧ bs = bss.flatten
 ne : ∀ b ∈ bs, b ∉ v.ownBlock.toList
theorem HalfU.of_own {B : Nat} {w : World} {M : List Sf} {v : Value} {bs : List Nat} (h : repSfs.Own B w M [v] bs) : ∃ bs', HalfU B w M v bs' ∧ (∀ b ∈ bs', B ≤ b) := by
 obtain ⟨v', xs, bss, e, hr, hls, how, rfl⟩ := h.r
 obtain rfl : v = v' := by simpa using e
 have hnd := h.nd
 rw [List.nodup_append] at hnd
 exact ⟨bss.flatten, ⟨⟨xs, bss, hr, hls, own_rebase how fun b hb => h.lo b (List.mem_append.2 (.inl hb)), rfl⟩, fun b hb e => hnd.2.2 b e b hb rfl⟩, fun b hb => h.lo b (List.mem_append.2 (.inr hb))⟩
theorem HalfU.r {B : Nat} {w : World} {M : List Sf} {v : Value} {bs : List Nat} (h : HalfU B w M v bs) : repSfs.R w M [v] (v.ownBlock.toList ++ bs) := by
 obtain ⟨xs, bss, hr, hls, how, rfl⟩ := h.ex
 exact ⟨v, xs, bss, rfl, hr, hls, own_rebase how fun _ _ => Nat.zero_le _, rfl⟩
theorem HalfU.lo {B : Nat} {w : World} {M : List Sf} {v : Value} {bs : List Nat} (h : HalfU B w M v bs) : ∀ q, v.ownBlock = some q → B ≤ q := fun q hq => by
 obtain ⟨xs, bss, hr, hls, how, rfl⟩ := h.ex
 exact (own_ltB how q (by rw [hq]; simp)).1
theorem HalfU.form {B : Nat} {w : World} {M : List Sf} {v : Value} {bs : List Nat} (h : HalfU B w M v bs) : ∃ A c, v = .slice A M.length c := (repSfs_form h.r).1
theorem HalfU.chg {B : Nat} {w w' : World} {M : List Sf} {v : Value} {bs cs : List Nat} (h : HalfU B w M v bs) (hc : Chg w w' cs) (h1 : ∀ q, v.ownBlock = some q → q ∉ cs) (h2 : ∀ b ∈ bs, b ∉ cs) : HalfU B w' M v bs := by
 obtain ⟨xs, bss, hr, hls, how, rfl⟩ := h.ex
 exact ⟨⟨xs, bss, rowsR_keep hr fun b hb => hc.block b (rowsR_ex hr b hb) (h2 b hb), hls, own_chgN how hc fun b hb => h1 b (by simpa using hb), rfl⟩, h.ne⟩
theorem HalfU.call {B : Nat} {w w' : World} {M : List Sf} {v : Value} {bs : List Nat} (h : HalfU B w M v bs) (hb : Below w.heap.size w w') : HalfU B w' M v bs := h.chg (Chg.of_below [] hb) (fun _ _ => by simp) (fun _ _ => by simp)
theorem HalfU.nil (B : Nat) (w : World) : HalfU B w [] (.slice none 0 0) [] := ⟨⟨[], [], trivial, by simp, ⟨rfl, .inl ⟨rfl, rfl⟩⟩, rfl⟩, by simp⟩
theorem HalfU.lt {B : Nat} {w : World} {M : List Sf} {v : Value} {bs : List Nat} (h : HalfU B w M v bs) : ∀ b ∈ bs, b < w.heap.size := fun b hb => repSfs.ex h.r b (List.mem_append.2 (.inr hb))
theorem HalfU.mono {B B' : Nat} {w : World} {M : List Sf} {v : Value} {bs : List Nat} (h : HalfU B w M v bs) (hB : B' ≤ B) : HalfU B' w M v bs := by
 obtain ⟨xs, bss, hr, hls, how, e⟩ := h.ex
 exact ⟨⟨xs, bss, hr, hls, how.mono hB, e⟩, h.ne⟩
theorem wp_append_half {op : Oper} {a : Act} {w : World} {K : Act → World → Prop} {Q : Exit → Act → World → Prop} (s x : Operand)
  (ho : op.op = .call { callee := .builtin .append, args := #[s, x], argTypes := #[32, 32] })
  (B B' : Nat) (v u : Value) (M N : List Sf) (bs cs : List Nat) (hs : a.eval s = v) (hown : HalfU B w M v bs) (hx : a.eval x = u) (hu : HalfU B' w N u cs) (hd : ∀ b ∈ cs, b ∉ v.ownBlock.toList) (hM : M.length + N.length ≤ 2097152) (hB : B ≤ w.heap.size)
  (h : ∀ v' bs' w', HalfU B w' (M ++ N) v' bs' → w.grownBy w' v.ownBlock → (∀ b ∈ bs', b ∈ bs ∨ b ∈ cs) → (v'.ownBlock = v.ownBlock ∨ v'.ownBlock = some w.heap.size) → (∃ A c, v' = .slice A (M.length + N.length) c) → K (a.put op.dst v') w') : op.wp Tryz.prog a w K Q := by
 obtain ⟨i0, hi, hz0, hz1, hby⟩ := info2_sf
 have hbn : (M.length + N.length) * i0.bytes ≤ 2097152 * 1000 := Nat.mul_le_mul hM hby
 obtain ⟨xs, bss, hr, hls, how, rfl⟩ := hown.ex
 obtain ⟨ys, css, hr2, hls2, how2, rfl⟩ := hu.ex
 refine wp_append_row s x 32 ho B B' 89 i0 _ 11 i0.bytes Tryz.underlying32 hi hz0 hz1 rfl rfl (by omega) v M.length xs.flatten hs how u N.length ys.flatten hx how2 (rows_one hr2) (by unfold maxLen; omega) (by omega) hB (fun v' w' q1 q2 q3 => ?_)
 have hch := Chg.of_grown q2
 have hlt : ∀ b ∈ bss.flatten ++ css.flatten, b < w.heap.size ∧ b ∉ v.ownBlock.toList := fun b hb => by
  rcases List.mem_append.1 hb with hb | hb
  ·exact ⟨rowsR_ex hr b hb, hown.ne b hb⟩
  ·exact ⟨rowsR_ex hr2 b hb, hd b hb⟩
 have hsh : ∃ A c, v' = .slice A (M.length + N.length) c := by
  rcases q1.2 with ⟨e, e2⟩ | ⟨g', cap, cur, e, _⟩
  ·exact ⟨none, 0, by rw [e, e2]⟩
  ·exact ⟨_, _, e⟩
 refine h v' (bss ++ css).flatten w' ⟨⟨xs ++ ys, bss ++ css, ?_, ?_, ?_, rfl⟩, fun b hb e => ?_⟩ q2 (fun b hb => ?_) q3 hsh
 ·exact rowsR_append (rowsR_keep hr fun b hb => hch.block b (rowsR_ex hr b hb) (hown.ne b hb)) (rowsR_keep hr2 fun b hb => hch.block b (rowsR_ex hr2 b hb) (hd b hb))
 ·intro y hy
  rcases List.mem_append.1 hy with hy | hy
  ·exact hls y hy
  ·exact hls2 y hy
 ·rw [List.flatten_append, List.length_append]; exact q1
 ·rw [List.flatten_append] at hb
  have h1 := hlt b hb
  rcases q3 with q | q
  ·rw [q] at e; exact h1.2 e
  ·rw [q] at e
   have : b = w.heap.size := by simpa using e
   omega
 ·rw [List.flatten_append] at hb
  exact List.mem_append.1 hb
theorem half_one {w : World} {g : Nat} {f : Sf} {u : Value} {bu : List Nat} (hg : BkAt w g 89 #[.int .i64 f.id, .int .i64 f.x, .int .i64 f.y, .int .i64 f.w, .int .i64 f.h, .int .i64 f.alpha, .int .i64 f.orient, .bool f.vis, .int .i64 f.bw, .int .i64 f.bh, u]) (hf : repSf.R w f (sfCells f u) bu) (hn : g ∉ bu) : HalfU g w [f] (.slice (some ⟨g, 0, none⟩) 1 1) bu :=
 ⟨⟨[sfCells f u], [bu], ⟨hf, trivial⟩, fun x hx => by rw [List.mem_singleton.1 hx]; rfl, ⟨rfl, .inr ⟨g, 1, _, rfl, Nat.le_refl _, hg, Nat.le_refl _, by unfold maxLen; omega, rfl, rfl⟩⟩, by simp⟩, fun b hb e => hn (by rw [← show b = g by simpa [Value.ownBlock] using e]; exact hb)⟩
theorem HalfU.put1 {B : Nat} {w : World} {M : List Sf} {g c n k j : Nat} {bs : List Nat} {f f' : Sf} {val : Value} (h : HalfU B w M (.slice (some ⟨g, 0, none⟩) n c) bs) (hn : n = M.length) (hf : M[k]? = some f) (hj : j < 11) (hv : ∀ d, (sfCells f d).set j val = sfCells f' d) (hd : f'.data = f.data) :
  HalfU B (w.setCell ⟨g, k * 11 + j, none⟩ val) (M.set k f') (.slice (some ⟨g, 0, none⟩) n c) bs ∧ w.grownBy (w.setCell ⟨g, k * 11 + j, none⟩ val) (some g) := by
 obtain ⟨xs, bss, hr, hls, how, rfl⟩ := h.ex
 have hB := fun b hb => (own_ltB how b hb).1
 have hU : SlU repSf 89 11 w M g c n xs bss := ⟨hr, hls, by rw [hn]; rw [hn] at how; exact own_rebase how fun _ _ => Nat.zero_le _, hn⟩
 have hk : k < n := by rw [hn]; exact (List.getElem?_eq_some_iff.1 hf).1
 obtain ⟨f0, x, b, hf0, hx, hb, hxl, hR, _⟩ := hU.at_ hk
 obtain rfl : f = f0 := Option.some.inj (hf.symm.trans hf0)
 obtain ⟨d, rfl, hdd⟩ := hR
 have hS := (SetK.zero hU hx).put (List.getElem?_eq_some_iff.1 hx).1 j hj val (hv d)
 have hch := Chg.of_grown hS.gr
 have hng : ∀ q ∈ bss.flatten, q ≠ g := fun q hq e => h.ne q hq (by rw [e]; simp [Value.ownBlock])
 have hU2 := SlU.upd (a' := f') (b' := b) hU hk hS.ow hS.ls ⟨d, rfl, by rw [hd]; exact Rep.chg hdd hch fun q hq e => hng q (flat_mem hb hq) (by simpa using e)⟩ (fun i dd _ hdd2 q hq => hch.block q (rowsR_ex hr q (flat_mem hdd2 hq)) fun e => hng q (flat_mem hdd2 hq) (by simpa using e))
 rw [set_same hb] at hU2
 refine ⟨⟨⟨_, bss, hU2.rr, hU2.ls, ?_, rfl⟩, h.ne⟩, hS.gr⟩
 rw [List.length_set, ← hn]
 exact own_rebase hU2.ow fun b hb => hB b hb
theorem HalfU.put3 {B : Nat} {w : World} {M : List Sf} {g c n k : Nat} {bs bu : List Nat} {f f' : Sf} {p q u : Value} (h : HalfU B w M (.slice (some ⟨g, 0, none⟩) n c) bs) (hn : n = M.length) (hf : M[k]? = some f) (hv : ∀ d, (((sfCells f d).set 8 p).set 9 q).set 10 u = sfCells f' u) (hu : repInts.R w f'.data [u] bu) (hg : g ∉ bu) :
  ∃ bs', HalfU B (((w.setCell ⟨g, k * 11 + 8, none⟩ p).setCell ⟨g, k * 11 + 8 + 1, none⟩ q).setCell ⟨g, k * 11 + 8 + 2, none⟩ u) (M.set k f') (.slice (some ⟨g, 0, none⟩) n c) bs' ∧ w.grownBy (((w.setCell ⟨g, k * 11 + 8, none⟩ p).setCell ⟨g, k * 11 + 8 + 1, none⟩ q).setCell ⟨g, k * 11 + 8 + 2, none⟩ u) (some g) ∧ ∀ b ∈ bs', b ∈ bs ∨ b ∈ bu := by
 obtain ⟨xs, bss, hr, hls, how, rfl⟩ := h.ex
 have hB := fun b hb => (own_ltB how b hb).1
 have hU : SlU repSf 89 11 w M g c n xs bss := ⟨hr, hls, by rw [hn]; rw [hn] at how; exact own_rebase how fun _ _ => Nat.zero_le _, hn⟩
 have hk : k < n := by rw [hn]; exact (List.getElem?_eq_some_iff.1 hf).1
 obtain ⟨f0, x, b, hf0, hx, hb, hxl, hR, _⟩ := hU.at_ hk
 obtain rfl : f = f0 := Option.some.inj (hf.symm.trans hf0)
 obtain ⟨d, rfl, hdd⟩ := hR
 have hkx := (List.getElem?_eq_some_iff.1 hx).1
 have hS := (((SetK.zero hU hx).put hkx 8 (by omega) p rfl).put hkx 9 (by omega) q rfl).put hkx 10 (by omega) u (hv d)
 rw [show k * 11 + 9 = k * 11 + 8 + 1 by omega, show k * 11 + 10 = k * 11 + 8 + 2 by omega] at hS
 have hch := Chg.of_grown hS.gr
 have hng : ∀ q ∈ bss.flatten, q ≠ g := fun q hq e => h.ne q hq (by rw [e]; simp [Value.ownBlock])
 have hU2 := SlU.upd (a' := f') (b' := bu) hU hk hS.ow hS.ls ⟨u, rfl, Rep.chg hu hch fun q hq e => hg (by rw [← show q = g by simpa using e]; exact hq)⟩ (fun i dd _ hdd2 q hq => hch.block q (rowsR_ex hr q (flat_mem hdd2 hq)) fun e => hng q (flat_mem hdd2 hq) (by simpa using e))
 have hmem : ∀ z ∈ (bss.set k bu).flatten, z ∈ bss.flatten ∨ z ∈ bu := fun z hz => by
  obtain ⟨dd, hd, hm⟩ := List.mem_flatten.1 hz
  rcases List.mem_or_eq_of_mem_set hd with hd | rfl
  ·exact .inl (List.mem_flatten.2 ⟨dd, hd, hm⟩)
  ·exact .inr hm
 refine ⟨_, ⟨⟨_, _, hU2.rr, hU2.ls, ?_, rfl⟩, fun z hz e => ?_⟩, hS.gr, hmem⟩
 ·rw [List.length_set, ← hn]
  exact own_rebase hU2.ow fun b hb => hB b hb
 ·have e2 : z = g := by simpa [Value.ownBlock] using e
  rcases hmem z hz with h1 | h1
  ·exact hng z h1 e2
  ·exact hg (e2 ▸ h1)
end Go.Proofs.YtdgagooldlnpeaaGreat
namespace Go.Proofs.YtdgagooldlnpeaaGreat
open Go.RowKit
structure EdB (w : World) (s : Sn) (v : Value) (bs : List Nat) (e : Ed) (d : Value) (W : World) : Prop where
 a : SnA w.heap.size s v bs W
 x : BkAt W (w.heap.size + 1) 97 #[.int .i64 e.kind, .int .i64 e.id, .int .i64 e.a, .int .i64 e.b, .int .i64 e.bw, .int .i64 e.bh, d]
 rd : RdI W d e.data
 r : BkAt W (w.heap.size + 1 + 1) 34 #[.int .i64 0, .int .i64 0, .int .i64 0, .slice none 0 0]
 bw : Below w.heap.size w W
theorem EdB.call {w : World} {s : Sn} {v : Value} {bs : List Nat} {e : Ed} {d : Value} {W W' : World} (h : EdB w s v bs e d W) (hb : Below W.heap.size W W') : EdB w s v bs e d W' := ⟨h.a.call hb, h.x.call hb, h.rd.call hb, h.r.call hb, belI_call h.bw hb⟩
theorem EdB.set {w : World} {s : Sn} {v : Value} {bs : List Nat} {e : Ed} {d : Value} {W W' : World} {row : Option Nat} (h : EdB w s v bs e d W) (ho : (∀ b ∈ bs, b < w.heap.size) ∧ ∀ q, d.ownBlock = some q → q < w.heap.size) (hg : W.grownBy W' row) (hk : ∀ k, row = some k → w.heap.size + 3 ≤ k) : EdB w s v bs e d W' :=
 ⟨⟨h.a.at_.grown hg (fun e => by have := hk _ e.symm; omega), Rep.chg h.a.r (Chg.of_grown hg) fun b hb e => by have := hk b (by simpa using e); have := ho.1 b hb; omega⟩, h.x.grown hg (fun e => by have := hk _ e.symm; omega), h.rd.grown hg (fun q hq e => by have := hk _ e.symm; have := ho.2 q hq; omega), h.r.grown hg (fun e => by have := hk _ e.symm; omega), h.bw.grown hg h.bw.size (fun k e => by have := hk k e; omega)⟩
structure EdW (w : World) (s : Sn) (v : Value) (bs : List Nat) (e : Ed) (d : Value) (bo : Nat) (u : Value) (bu : List Nat) (W : World) : Prop where
 o : EdB w s v bs e d W
 b : BkAt W bo 34 #[.int .i64 s.w, .int .i64 s.h, .int .i64 s.back, u]
 h : HalfU (w.heap.size + 3) W s.fs u bu
structure EdO (w : World) (bs : List Nat) (d : Value) (bo : Nat) (u : Value) (bu : List Nat) : Prop where
 ob : (∀ b ∈ bs, b < w.heap.size) ∧ ∀ q, d.ownBlock = some q → q < w.heap.size
 lo : w.heap.size + 3 ≤ bo
 ub : ∀ q, u.ownBlock = some q → q < bo ∧ w.heap.size + 3 ≤ q
 bb : ∀ b ∈ bu, b < bo ∧ w.heap.size + 3 ≤ b
theorem EdW.call {w : World} {s : Sn} {v : Value} {bs : List Nat} {e : Ed} {d : Value} {bo : Nat} {u : Value} {bu : List Nat} {W W' : World} (h : EdW w s v bs e d bo u bu W) (hb : Below W.heap.size W W') : EdW w s v bs e d bo u bu W' := ⟨h.o.call hb, h.b.call hb, h.h.call hb⟩
theorem EdW.set {w : World} {s : Sn} {v : Value} {bs : List Nat} {e : Ed} {d : Value} {bo : Nat} {u : Value} {bu : List Nat} {W W' : World} {row : Option Nat} (h : EdW w s v bs e d bo u bu W) (ho : EdO w bs d bo u bu) (hg : W.grownBy W' row) (hk : ∀ k, row = some k → bo < k) : EdW w s v bs e d bo u bu W' :=
 ⟨h.o.set ho.ob hg (fun k e => by have := hk k e; have := ho.lo; omega), h.b.grown hg (fun e => by have := hk _ e.symm; omega), h.h.chg (Chg.of_grown hg) (fun q hq e => by have := hk q (by simpa using e); have := (ho.ub q hq).1; omega) (fun b hb e => by have := hk b (by simpa using e); have := (ho.bb b hb).1; omega)⟩
structure EdX (w : World) (s : Sn) (v : Value) (bs : List Nat) (e : Ed) (d : Value) (bo : Nat) (u : Value) (bu : List Nat) (g i : Nat) (f : Sf) (d1 : Value) (b1 : List Nat) (W : World) : Prop where
 o : EdW w s v bs e d bo u bu W
 c : C11 W g (i * 11) f d1
 r : repSf.R W f (sfCells f d1) b1
theorem EdX.call {w : World} {s : Sn} {v : Value} {bs : List Nat} {e : Ed} {d : Value} {bo : Nat} {u : Value} {bu : List Nat} {g i : Nat} {f : Sf} {d1 : Value} {b1 : List Nat} {W W' : World} (h : EdX w s v bs e d bo u bu g i f d1 b1 W) (hb : Below W.heap.size W W') : EdX w s v bs e d bo u bu g i f d1 b1 W' := ⟨h.o.call hb, h.c.call hb, Rep.call h.r hb⟩
theorem C11.kept {W W' : World} {g o : Nat} {f : Sf} {d : Value} (h : C11 W g o f d) (hg : ∀ q, q = g → q < W.heap.size → W'.heap[q]? = W.heap[q]?) : C11 W' g o f d := by
 have hc : ∀ o u, W.cell? ⟨g, o, none⟩ = some u → W'.cell? ⟨g, o, none⟩ = some u := fun o u hu => by
  have hl := World.block_lt_of_cell? W _ hu
  rw [← hu]
  exact World.cell?_of_block (hg g rfl hl)
 exact ⟨hc _ _ h.c0, hc _ _ h.c1, hc _ _ h.c2, hc _ _ h.c3, hc _ _ h.c4, hc _ _ h.c5, hc _ _ h.c6, hc _ _ h.c7, hc _ _ h.c8, hc _ _ h.c9, hc _ _ h.c10⟩
theorem EdX.set {w : World} {s : Sn} {v : Value} {bs : List Nat} {e : Ed} {d : Value} {bo : Nat} {u : Value} {bu : List Nat} {g i : Nat} {f : Sf} {d1 : Value} {b1 : List Nat} {W W' : World} {row : Option Nat} (h : EdX w s v bs e d bo u bu g i f d1 b1 W) (ho : EdO w bs d bo u bu) (hgb : g < bo ∧ ∀ b ∈ b1, b < bo) (hg : W.grownBy W' row) (hk : ∀ k, row = some k → bo < k) : EdX w s v bs e d bo u bu g i f d1 b1 W' :=
 ⟨h.o.set ho hg hk, h.c.kept fun q e hl => hg.block q hl fun e2 => by have := hk q e2.symm; omega, Rep.chg h.r (Chg.of_grown hg) fun b hb e => by have := hk b (by simpa using e); have := hgb.2 b hb; omega⟩
theorem HalfU.at_ {B : Nat} {W : World} {M : List Sf} {A : Option Addr} {n c k : Nat} {bs : List Nat} (h : HalfU B W M (.slice A n c) bs) (hk : k < M.length) : ∃ g f d b, A = some ⟨g, 0, none⟩ ∧ M[k]? = some f ∧ C11 W g (k * 11) f d ∧ repSf.R W f (sfCells f d) b ∧ (∀ q ∈ b, q ∈ bs) := by
 obtain ⟨xs, bss, hr, hls, how, rfl⟩ := h.ex
 have hR : repSfs.R W M [.slice A n c] ((Value.slice A n c).ownBlock.toList ++ bss.flatten) := ⟨_, xs, bss, rfl, hr, hls, own_rebase how fun _ _ => Nat.zero_le _, rfl⟩
 have hL := List.getElem?_eq_getElem hk
 obtain ⟨x, b, hx, hb, hRk⟩ := rowsR_at hr k _ hL
 have hR2 := hRk
 obtain ⟨d, rfl, hd⟩ := hR2
 rcases how.2 with ⟨_, h0⟩ | ⟨g, cap, cur, he, _⟩
 ·omega
 ·injection he with e1 e2 e3
  subst e1 e2 e3
  exact ⟨g, _, d, b, rfl, hL, c11_of fun j z hz => own_cellI how (by rw [flat_at hls k j hx (by have := (List.getElem?_eq_some_iff.1 hz).1; simpa [sfCells] using this)]; exact hz), hRk, fun q hq => flat_mem hb hq⟩
theorem er_ne {L : List Sf} {i kk : Nat} {f : Sf} (h : L[i]? = some f) (hne : i ≠ kk) : (L.take (i + 1)).eraseIdx kk = (L.take i).eraseIdx kk ++ [f] := by
 have hi := (List.getElem?_eq_some_iff.1 h).1
 have hl : (L.take i).length = i := by rw [List.length_take]; omega
 rw [take_snoc h]
 by_cases hk : kk < i
 ·rw [List.eraseIdx_append_of_lt_length (by omega)]
 ·rw [List.eraseIdx_append_of_length_le (by omega), List.eraseIdx_of_length_le (l := L.take i) (by omega), List.eraseIdx_of_length_le (l := [f]) (by simp; omega)]
theorem er_eq {L : List Sf} {kk : Nat} {f : Sf} (h : L[kk]? = some f) : (L.take (kk + 1)).eraseIdx kk = (L.take kk).eraseIdx kk := by
 have hi := (List.getElem?_eq_some_iff.1 h).1
 have hl : (L.take kk).length = kk := by rw [List.length_take]; omega
 rw [take_snoc h, List.eraseIdx_append_of_length_le (by omega), List.eraseIdx_of_length_le (l := L.take kk) (by omega), hl]
 simp
theorem er_len (L : List Sf) (i kk : Nat) : ((L.take i).eraseIdx kk).length ≤ L.length := by
 have h1 := List.length_eraseIdx_le (l := L.take i) (i := kk)
 rw [List.length_take] at h1
 omega
def EdAnsS (s : Sn) (e : Ed) (w : World) (e' : Ending) (w' : World) : Prop := ∃ u bs, e' = .returned (.tuple #[.agg #[.int .i64 (doE s e).1.w, .int .i64 (doE s e).1.h, .int .i64 (doE s e).1.back, u], .bool (doE s e).2]) ∧ repSfs.Own w.heap.size w' (doE s e).1.fs [u] bs ∧ Below w.heap.size w w'
end Go.Proofs.YtdgagooldlnpeaaGreat
namespace Go.Proofs.YtdgagooldlnpeaaGreat
open Go.RowKit
theorem edRet {w W : World} {s T : Sn} {g : Bool} {e : Ed} {a : Act} {u : Value} {bu : List Nat} (hde : doE s e = (T, g)) (hbw : Below w.heap.size w W) (hO : repSfs.Own (w.heap.size + 3) W T.fs [u] bu)
  (hr : (results Tryz.f76 a.tmps).run Tryz.prog ((((W.setCell ⟨w.heap.size + 1 + 1, 0, none⟩ (.int .i64 T.w)).setCell ⟨w.heap.size + 1 + 1, 1, none⟩ (.int .i64 T.h)).setCell ⟨w.heap.size + 1 + 1, 2, none⟩ (.int .i64 T.back)).setCell ⟨w.heap.size + 1 + 1, 3, none⟩ u) = .ok (.tuple #[.agg #[.int .i64 T.w, .int .i64 T.h, .int .i64 T.back, u], .bool g]) ((((W.setCell ⟨w.heap.size + 1 + 1, 0, none⟩ (.int .i64 T.w)).setCell ⟨w.heap.size + 1 + 1, 1, none⟩ (.int .i64 T.h)).setCell ⟨w.heap.size + 1 + 1, 2, none⟩ (.int .i64 T.back)).setCell ⟨w.heap.size + 1 + 1, 3, none⟩ u)) (hdf : a.defers = [] := by rfl) :
  bodyPost Tryz.prog Tryz.f76 (EdAnsS s e w) .ret a ((((W.setCell ⟨w.heap.size + 1 + 1, 0, none⟩ (.int .i64 T.w)).setCell ⟨w.heap.size + 1 + 1, 1, none⟩ (.int .i64 T.h)).setCell ⟨w.heap.size + 1 + 1, 2, none⟩ (.int .i64 T.back)).setCell ⟨w.heap.size + 1 + 1, 3, none⟩ u) := by
 have hCh := (((Chg.setB W (w.heap.size + 1 + 1) 0 (.int .i64 T.w) [w.heap.size + 1 + 1] (by simp)).trans (Chg.setB _ (w.heap.size + 1 + 1) 1 (.int .i64 T.h) _ (by simp))).trans (Chg.setB _ (w.heap.size + 1 + 1) 2 (.int .i64 T.back) _ (by simp))).trans (Chg.setB _ (w.heap.size + 1 + 1) 3 u _ (by simp))
 refine bodyPost_ret hr hdf ?_
 unfold EdAnsS
 rw [hde]
 exact ⟨u, bu, rfl, (Rep.Own.chg hO hCh (fun b hb e => by have h1 := hO.lo b hb; have h2 : b = w.heap.size + 1 + 1 := (by simpa using e); omega)).mono (by omega), hCh.below hbw hbw.size (fun b hb => by have : b = w.heap.size + 1 + 1 := (by simpa using hb); omega)⟩
theorem sf_form {W : World} {f : Sf} {d : Value} {b : List Nat} (h : repSf.R W f (sfCells f d) b) : ∃ A c, d = .slice A f.data.length c := by
 obtain ⟨d', e1, hd⟩ := h
 obtain rfl : d = d' := by simpa [sfCells] using e1
 exact (repInts_rd hd).form
def rsL (q : Int) (L : List Sf) (i : Nat) : List Sf := if q < 0 then [] else (L.take i).eraseIdx q.toNat
theorem rs_zero (q : Int) (L : List Sf) : rsL q L 0 = [] := by unfold rsL; split <;> simp
theorem rs_neg {q : Int} (h : q < 0) (L : List Sf) (i j : Nat) : rsL q L i = rsL q L j := by unfold rsL; rw [if_pos h, if_pos h]
theorem rs_ne {q : Int} {L : List Sf} {i : Nat} {f : Sf} (h0 : 0 ≤ q) (h : L[i]? = some f) (hne : (i : Int) ≠ q) : rsL q L (i + 1) = rsL q L i ++ [f] := by
 unfold rsL; rw [if_neg (by omega), if_neg (by omega)]; exact er_ne h (by omega)
theorem rs_eq {q : Int} {L : List Sf} {i : Nat} {f : Sf} (h : L[i]? = some f) (he : (i : Int) = q) : rsL q L (i + 1) = rsL q L i := by
 unfold rsL; rw [if_neg (by omega), if_neg (by omega), ← he, Int.toNat_natCast]; exact er_eq h
theorem rsl_len (q : Int) (L : List Sf) (i : Nat) : (rsL q L i).length ≤ L.length := by
 unfold rsL; split
 ·exact Nat.zero_le _
 ·exact er_len L i _
theorem rs_all {q : Int} (h : 0 ≤ q) (L : List Sf) : rsL q L L.length = L.eraseIdx q.toNat := by unfold rsL; rw [if_neg (by omega), List.take_length]
theorem ed_fin {w V : World} {s : Sn} {v d : Value} {bs : List Nat} {e : Ed} {bo : Nat} {x y z : Int} {u u5 : Value} {b5 : List Nat} {M : List Sf} (ho : (∀ b ∈ bs, b < w.heap.size) ∧ ∀ q, d.ownBlock = some q → q < w.heap.size) (hB : EdB w s v bs e d V) (hb : BkAt V bo 34 #[.int .i64 x, .int .i64 y, .int .i64 z, u]) (hH : HalfU (w.heap.size + 3) V M u5 b5) (hlo : w.heap.size + 3 ≤ bo) (h1 : ∀ p, u5.ownBlock = some p → p ≠ bo) (h2 : ∀ q ∈ b5, q ≠ bo) :
  EdB w s v bs e d (V.setCell ⟨bo, 3, none⟩ u5) ∧ BkAt (V.setCell ⟨bo, 3, none⟩ u5) bo 34 #[.int .i64 x, .int .i64 y, .int .i64 z, u5] ∧ HalfU (w.heap.size + 3) (V.setCell ⟨bo, 3, none⟩ u5) M u5 b5 :=
 ⟨hB.set ho (grown_setB _ bo 3 _) (fun k hk => by have := Option.some.inj hk; omega), hb.put 3 _ rfl, hH.chg (Chg.of_grown (grown_setB _ bo 3 _)) (fun p hp e => h1 p hp (by simpa using e)) (fun q hq e => h2 q hq (by simpa using e))⟩
theorem HalfU.frozen {B : Nat} {W : World} {M : List Sf} {g n c : Nat} {bs : List Nat} (h : HalfU B W M (.slice (some ⟨g, 0, none⟩) n c) bs) (j : Nat) : W.frozen? ⟨g, j, none⟩ = false := by
 obtain ⟨A, c', e⟩ := h.form
 injection e with e1 e2 e3
 subst e2
 obtain ⟨xs, bss, hr, hls, how, _⟩ := h.ex
 exact how.frozenAt j
theorem HalfU.im3 {B : Nat} {W : World} {M : List Sf} {g n c k : Nat} {bs : List Nat} (h : HalfU B W M (.slice (some ⟨g, 0, none⟩) n c) bs) (hk : k < M.length) : ∃ f d, M[k]? = some f ∧ W.cell? ⟨g, k * 11 + 8, none⟩ = some (.int .i64 f.bw) ∧ W.cell? ⟨g, k * 11 + 8 + 1, none⟩ = some (.int .i64 f.bh) ∧ W.cell? ⟨g, k * 11 + 8 + 2, none⟩ = some d := by
 obtain ⟨g', f, d, b, hA, hf, hC, _, _⟩ := h.at_ hk
 injection hA with hA
 injection hA with hA
 subst hA
 exact ⟨f, d, hf, hC.c8, hC.c9, hC.c10⟩
theorem ed_put1 {w V : World} {s : Sn} {v d : Value} {bs bu : List Nat} {e : Ed} {bo g n c k j : Nat} {cs : Array Value} {M : List Sf} {f f' : Sf} {val : Value} (ho : (∀ b ∈ bs, b < w.heap.size) ∧ ∀ q, d.ownBlock = some q → q < w.heap.size) (hB : EdB w s v bs e d V) (hb : BkAt V bo 34 cs) (hH : HalfU (w.heap.size + 3) V M (.slice (some ⟨g, 0, none⟩) n c) bu) (hn : n = M.length) (hf : M[k]? = some f) (hj : j < 11) (hv : ∀ d, (sfCells f d).set j val = sfCells f' d) (hd : f'.data = f.data) (hg : w.heap.size + 3 ≤ g) (hbg : bo ≠ g) :
  EdB w s v bs e d (V.setCell ⟨g, k * 11 + j, none⟩ val) ∧ BkAt (V.setCell ⟨g, k * 11 + j, none⟩ val) bo 34 cs ∧ HalfU (w.heap.size + 3) (V.setCell ⟨g, k * 11 + j, none⟩ val) (M.set k f') (.slice (some ⟨g, 0, none⟩) n c) bu := by
 obtain ⟨h1, h2⟩ := hH.put1 hn hf hj hv hd
 exact ⟨hB.set ho h2 (fun q hq => by have := Option.some.inj hq; omega), hb.grown h2 (fun e => hbg (Option.some.inj e)), h1⟩
structure EdY (w : World) (s : Sn) (v : Value) (bs : List Nat) (e : Ed) (d : Value) (br : Nat) (v2 : Value) (g i : Nat) (f : Sf) (d1 : Value) (b1 : List Nat) (W : World) : Prop where
 o : EdB w s v bs e d W
 r : BkAt W br 34 #[.int .i64 0, .int .i64 0, .int .i64 0, v2]
 c : C11 W g (i * 11) f d1
 rf : repSf.R W f (sfCells f d1) b1
theorem EdY.call {w : World} {s : Sn} {v : Value} {bs : List Nat} {e : Ed} {d : Value} {br : Nat} {v2 : Value} {g i : Nat} {f : Sf} {d1 : Value} {b1 : List Nat} {W W' : World} (h : EdY w s v bs e d br v2 g i f d1 b1 W) (hb : Below W.heap.size W W') : EdY w s v bs e d br v2 g i f d1 b1 W' := ⟨h.o.call hb, h.r.call hb, h.c.call hb, Rep.call h.rf hb⟩
theorem EdY.set {w : World} {s : Sn} {v : Value} {bs : List Nat} {e : Ed} {d : Value} {br : Nat} {v2 : Value} {g i : Nat} {f : Sf} {d1 : Value} {b1 : List Nat} {W W' : World} {row : Option Nat} (h : EdY w s v bs e d br v2 g i f d1 b1 W) (ho : (∀ b ∈ bs, b < w.heap.size) ∧ ∀ q, d.ownBlock = some q → q < w.heap.size) (hg : W.grownBy W' row) (hk : ∀ k, row = some k → w.heap.size + 3 ≤ k ∧ k ≠ br ∧ k ≠ g ∧ k ∉ b1) : EdY w s v bs e d br v2 g i f d1 b1 W' :=
 ⟨h.o.set ho hg (fun k e => (hk k e).1), h.r.grown hg (fun e => (hk _ e.symm).2.1 rfl), h.c.kept fun q e hl => hg.block q hl fun e2 => (hk q e2.symm).2.2.1 e, Rep.chg h.rf (Chg.of_grown hg) fun b hb e => (hk b (by simpa using e)).2.2.2 hb⟩
theorem edNew_rep {W : World} {e : Ed} {A : Option Addr} {c B : Nat} (h : W.ownsRow B 3 1 (.slice A e.data.length c) e.data.length (intCells e.data)) : repInts.R W e.data [.slice A e.data.length c] (Value.slice A e.data.length c).ownBlock.toList := ⟨_, rfl, own_rebase h (fun _ _ => Nat.zero_le _), rfl⟩
end Go.Proofs.YtdgagooldlnpeaaGreat
namespace Go.Proofs.YtdgagooldlnpeaaGreat
open Go.RowKit
def orWn (W H : Nat) (o : Int) : Nat := if o % 2 = 1 then H else W
def orHn (W H : Nat) (o : Int) : Nat := if o % 2 = 1 then W else H
theorem orW_nat (W H : Nat) (o : Int) : orW W H o = (orWn W H o : Int) := by unfold orW orWn; split <;> rfl
theorem orH_nat (W H : Nat) (o : Int) : orH W H o = (orHn W H o : Int) := by unfold orH orHn; split <;> rfl
theorem or_area (W H : Nat) (o : Int) : orWn W H o * orHn W H o = W * H := by
 unfold orWn orHn; split
 ·rw [Nat.mul_comm]
 ·rfl
theorem or_small {W H : Nat} (o : Int) (h : 1 ≤ W ∧ W ≤ 16 ∧ 1 ≤ H ∧ H ≤ 16) : 1 ≤ orWn W H o ∧ orWn W H o ≤ 16 ∧ 1 ≤ orHn W H o ∧ orHn W H o ≤ 16 := by
 unfold orWn orHn; split <;> omega
theorem orW_undo {o : Int} (h : orOk o) (W H : Nat) : orWn (orWn W H o) (orHn W H o) (undoO o) = W ∧ orHn (orWn W H o) (orHn W H o) (undoO o) = H := by
 rcases h.cases with rfl | rfl | rfl | rfl | rfl | rfl | rfl | rfl <;> exact ⟨rfl, rfl⟩
def ptN (W H x y : Nat) : Pp := ⟨W, H, x, y⟩
theorem ptN_ok {W H x y : Nat} (h : 1 ≤ W ∧ W ≤ 16 ∧ 1 ≤ H ∧ H ≤ 16) (hx : x < W) (hy : y < H) : (ptN W H x y).ok := by
 unfold ptN Pp.ok; dsimp only; omega
theorem or_pt {W H x y : Nat} {o : Int} (h : 1 ≤ W ∧ W ≤ 16 ∧ 1 ≤ H ∧ H ≤ 16) (ho : orOk o) (hx : x < W) (hy : y < H) :
  ∃ a b : Nat, Pp.ori o (ptN W H x y) = ptN (orWn W H o) (orHn W H o) a b ∧ a < orWn W H o ∧ b < orHn W H o := by
 have hk := Pp.ori_ok o (ptN_ok h hx hy)
 have e1 := ori_w ho (ptN W H x y)
 have e2 := ori_h ho (ptN W H x y)
 rw [show (ptN W H x y).w = (W : Int) from rfl, show (ptN W H x y).h = (H : Int) from rfl, orW_nat] at e1
 rw [show (ptN W H x y).w = (W : Int) from rfl, show (ptN W H x y).h = (H : Int) from rfl, orH_nat] at e2
 rcases hq : Pp.ori o (ptN W H x y) with ⟨w', h', x', y'⟩
 rw [hq] at hk e1 e2
 unfold Pp.ok at hk
 dsimp only at hk e1 e2
 subst e1 e2
 refine ⟨x'.toNat, y'.toNat, ?_, by omega, by omega⟩
 unfold ptN
 rw [show ((x'.toNat : Nat) : Int) = x' by omega, show ((y'.toNat : Nat) : Int) = y' by omega]
def plcN (W H : Nat) (o : Int) (x y : Nat) : Nat := (Pp.ori o (ptN W H x y)).y.toNat * orWn W H o + (Pp.ori o (ptN W H x y)).x.toNat
def srcN (W H : Nat) (o : Int) (j : Nat) : Nat :=
 (Pp.ori (undoO o) (ptN (orWn W H o) (orHn W H o) (j % orWn W H o) (j / orWn W H o))).y.toNat * W + (Pp.ori (undoO o) (ptN (orWn W H o) (orHn W H o) (j % orWn W H o) (j / orWn W H o))).x.toNat
theorem plc_is {W H x y a b : Nat} {o : Int} (h : Pp.ori o (ptN W H x y) = ptN (orWn W H o) (orHn W H o) a b) : plcN W H o x y = b * orWn W H o + a := by
 unfold plcN; rw [h]; simp [ptN]
theorem idx_div {W x y : Nat} (hx : x < W) : (y * W + x) / W = y ∧ (y * W + x) % W = x := by
 constructor
 ·rw [Nat.add_comm, Nat.add_mul_div_right _ _ (by omega), Nat.div_eq_of_lt hx]; omega
 ·rw [Nat.add_comm, Nat.add_mul_mod_self_right, Nat.mod_eq_of_lt hx]
theorem src_is {W H j : Nat} {o : Int} (h : 1 ≤ W ∧ W ≤ 16 ∧ 1 ≤ H ∧ H ≤ 16) (ho : orOk o) (hj : j < W * H) :
  ∃ c d : Nat, Pp.ori (undoO o) (ptN (orWn W H o) (orHn W H o) (j % orWn W H o) (j / orWn W H o)) = ptN W H c d ∧ c < W ∧ d < H ∧ srcN W H o j = d * W + c := by
 have hs := or_small o h
 rw [← or_area W H o] at hj
 obtain ⟨c, d, e, hc, hd⟩ := or_pt (x := j % orWn W H o) (y := j / orWn W H o) hs (undoO_ok ho) (Nat.mod_lt _ (by omega)) (plc_row hj)
 rw [(orW_undo ho W H).1] at e hc
 rw [(orW_undo ho W H).2] at e hd
 refine ⟨c, d, e, hc, hd, ?_⟩
 unfold srcN; rw [e]; simp [ptN]
theorem pt_inj {W H x y a b : Nat} (h : ptN W H x y = ptN W H a b) : x = a ∧ y = b := by
 unfold ptN at h; injection h with _ _ h1 h2; omega
theorem src_iff {W H j x y : Nat} {o : Int} (h : 1 ≤ W ∧ W ≤ 16 ∧ 1 ≤ H ∧ H ≤ 16) (ho : orOk o) (hj : j < W * H) (hx : x < W) (hy : y < H) : srcN W H o j = y * W + x ↔ j = plcN W H o x y := by
 obtain ⟨c, d, e, hc, hd, hs⟩ := src_is h ho hj
 obtain ⟨a, b, e2, ha, hb⟩ := or_pt (x := x) (y := y) h ho hx hy
 rw [hs, plc_is e2]
 constructor
 ·intro h1
  have q1 := idx_div (y := d) hc
  have q2 := idx_div (y := y) hx
  rw [h1] at q1
  obtain rfl : d = y := q1.1.symm.trans q2.1
  obtain rfl : c = x := q1.2.symm.trans q2.2
  rw [← e, undo_undo ho] at e2
  obtain ⟨r1, r2⟩ := pt_inj e2
  rw [← r1, ← r2]
  exact (plc_eq j _).symm
 ·rintro rfl
  have q := idx_div (y := b) ha
  rw [q.1, q.2, ← e2, ori_undo ho] at e
  obtain ⟨r1, r2⟩ := pt_inj e
  rw [r1, r2]
theorem src_lt {W H j : Nat} {o : Int} (h : 1 ≤ W ∧ W ≤ 16 ∧ 1 ≤ H ∧ H ≤ 16) (ho : orOk o) (hj : j < W * H) : srcN W H o j < W * H := by
 obtain ⟨c, d, e, hc, hd, hs⟩ := src_is h ho hj
 rw [hs]; exact plc_lt hc hd
def orF (W H : Nat) (L : List Int) (o : Int) (k : Nat) : Nat → Int := fun j => if srcN W H o j < k then L.getD (srcN W H o j) 0 else 0
def orL (W H : Nat) (L : List Int) (o : Int) : List Int := tabI (W * H) (fun j => L.getD (srcN W H o j) 0)
theorem orF_end {W H : Nat} {L : List Int} {o : Int} (h : 1 ≤ W ∧ W ≤ 16 ∧ 1 ≤ H ∧ H ≤ 16) (ho : orOk o) : tabI (W * H) (orF W H L o (H * W)) = orL W H L o :=
 tabI_congr _ fun j hj => by unfold orF; rw [if_pos (by rw [Nat.mul_comm H W]; exact src_lt h ho hj)]
theorem orF_set {W H x y : Nat} {L : List Int} {o z : Int} (h : 1 ≤ W ∧ W ≤ 16 ∧ 1 ≤ H ∧ H ≤ 16) (ho : orOk o) (hx : x < W) (hy : y < H) (hz : L.getD (y * W + x) 0 = z) :
  (tabI (W * H) (orF W H L o (y * W + x))).set (plcN W H o x y) z = tabI (W * H) (orF W H L o (y * W + (x + 1))) := by
 rw [tabI_set]
 refine tabI_congr _ fun j hj => ?_
 have e := src_iff h ho hj hx hy
 unfold orF
 by_cases h1 : j = plcN W H o x y
 ·rw [if_pos h1, if_pos (by have := e.2 h1; omega), e.2 h1, hz]
 ·rw [if_neg h1]
  have h2 : srcN W H o j ≠ y * W + x := fun h => h1 (e.1 h)
  by_cases h3 : srcN W H o j < y * W + x
  ·rw [if_pos h3, if_pos (by omega)]
  ·rw [if_neg h3, if_neg (by omega)]
open Classical in
noncomputable def orIm (X Y : Int) (L : List Int) (o : Int) : Im := if imOk X Y L ∧ orOk o then ⟨orW X Y o, orH X Y o, orL X.toNat Y.toNat L o⟩ else zeroIm
theorem orIm_yes {W H : Nat} {L : List Int} {o : Int} (h1 : imOk W H L) (h2 : orOk o) : orIm W H L o = ⟨orWn W H o, orHn W H o, orL W H L o⟩ := by
 unfold orIm; rw [if_pos ⟨h1, h2⟩, orW_nat, orH_nat, Int.toNat_natCast, Int.toNat_natCast]
theorem orIm_no {X Y : Int} {L : List Int} {o : Int} (h : ¬ (imOk X Y L ∧ orOk o)) : orIm X Y L o = zeroIm := if_neg h
theorem orL_length (W H : Nat) (L : List Int) (o : Int) : (orL W H L o).length = W * H := tabI_length _ _
theorem orL_ok {W H : Nat} {L : List Int} {o : Int} (h : imOk W H L) (ho : orOk o) : imOk (orWn W H o) (orHn W H o) (orL W H L o) := by
 have h2 := h
 obtain ⟨W', H', e1, e2, wl, wh, hl, hh, hL⟩ := im_nat h2
 obtain rfl : W = W' := by exact_mod_cast e1
 obtain rfl : H = H' := by exact_mod_cast e2
 have hs := or_small o ⟨wl, wh, hl, hh⟩
 refine ⟨by unfold szOk; omega, ?_, fun k x hx => ?_⟩
 ·rw [orL_length, ← or_area W H o]; push_cast; rfl
 ·have hk : k < W * H := by have := (List.getElem?_eq_some_iff.1 hx).1; rwa [orL_length] at this
  unfold orL at hx
  rw [tabI_get _ _ k hk] at hx
  injection hx with hx
  have hs2 := src_lt (o := o) ⟨wl, wh, hl, hh⟩ ho hk
  rw [← hx, List.getD_eq_getElem?_getD, List.getElem?_eq_getElem (by omega)]
  exact h.2.2 _ _ (List.getElem?_eq_getElem (by omega))
structure OrA (w : World) (X Y : Int) (v : Value) (L : List Int) (W : World) : Prop where
 a : ImAt W w.heap.size 55 X Y v
 r : ImAt W (w.heap.size + 1) 55 0 0 (.slice none 0 0)
 rd : RdI W v L
 bw : Below w.heap.size w W
theorem OrA.call {w : World} {X Y : Int} {v : Value} {L : List Int} {W W' : World} (h : OrA w X Y v L W) (k : Below W.heap.size W W') : OrA w X Y v L W' := ⟨h.a.call k, h.r.call k, h.rd.call k, h.bw.trans (k.mono h.bw.size)⟩
end Go.Proofs.YtdgagooldlnpeaaGreat
namespace Go.Proofs.YtdgagooldlnpeaaGreat
open Go.RowKit
theorem own_at_put {w : World} {B gq n cap j : Nat} {e : TypeId} {L : List Int} (h : w.ownsRow B e 1 (.slice (some ⟨gq, 0, none⟩) n cap) n (intCells L)) (hj : j < n) (hl : L.length = n) : w.cell? ⟨gq, j, none⟩ = some (.int .i64 (L.getD j 0)) ∧ w.frozen? ⟨gq, j, none⟩ = false := by
 refine ⟨?_, h.frozenAt j⟩
 have h2 := h.cellAt j (by omega)
 rw [h2, intCells_get, List.getD_eq_getElem?_getD, List.getElem?_eq_getElem (by omega)]
 rfl
theorem grown_dr (w : World) (row : Option Nat) : w.grownBy w.drew row := ⟨rfl, rfl, rfl, Nat.le_refl _, fun _ _ _ => rfl⟩
structure OrS (w : World) (W H gi n c P Q bo gq k : Nat) (z : Int) (V : World) : Prop where
 a : ImAt V w.heap.size 55 W H (.slice (some ⟨gi, 0, none⟩) n c)
 o : ImAt V bo 55 P Q (.slice (some ⟨gq, 0, none⟩) n n)
 z : V.cell? ⟨gi, k, none⟩ = some (.int .i64 z)
theorem OrS.drew {w : World} {W H gi n c P Q bo gq k : Nat} {z : Int} {V : World} (h : OrS w W H gi n c P Q bo gq k z V) : OrS w W H gi n c P Q bo gq k z V.drew := ⟨h.a, h.o, h.z⟩
theorem OrS.set {w : World} {W H gi n c P Q bo gq k : Nat} {z : Int} {V V' : World} (h : OrS w W H gi n c P Q bo gq k z V) (hn : w.heap.size ≠ gq ∧ bo ≠ gq ∧ gi ≠ gq) (hg : V.grownBy V' (some gq)) : OrS w W H gi n c P Q bo gq k z V' :=
 ⟨h.a.grown hg (fun e => hn.1 (Option.some.inj e)), h.o.grown hg (fun e => hn.2.1 (Option.some.inj e)), cell_grown h.z hg (fun e => hn.2.2 (Option.some.inj e))⟩
set_option maxHeartbeats 2000000 in
set_option maxRecDepth 10000 in
theorem ordS_ok (W H : Nat) (v : Value) (L : List Int) (o : Int) (w : World) (h1 : imOk W H L) (ho : orOk o) (hv : RdI w v L) :
  Calls Tryz.prog 174 #[.agg #[.int .i64 W, .int .i64 H, v], .int .i64 o] w (AnsIm (orIm W H L o) w) := by
 have HA := Lib.hid (orIm_yes h1 ho)
 obtain ⟨W2, H2, e1, e2, wl, wh, hl, hh, hL⟩ := im_nat h1
 obtain rfl : W = W2 := by exact_mod_cast e1
 obtain rfl : H = H2 := by exact_mod_cast e2
 have hsm : 1 ≤ W ∧ W ≤ 16 ∧ 1 ≤ H ∧ H ≤ 16 := ⟨wl, wh, hl, hh⟩
 have hor := or_small o hsm
 have har := or_area W H o
 have SZ := fun W0 => osS W H o W0
 unfold TwoAns at SZ
 rw [os_yes (by unfold szOk; omega) ho, orW_nat, orH_nat] at SZ
 dsimp only at SZ
 obtain ⟨P, hP⟩ : ∃ P, P = orWn W H o := ⟨_, rfl⟩
 obtain ⟨Q, hQ⟩ : ∃ Q, Q = orHn W H o := ⟨_, rfl⟩
 obtain ⟨n, hn⟩ : ∃ n, n = W * H := ⟨_, rfl⟩
 rw [← hP, ← hQ] at hor har SZ
 rw [← hn] at har hL
 have n2 : n ≤ 256 := by rw [hn]; exact mul_256 wh hh
 have n1 : 1 ≤ n := by rw [hn]; exact Nat.mul_pos wl hl
 have e0 : (P : Int) * (Q : Int) = (n : Int) := by rw [← har]; simp
 obtain ⟨P1, P2, Q1, Q2⟩ := hor
 obtain ⟨A, c, rfl⟩ := hv.form
 rw [hL] at hv ⊢
 obtain ⟨gi, z0, hA, _, hc0⟩ := hv.at_ (k := 0) (by omega)
 have hgi : gi < w.heap.size := World.block_lt_of_cell? w _ hc0
 subst hA
 have hS : OrA w W H (.slice (some ⟨gi, 0, none⟩) n c) L ((w.alloc (.cells #[.int .i64 W, .int .i64 H, .slice (some ⟨gi, 0, none⟩) n c] 55)).alloc (.cells #[.int .i64 0, .int .i64 0, .slice none 0 0] 55)) :=
  ⟨(ImAt.new _ _ _ _ _).alloc _, ImAt.newAt (by simp) _ _ _ _, (hv.alloc _).alloc _, belI_call (belI_box _ _) (belI_box _ _)⟩
 have HZ := Lib.hid SZ
 have HP := Lib.hid hP
 have HQ := Lib.hid hQ
 have HL := Lib.hid hL
 have HM := Lib.hid hn
 have Ho := Lib.hid ho
 have Hi := Lib.hid h1
 have HG := Lib.hid hgi
 obtain ⟨o1, o2⟩ := ho
 clear SZ hP hQ hL hn h1 hv hc0 har hgi
 obtain ⟨a0, a1, a2⟩ := hS.a.cells
 go_enter Tryz.func174, Tryz.ntmps174
 go_wp2_with fail
 refine (imS W H _ L _ hS.rd).mono ?_
 rintro e w2 ⟨rfl, hb⟩
 replace hS := hS.call hb
 clear hb a0 a1 a2
 rw [imB_yes Hi.out]
 go_wp2_with fail
 refine (inS_yes o 0 7 _ (by omega) (by omega)).mono ?_
 rintro e w' ⟨rfl, rfl⟩
 obtain ⟨a0, a1, a2⟩ := hS.a.cells
 go_wp2_with fail
 refine (HZ.out _).mono ?_
 rintro e w3 ⟨rfl, hb⟩
 replace hS := hS.call hb
 clear hb a0 a1 a2
 have hmk := fun W0 => run_make_row' (P := Tryz.prog) 53 3 (.int .i64 0) 8 Tryz.underlying53 infoInt rfl .i64 .i64 n (by omega) (by omega) W0
 obtain ⟨gq, hgq⟩ : ∃ g, g = w3.heap.size := ⟨_, rfl⟩
 have hown : (w3.alloc (.cells (madeCells #[.int .i64 0] n) 3)).ownsRow gq 3 1 (.slice (some ⟨gq, 0, none⟩) n n) n (intCells (tabI n (orF W H L o 0))) := by
  subst hgq
  exact own_of_rowIs (World.rowIs_made _ _ _ _) (Nat.le_refl _) (by unfold maxLen; omega) (tabI_length _ _) (fun j x hx => by
   have hj : j < n := by have := (List.getElem?_eq_some_iff.1 hx).1; rwa [tabI_length] at this
   rw [tabI_get n _ j hj] at hx
   injection hx with hx
   rw [← hx]; unfold orF; rw [if_neg (by omega)])
 obtain ⟨bo, hbo⟩ : ∃ b, b = w3.heap.size + 1 := ⟨_, rfl⟩
 obtain ⟨V0, hV0⟩ : ∃ V, V = (w3.alloc (.cells (madeCells #[.int .i64 0] n) 3)).alloc (.cells #[.int .i64 P, .int .i64 Q, .slice (some ⟨w3.heap.size, 0, none⟩) n n] 55) := ⟨_, rfl⟩
 have hsz := hS.r.lt
 have hO : ImAt V0 bo 55 P Q (.slice (some ⟨gq, 0, none⟩) n n) := by rw [hV0, hgq, hbo]; exact ImAt.newAt (by simp) _ _ _ _
 have HB := Lib.hid (show w.heap.size ≠ gq ∧ bo ≠ gq ∧ gi ≠ gq ∧ w.heap.size + 1 < gq from by have := HG.out; omega)
 have HV := Lib.hid hV0
 have Hb := Lib.hid hbo
 have Hq := Lib.hid hgq
 replace hown := hown.alloc (.cells #[.int .i64 P, .int .i64 Q, .slice (some ⟨w3.heap.size, 0, none⟩) n n] 55)
 replace hS := (hS.call (belI_box w3 (.cells (madeCells #[.int .i64 0] n) 3))).call (belI_box _ (.cells #[.int .i64 P, .int .i64 Q, .slice (some ⟨w3.heap.size, 0, none⟩) n n] 55))
 rw [← hV0] at hown hS
 have Hown := Lib.hid hown
 have HS := Lib.hid hS
 have HO := Lib.hid hO
 have Hgr : Hid (V0.grownBy V0 (some gq)) := Lib.hid (World.grownBy.refl _ _)
 clear hV0 hbo hgq hown hS hO hsz
 go_wp2_with fail
 rw [← HV.out, ← Hb.out]
 clear hmk
 go_loopg [8] H (fun g8 s8 wr => ∃ (y : Nat) (V : World), V = wr ∧ y ≤ H ∧ g8 = H - y ∧ s8 = .int .i64 y ∧ Hid (V.ownsRow gq 3 1 (.slice (some ⟨gq, 0, none⟩) n n) n (intCells (tabI n (orF W H L o (y * W + 0))))) ∧ Hid (V0.grownBy V (some gq)))
 case atStart => exact ⟨0, _, rfl, Nat.zero_le _, by omega, rfl, by rw [Nat.zero_mul]; exact Hown, Hgr⟩
 case round =>
  clear Hown Hgr
  obtain ⟨y, wy, hV, hy2, rfl, rfl, Hown, Hgr⟩ := hrel
  subst hV
  obtain ⟨a0, a1, a2⟩ := (HS.out.a.grown Hgr.out (fun e => HB.out.1 (Option.some.inj e))).cells
  by_cases hyl : y < H
  ·have hyi : (y : Int) < (H : Int) := by omega
   go_wp2_with fail
   go_loopg [9] W (fun g9 s9 wz => ∃ (x : Nat) (V : World), V = wz ∧ x ≤ W ∧ g9 = W - x ∧ s9 = .int .i64 x ∧ Hid (V.ownsRow gq 3 1 (.slice (some ⟨gq, 0, none⟩) n n) n (intCells (tabI n (orF W H L o (y * W + x))))) ∧ Hid (V0.grownBy V (some gq)))
   case atStart => exact ⟨0, _, rfl, Nat.zero_le _, by omega, rfl, Hown, Hgr⟩
   case round =>
    clear Hown Hgr a0 a1 a2
    obtain ⟨x, wx, hV, hx2, rfl, rfl, Hown, Hgr⟩ := hrel
    subst hV
    obtain ⟨a0, a1, a2⟩ := (HS.out.a.grown Hgr.out (fun e => HB.out.1 (Option.some.inj e))).cells
    by_cases hxl : x < W
    ·have hxi : (x : Int) < (W : Int) := by omega
     obtain ⟨a, b, e, ha, hb⟩ := or_pt (x := x) (y := y) ⟨wl, wh, hl, hh⟩ Ho.out hxl hyl
     have R := fun W0 => opS W H o x y W0
     have hpl := plc_is e
     unfold TwoAns at R
     rw [op_yes Ho.out (ptN_ok ⟨wl, wh, hl, hh⟩ hxl hyl), show Pp.ori o ⟨W, H, x, y⟩ = _ from e] at R
     dsimp only [ptN] at R
     rw [← HP.out] at ha
     rw [← HQ.out] at hb
     have HR := Lib.hid R
     have HE := Lib.hid hpl
     clear R e hpl
     go_wp2_with fail
     refine (HR.out _).mono ?_
     rintro e wv ⟨rfl, hbv⟩
     have hOw := ownI_call Hown.out hbv
     have Hgr2 := Lib.hid (grown_below Hgr.out hbv)
     obtain ⟨m, hm⟩ : ∃ m, m = y * W := ⟨_, rfl⟩
     obtain ⟨mb, hmb⟩ : ∃ m, m = b * P := ⟨_, rfl⟩
     have l1 : m + x < n := by rw [hm, HM.out]; exact plc_lt hxl hyl
     have l2 : mb + a < n := by rw [hmb, HM.out, ← or_area W H o, ← HP.out, ← HQ.out]; exact plc_lt ha hb
     obtain ⟨g1, z, hg1, hz, hc⟩ := (HS.out.rd.grown Hgr2.out (fun g hg e => HB.out.2.2.1 (by injection hg with hg; injection e with e; exact hg.trans e))).at_ (k := m + x) (by rw [HL.out]; exact l1)
     injection hg1 with hg1
     injection hg1 with hg1
     subst hg1
     have HM3 : Hid (L.getD (m + x) 0 = z) := Lib.hid (by rw [List.getD_eq_getElem?_getD, hz]; rfl)
     have HM2 : Hid ((m = y * W ∧ mb = b * P) ∧ plcN W H o x y = b * orWn W H o + a) := Lib.hid ⟨⟨hm, hmb⟩, HE.out⟩
     have q1 : IntKind.i64.wrap ((y : Int) * (W : Int)) = (m : Int) := by rw [hm, wrap_in _ (by omega) (by omega)]; simp
     have q2 : IntKind.i64.wrap ((b : Int) * (P : Int)) = (mb : Int) := by rw [hmb, wrap_in _ (by omega) (by omega)]; simp
     have q3 := wrap_in ((m : Int) + (x : Int)) (by omega) (by omega)
     have q4 := wrap_in ((mb : Int) + (a : Int)) (by omega) (by omega)
     have t1 : ((m : Int) + (x : Int)).toNat = m + x := by omega
     have t2 : ((mb : Int) + (a : Int)).toNat = mb + a := by omega
     have u1 : (m : Int) + (x : Int) < (n : Int) := by omega
     have u2 : (mb : Int) + (a : Int) < (n : Int) := by omega
     have v1 : (0 : Int) ≤ (m : Int) + (x : Int) := by omega
     have v2 : (0 : Int) ≤ (mb : Int) + (a : Int) := by omega
     have hT : OrS w W H gi n c P Q bo gq (m + x) z wv := ⟨HS.out.a.grown Hgr2.out (fun e => HB.out.1 (Option.some.inj e)), HO.out.grown Hgr2.out (fun e => HB.out.2.1 (Option.some.inj e)), hc⟩
     have hsep : w.heap.size ≠ gq ∧ bo ≠ gq ∧ gi ≠ gq := ⟨HB.out.1, HB.out.2.1, HB.out.2.2.1⟩
     clear hbv hm hmb hz hc a0 a1 a2
     go_upto_region 12 with fail
     refine wp_region_held_drew (S := fun V => OrS w W H gi n c P Q bo gq (m + x) z V) (by kernel_rfl) hT.drew (fun hS => ?_)
     replace hOw := show World.ownsRow wv.drew _ _ _ _ _ _ from hOw
     have cS := (own_at_put hOw (j := mb + a) (by omega) (tabI_length _ _)).1
     have fS := (own_at_put hOw (j := mb + a) (by omega) (tabI_length _ _)).2
     refine tcH (i := 0) (v := .pointer (some ⟨bo, 2, none⟩)) rfl (by intro w' hSw; (try dsimp only at hSw); (obtain ⟨a0, a1, a2⟩ := hSw.a.cells); (obtain ⟨o0, o1, o2⟩ := hSw.o.cells); (have zc := hSw.z); go_simp) ?_
     refine tcH (i := 1) (v := .slice (some ⟨gq, 0, none⟩) n n) rfl (by intro w' hSw; (try dsimp only at hSw); (obtain ⟨a0, a1, a2⟩ := hSw.a.cells); (obtain ⟨o0, o1, o2⟩ := hSw.o.cells); (have zc := hSw.z); go_simp) ?_
     refine tcH (i := 2) (v := .int .i64 (b : Int)) rfl (by intro w' hSw; (try dsimp only at hSw); (obtain ⟨a0, a1, a2⟩ := hSw.a.cells); (obtain ⟨o0, o1, o2⟩ := hSw.o.cells); (have zc := hSw.z); go_simp) ?_
     refine tcH (i := 3) (v := .int .i64 (P : Int)) rfl (by intro w' hSw; (try dsimp only at hSw); (obtain ⟨a0, a1, a2⟩ := hSw.a.cells); (obtain ⟨o0, o1, o2⟩ := hSw.o.cells); (have zc := hSw.z); go_simp) ?_
     refine tcH (i := 4) (v := .int .i64 (mb : Int)) rfl (by intro w' hSw; (try dsimp only at hSw); (obtain ⟨a0, a1, a2⟩ := hSw.a.cells); (obtain ⟨o0, o1, o2⟩ := hSw.o.cells); (have zc := hSw.z); go_simp) ?_
     refine tcH (i := 5) (v := .int .i64 (a : Int)) rfl (by intro w' hSw; (try dsimp only at hSw); (obtain ⟨a0, a1, a2⟩ := hSw.a.cells); (obtain ⟨o0, o1, o2⟩ := hSw.o.cells); (have zc := hSw.z); go_simp) ?_
     refine tcH (i := 6) (v := .int .i64 ((mb : Int) + (a : Int))) rfl (by intro w' hSw; (try dsimp only at hSw); (obtain ⟨a0, a1, a2⟩ := hSw.a.cells); (obtain ⟨o0, o1, o2⟩ := hSw.o.cells); (have zc := hSw.z); go_simp) ?_
     refine tcH (i := 7) (v := .pointer (some ⟨w.heap.size, 2, none⟩)) rfl (by intro w' hSw; (try dsimp only at hSw); (obtain ⟨a0, a1, a2⟩ := hSw.a.cells); (obtain ⟨o0, o1, o2⟩ := hSw.o.cells); (have zc := hSw.z); go_simp) ?_
     refine tcH (i := 8) (v := .slice (some ⟨gi, 0, none⟩) n c) rfl (by intro w' hSw; (try dsimp only at hSw); (obtain ⟨a0, a1, a2⟩ := hSw.a.cells); (obtain ⟨o0, o1, o2⟩ := hSw.o.cells); (have zc := hSw.z); go_simp) ?_
     refine tcH (i := 9) (v := .int .i64 (y : Int)) rfl (by intro w' hSw; (try dsimp only at hSw); (obtain ⟨a0, a1, a2⟩ := hSw.a.cells); (obtain ⟨o0, o1, o2⟩ := hSw.o.cells); (have zc := hSw.z); go_simp) ?_
     refine tcH (i := 10) (v := .pointer (some ⟨w.heap.size, 0, none⟩)) rfl (by intro w' hSw; (try dsimp only at hSw); (obtain ⟨a0, a1, a2⟩ := hSw.a.cells); (obtain ⟨o0, o1, o2⟩ := hSw.o.cells); (have zc := hSw.z); go_simp) ?_
     refine tcH (i := 11) (v := .int .i64 (W : Int)) rfl (by intro w' hSw; (try dsimp only at hSw); (obtain ⟨a0, a1, a2⟩ := hSw.a.cells); (obtain ⟨o0, o1, o2⟩ := hSw.o.cells); (have zc := hSw.z); go_simp) ?_
     refine tcH (i := 12) (v := .int .i64 (m : Int)) rfl (by intro w' hSw; (try dsimp only at hSw); (obtain ⟨a0, a1, a2⟩ := hSw.a.cells); (obtain ⟨o0, o1, o2⟩ := hSw.o.cells); (have zc := hSw.z); go_simp) ?_
     refine tcH (i := 13) (v := .int .i64 (x : Int)) rfl (by intro w' hSw; (try dsimp only at hSw); (obtain ⟨a0, a1, a2⟩ := hSw.a.cells); (obtain ⟨o0, o1, o2⟩ := hSw.o.cells); (have zc := hSw.z); go_simp) ?_
     refine tcH (i := 14) (v := .int .i64 ((m : Int) + (x : Int))) rfl (by intro w' hSw; (try dsimp only at hSw); (obtain ⟨a0, a1, a2⟩ := hSw.a.cells); (obtain ⟨o0, o1, o2⟩ := hSw.o.cells); (have zc := hSw.z); go_simp) ?_
     refine tcH (i := 15) (v := .pointer (some ⟨gi, m + x, none⟩)) rfl (by intro w' hSw; (try dsimp only at hSw); (obtain ⟨a0, a1, a2⟩ := hSw.a.cells); (obtain ⟨o0, o1, o2⟩ := hSw.o.cells); (have zc := hSw.z); go_simp) ?_
     refine tcH (i := 16) (v := .int .i64 z) rfl (by intro w' hSw; (try dsimp only at hSw); (obtain ⟨a0, a1, a2⟩ := hSw.a.cells); (obtain ⟨o0, o1, o2⟩ := hSw.o.cells); (have zc := hSw.z); go_simp) ?_
     refine tcH (i := 17) (v := .pointer (some ⟨gq, mb + a, none⟩)) rfl (by intro w' hSw; (try dsimp only at hSw); (obtain ⟨a0, a1, a2⟩ := hSw.a.cells); (obtain ⟨o0, o1, o2⟩ := hSw.o.cells); (have zc := hSw.z); go_simp) ?_
     (try simp only [Act.put]); (try simp only [zPa]); (try simp only [zPb, zPc])
     refine wpAnyH_ready (rs := [18]) (by kernel_rfl) (by simp) ?_
     refine (AllReadyH.cons rfl (fun K hK => ?_) AllReadyH.nil)
     ·rw [if_pos (by kernel_rfl)]
      (try simp only [zGa]); (try simp only [zGb]); (try simp only [zGc])
      go_simp
      refine hK.out _ _ (hS.set hsep (grown_setI _ gq (mb + a) _)) (fun hS => ?_)
      clear hK
      (try simp only [Act.put]); (try simp only [zPa]); (try simp only [zPb, zPc])
      refine wpAnyH_done (by kernel_rfl) ?_ _
      go_wp2_with fail
      go_roundg (W - (x + 1))
      case measure => omega
      case rel =>
       have h := (ownI_put hOw (mb + a) z).1
       have hset : (tabI n (orF W H L o (y * W + x))).set (mb + a) z = tabI n (orF W H L o (y * W + (x + 1))) := by
        rw [show mb + a = plcN W H o x y by rw [HM2.out.2, ← HP.out, HM2.out.1.2], HM.out]
        exact orF_set ⟨wl, wh, hl, hh⟩ Ho.out hxl hyl (by rw [← HM2.out.1.1]; exact HM3.out)
       rw [hset] at h
       exact ⟨x + 1, _, rfl, by omega, by omega, by go_num, Lib.hid h, Lib.hid ((Hgr2.out.trans (grown_setI _ gq (mb + a) _)).trans (grown_dr _ _))⟩
    ·obtain rfl : x = W := by omega
     go_wp2_with fail
     go_roundg (H - (y + 1))
     case measure => omega
     case rel => exact ⟨y + 1, _, rfl, by omega, by omega, by go_num, by rw [Nat.add_mul, Nat.one_mul]; exact Hown, Hgr⟩
  ·obtain rfl : y = H := by omega
   have hr := HS.out.r.grown Hgr.out (fun e => by have := HB.out.2.2.2; injection e with e; omega)
   obtain ⟨o0, o1, o2⟩ := (HO.out.grown Hgr.out (fun e => HB.out.2.1 (Option.some.inj e))).cells
   obtain ⟨r0, r1, r2⟩ := hr.cells
   have f0 := hr.frozen 0
   have f1 := hr.frozen 1
   have f2 := hr.frozen 2
   have HJ := Lib.hid (hr.set3 P Q (.slice (some ⟨gq, 0, none⟩) n n))
   have HK := Lib.hid (HS.out.bw.grown Hgr.out HS.out.bw.size (fun k hk => by injection hk with hk; have := HB.out.2.2.2; omega))
   clear hr
   go_wp2_with fail
   obtain ⟨s0, s1, s2⟩ := HJ.out.cells
   exact bodyPost_ret (v := .agg #[.int .i64 P, .int .i64 Q, .slice (some ⟨gq, 0, none⟩) n n]) (by simp [results, Tryz.results174, go_sem, s0, s1, s2]) rfl (by
    rw [HA.out, ← HP.out, ← HQ.out]
    have h := Hown.out
    rw [Nat.add_zero, HM.out, orF_end ⟨wl, wh, hl, hh⟩ Ho.out, ← HM.out] at h
    exact ans_set h (by rw [orL_length, HM.out]) (by omega) HB.out.2.2.2 HK.out)
end Go.Proofs.YtdgagooldlnpeaaGreat
namespace Go.Proofs.YtdgagooldlnpeaaGreat
open Go.RowKit
theorem wp_build1o {op : Oper} {a : Act} {w : World} {K : Act → World → Prop} {Q : Exit → Act → World → Prop} (d : Nat) (x : Operand) (r : Rc) (ho : op.op = .buildSlice 28 1 #[(0, x)]) (hx : a.eval x = .agg #[.int .i64 r.x, .int .i64 r.y, .int .i64 r.w, .int .i64 r.h]) (hd : op.dst = some d)
  (h : ∀ g W', Below w.heap.size w W' → W'.ownsRow w.heap.size 113 4 (.slice (some ⟨g, 0, none⟩) 1 1) 1 (rcsCells [r]) → K (a.put (some d) (.slice (some ⟨g, 0, none⟩) 1 1)) W') : op.wp Tryz.prog a w K Q := by
 have h1 := h w.heap.size (w.alloc (.cells #[.int .i64 r.x, .int .i64 r.y, .int .i64 r.w, .int .i64 r.h] 113)) (belI_box _ _) ⟨rfl, .inr ⟨w.heap.size, 1, _, rfl, Nat.le_refl _, heap_alloc_new w _, Nat.le_refl _, by unfold maxLen; omega, rfl, rfl⟩⟩
 have hz := run_build1 r w
 unfold Oper.wp execOp
 simp only [ho, List.map_toArray, List.map_cons, List.map_nil, hx, Sem.run_bind, hz, Result.andThen_ok, Sem.run_pure]
 rw [← hd] at h1
 exact h1
end Go.Proofs.YtdgagooldlnpeaaGreat
