/- Texts of mine in one file: PnM, OcM, OcI, PnS. No statement is proved here. -/
import Derived.Test.YtdgagooldlnpeaaGreatMA
import Derived.Test.YtdgagooldlnpeaaGreatMB
import Derived.Test.YtdgagooldlnpeaaGreatMC
import Derived.Test.YtdgagooldlnpeaaGreatSfP
import Derived.Test.YtdgagooldlnpeaaGreatSfR
import Derived.Test.YtdgagooldlnpeaaGreatSnS
import Derived.Test.YtdgagooldlnpeaaGreatProg
import Derived.WalkKit
import Derived.ProofKit
import Derived.OpenShut
import Derived.WalkLawsBesides
import Derived.WalkSpells
import Derived.ShutString
import Derived.ChangeOld
import Derived.Below
import Derived.Lib.Hide
import Derived.BigQuiet
import Derived.Deep.QuietTactic
import Derived.Maps.AppendAt
import Derived.Deep.OwnRows
import Derived.Handy
import Derived.Deep.Draws
import Derived.OwnWalk
import Derived.Deep.AppendLies
import Derived.Deep.LoopGhost
import Derived.Deep.Onto
import Derived.Deep.MidRow
import Derived.Deep.WholeRow
import Derived.Laws.BitsAllLaws
import Derived.Lib.QuoteBits
import Derived.Deep.RegionHeld3
import Derived.Deep.DeepCutAuto
import Derived.Test.YtdgagooldlnpeaaGreatShelf
import Derived.Laws.CopyOwn
import Derived.Deep.RegionLaw
import Derived.Great.BuildSlice
import Derived.Laws.AppendOwn
import Derived.ChangeKeysEq
import Derived.Deep.RegionWith
import Derived.Shelf.RegionOpenPlain
import Derived.Lib.SliceRun
import Derived.Deep.DeepAppendRoom
namespace Go.Proofs.YtdgagooldlnpeaaGreat
open Go.RowKit
theorem fade_ok {p al : Int} (hp : pixOk p) (ha : chOk al) : pixOk (fade p al) := by
 unfold fade; rw [if_pos ⟨hp, ha⟩]; exact pack_ok (part_ok (ch_0 hp) ha) (ch_1 p) (ch_2 p) (ch_3 p)
theorem sfSize_scl {f : Sf} (h : sfOk f) : (sfScl f).w = (sfSize f).1 ∧ (sfScl f).h = (sfSize f).2 := by
 obtain ⟨_, _, _, hwh, _, ho, him⟩ := h
 obtain ⟨W, H, e1, e2, wl, wh, hl, hh, hL⟩ := im_nat him
 have him' : imOk (W : Int) (H : Int) f.data := by rw [← e1, ← e2]; exact him
 have ho1 := orIm_yes him' ho
 have hov := orL_ok him' ho
 have hs : szOk (sfSize f).1 (sfSize f).2 := by
  by_cases h0 : f.w = 0
  ·unfold sfSize; rw [if_pos h0, e1, e2, os_yes him'.1 ho, orW_nat, orH_nat]; exact hov.1
  ·unfold sfSize; rw [if_neg h0]; exact hwh.resolve_left fun e => h0 e.1
 unfold sfScl
 rw [e1, e2, ho1]
 dsimp only
 obtain ⟨p, q, ep, eq, _⟩ := sz_nat hs
 rw [ep, eq] at hs ⊢
 rw [rs_yes sclN hov hs]
 exact ⟨rfl, rfl⟩
theorem sfPic_ok {f : Sf} (h : sfOk f) : (sfPic f).w = (sfSize f).1 ∧ (sfPic f).h = (sfSize f).2 ∧ imOk (sfPic f).w (sfPic f).h (sfPic f).d := by
 rw [sfPic_yes h]
 obtain ⟨h1, h2⟩ := sfSize_scl h
 obtain ⟨a, b, c⟩ := (sfScl_ok h).1
 refine ⟨h1, h2, a, by rw [List.length_map]; exact b, fun k x hx => ?_⟩
 rw [List.getElem?_map] at hx
 obtain ⟨y, hy, rfl⟩ := Option.map_eq_some_iff.1 hx
 exact fade_ok (c k y hy) h.2.2.2.2.1
def pnPx (W : Nat) (x y : Int) (P : Im) (k : Nat) : Int := P.d.getD ((((k / W : Nat) : Int) - y) * P.w + (((k % W : Nat) : Int) - x)).toNat 0
theorem has_pic {f : Sf} {x y : Int} (h : hasB (sfRect f) x y = true) : sfOk f ∧ (0 ≤ x - f.x ∧ x - f.x < (sfPic f).w) ∧ (0 ≤ y - f.y ∧ y - f.y < (sfPic f).h) ∧ sfRect f = ⟨f.x, f.y, (sfPic f).w, (sfPic f).h⟩ := by
 by_cases ho : sfOk f ∧ f.vis = true
 ·obtain ⟨e1, e2, _⟩ := sfPic_ok ho.1
  have hr := sfRect_yes ho.1 ho.2
  rw [← e1, ← e2] at hr
  rw [hr] at h
  unfold hasB at h
  have h := (of_decide_eq_true h).2
  dsimp only at h
  exact ⟨ho.1, by omega, by omega, hr⟩
 ·rw [sfRect_no ho] at h
  unfold hasB at h
  have h := (of_decide_eq_true h).2
  dsimp only at h
  omega
def pnS (W : Nat) (g f : Nat → Int) (X Y n y x : Nat) : Nat → Int := fun k =>
 if X ≤ k % W ∧ k % W < X + n ∧ Y ≤ k / W ∧ (k / W < y ∨ k / W = y ∧ k % W < x) then over (g k) (f k) else f k
theorem pnS_start (W : Nat) (g f : Nat → Int) (X Y n k : Nat) : pnS W g f X Y n Y X k = f k := if_neg (by omega)
theorem pnS_row (W : Nat) (g f : Nat → Int) (X Y n y k : Nat) : pnS W g f X Y n y (X + n) k = pnS W g f X Y n (y + 1) X k := by
 unfold pnS
 by_cases h : X ≤ k % W ∧ k % W < X + n ∧ Y ≤ k / W ∧ (k / W < y ∨ k / W = y ∧ k % W < X + n)
 ·rw [if_pos h, if_pos (by omega)]
 ·rw [if_neg h, if_neg (by omega)]
theorem pnS_at (W : Nat) (g f : Nat → Int) (X Y n y x : Nat) (hW : x < W) : pnS W g f X Y n y x (y * W + x) = f (y * W + x) := by
 unfold pnS; rw [plc_div y hW, plc_mod y hW, if_neg (by omega)]
theorem pnS_set (W : Nat) (g f : Nat → Int) (X Y n y x k : Nat) (hW : x < W) (hx : X ≤ x) (hx2 : x < X + n) (hy : Y ≤ y) {v : Int} (hv : v = over (g (y * W + x)) (f (y * W + x))) :
  (if k = y * W + x then v else pnS W g f X Y n y x k) = pnS W g f X Y n y (x + 1) k := by
 by_cases e : k = y * W + x
 ·rw [if_pos e]
  subst e
  unfold pnS
  rw [plc_div y hW, plc_mod y hW, if_pos ⟨hx, hx2, hy, by omega⟩, hv]
 ·rw [if_neg e]
  have e' := mt (plc_iff y k hW).2 e
  unfold pnS
  by_cases h : X ≤ k % W ∧ k % W < X + n ∧ Y ≤ k / W ∧ (k / W < y ∨ k / W = y ∧ k % W < x)
  ·rw [if_pos h, if_pos (by omega)]
  ·rw [if_neg h, if_neg (by omega)]
end Go.Proofs.YtdgagooldlnpeaaGreat
namespace Go.Proofs.YtdgagooldlnpeaaGreat
open Go.RowKit
noncomputable def ocR (W H : Int) (f : Sf) : Rc := isect (sfRect f) ⟨0, 0, W, H⟩
theorem sfRect_ok (f : Sf) : (sfRect f).ok := by
 by_cases h : sfOk f ∧ f.vis = true
 ·obtain ⟨e1, e2, e3⟩ := sfPic_ok h.1
  rw [sfRect_yes h.1 h.2, ← e1, ← e2]
  have h1 := e3.1
  obtain ⟨_, hx, hy, _⟩ := h.1
  unfold szOk at h1
  unfold Rc.ok
  dsimp only
  omega
 ·rw [sfRect_no h]; unfold Rc.ok; dsimp only; omega
structure InScr (W H : Nat) (r : Rc) : Prop where
 n : ∃ X Y w h : Nat, r = ⟨X, Y, w, h⟩ ∧ X + w ≤ W ∧ Y + h ≤ H
theorem scr_ok {W H : Nat} (wl : 1 ≤ W ∧ W ≤ 16) (hl : 1 ≤ H ∧ H ≤ 16) : (⟨0, 0, (W : Int), (H : Int)⟩ : Rc).ok := by unfold Rc.ok; dsimp only; omega
theorem ocR_in {W H : Nat} (wl : 1 ≤ W ∧ W ≤ 16) (hl : 1 ≤ H ∧ H ≤ 16) (f : Sf) : InScr W H (ocR W H f) := by
 have hr := sfRect_ok f
 have hs := scr_ok wl hl
 unfold ocR
 generalize sfRect f = r at hr
 refine ⟨?_⟩
 rcases isect_cases r ⟨0, 0, W, H⟩ hr hs with ⟨h, e⟩ | ⟨h, e⟩
 ·rw [e]; unfold isectRaw; unfold isectIn at h; dsimp only at h ⊢
  refine ⟨(max r.x 0).toNat, (max r.y 0).toNat, (min (r.x + r.w) (0 + W) - max r.x 0).toNat, (min (r.y + r.h) (0 + H) - max r.y 0).toNat, ?_, by omega, by omega⟩
  rw [show (((max r.x 0).toNat : Nat) : Int) = max r.x 0 by omega, show (((max r.y 0).toNat : Nat) : Int) = max r.y 0 by omega, show (((min (r.x + r.w) (0 + W) - max r.x 0).toNat : Nat) : Int) = min (r.x + r.w) (0 + W) - max r.x 0 by omega, show (((min (r.y + r.h) (0 + H) - max r.y 0).toNat : Nat) : Int) = min (r.y + r.h) (0 + H) - max r.y 0 by omega]
 ·rw [e]; exact ⟨0, 0, 0, 0, rfl, by omega, by omega⟩
def inRc (r : Rc) (p q : Nat) : Prop := r.x ≤ p ∧ (p : Int) < r.x + r.w ∧ r.y ≤ q ∧ (q : Int) < r.y + r.h
theorem ocR_has {W H : Nat} (wl : 1 ≤ W ∧ W ≤ 16) (hl : 1 ≤ H ∧ H ≤ 16) (f : Sf) (p q : Nat) : inRc (ocR W H f) p q ↔ (hasB (sfRect f) p q = true ∧ p < W ∧ q < H) := by
 have hr := sfRect_ok f
 have hs := scr_ok wl hl
 unfold ocR inRc
 generalize sfRect f = r at hr
 have hh : hasB r p q = true ↔ (r.x ≤ p ∧ (p : Int) < r.x + r.w ∧ r.y ≤ q ∧ (q : Int) < r.y + r.h) := by
  unfold hasB
  rw [decide_eq_true_iff]
  exact ⟨fun h => h.2, fun h => ⟨hr, h⟩⟩
 rw [hh]
 rcases isect_cases r ⟨0, 0, W, H⟩ hr hs with ⟨h, e⟩ | ⟨h, e⟩
 ·rw [e]; unfold isectRaw; unfold isectIn at h; dsimp only at h ⊢; omega
 ·rw [e]; unfold isectIn at h; dsimp only at h ⊢; omega
theorem InScr.gridOf {W H : Nat} {r : Rc} (h : InScr W H r) (hW : W ≤ 16) (hH : H ≤ 16) (p q : Nat) (hp : p < 16) : gridOf [r] (q * 16 + p) = true ↔ inRc r p q := by
 obtain ⟨X, Y, w, hh, rfl, h1, h2⟩ := h.n
 have e1 : (q * 16 + p) % 16 = p := by omega
 have e2 : (q * 16 + p) / 16 = q := by omega
 rw [gridOf_iff, e1, e2]
 unfold inRc
 constructor
 ·rintro ⟨r, hr, _, h⟩
  obtain rfl := List.mem_singleton.1 hr
  exact h
 ·intro h
  refine ⟨_, List.mem_singleton.2 rfl, ?_, h⟩
  unfold Rc.ok
  dsimp only
  omega
noncomputable def ocF (W : Nat) (f : Sf) (L : List Rc) (D : Nat → Int) : Nat → Int := fun k => if gridOf L (k / W * 16 + k % W) = true then over (pnPx W f.x f.y (sfPic f) k) (D k) else D k
noncomputable def oc1 (W : Nat) (D : List Int) (f : Sf) (L : List Rc) : List Int := tabI D.length (ocF W f L (fun k => D.getD k 0))
def Apart (L : List Rc) : Prop := L.Pairwise fun a b => ∀ p q : Nat, inRc a p q → ¬ inRc b p q
structure PartsOk (W H : Nat) (f : Sf) (L : List Rc) : Prop where
 scr : ∀ r ∈ L, InScr W H r
 pic : ∀ r ∈ L, ∀ p q : Nat, inRc r p q → hasB (sfRect f) p q = true
 ap : Apart L
theorem ocF_nil (W : Nat) (f : Sf) (D : Nat → Int) (k : Nat) : ocF W f [] D k = D k := by unfold ocF; rw [gridOf_nil]; rfl
theorem ocF_next {W H : Nat} (wl : 1 ≤ W ∧ W ≤ 16) (hl : 1 ≤ H ∧ H ≤ 16) {f : Sf} {L : List Rc} (hL : PartsOk W H f L) {D : Nat → Int} {j X Y n h : Nat} (hr : L[j]? = some ⟨X, Y, n, h⟩) (k : Nat) (hk : k < W * H) :
  pnS W (pnPx W f.x f.y (sfPic f)) (ocF W f (L.take j) D) X Y n (Y + h) X k = ocF W f (L.take (j + 1)) D k := by
 have h1 := plc_row hk
 have h2 := Nat.mod_lt k (plc_pos hk)
 have hm := List.mem_of_getElem? hr
 have hi := hL.scr _ hm
 have hg := hi.gridOf wl.2 hl.2 (k % W) (k / W) (by omega)
 have ht : L.take (j + 1) = L.take j ++ [⟨X, Y, n, h⟩] := by rw [List.take_add_one, hr]; rfl
 have hno : inRc ⟨X, Y, n, h⟩ (k % W) (k / W) → gridOf (L.take j) (k / W * 16 + k % W) = false := fun hin => by
  rcases e : gridOf (L.take j) (k / W * 16 + k % W) with _ | _
  ·rfl
  ·rw [gridOf_iff, show (k / W * 16 + k % W) % 16 = k % W by omega, show (k / W * 16 + k % W) / 16 = k / W by omega] at e
   obtain ⟨r, hr2, _, h5⟩ := e
   have hp := hL.ap
   have hs : L = L.take j ++ L.drop j := (List.take_append_drop j L).symm
   unfold Apart at hp
   rw [hs, List.pairwise_append] at hp
   have hd : (⟨X, Y, n, h⟩ : Rc) ∈ L.drop j := List.mem_of_getElem? (i := 0) (by rw [List.getElem?_drop]; exact hr)
   exact absurd hin (hp.2.2 r hr2 _ hd _ _ h5)
 unfold pnS
 by_cases c : inRc ⟨X, Y, n, h⟩ (k % W) (k / W)
 ·have hn := hno c
  have hy : gridOf (L.take (j + 1)) (k / W * 16 + k % W) = true := by rw [ht, gridOf_append, (hg.2 c), Bool.or_true]
  have c' := c
  unfold inRc at c'
  dsimp only at c'
  rw [if_pos (by omega)]
  unfold ocF
  rw [hn, hy]
  rfl
 ·have c' := c
  unfold inRc at c'
  dsimp only at c'
  rw [if_neg (by omega)]
  have hf : gridOf [⟨(X : Int), (Y : Int), (n : Int), (h : Int)⟩] (k / W * 16 + k % W) = false := by
   rcases e : gridOf [⟨(X : Int), (Y : Int), (n : Int), (h : Int)⟩] (k / W * 16 + k % W) with _ | _
   ·rfl
   ·exact absurd (hg.1 e) c
  unfold ocF
  rw [ht, gridOf_append, hf, Bool.or_false]
end Go.Proofs.YtdgagooldlnpeaaGreat
namespace Go.Proofs.YtdgagooldlnpeaaGreat
open Go.RowKit
structure RoS (w : World) (s : Sn) (v : Value) (f : Sf) (d : Value) (V : World) : Prop where
 a : BkAt V w.heap.size 34 #[.int .i64 s.w, .int .i64 s.h, .int .i64 s.back, v]
 b : BkAt V (w.heap.size + 1) 89 #[.int .i64 f.id, .int .i64 f.x, .int .i64 f.y, .int .i64 f.w, .int .i64 f.h, .int .i64 f.alpha, .int .i64 f.orient, .bool f.vis, .int .i64 f.bw, .int .i64 f.bh, d]
 bw : Below w.heap.size w V
theorem RoS.call {w : World} {s : Sn} {v : Value} {f : Sf} {d : Value} {V V' : World} (h : RoS w s v f d V) (hb : Below V.heap.size V V') : RoS w s v f d V' := ⟨h.a.call hb, h.b.call hb, belI_call h.bw hb⟩
theorem RoS.grown {w : World} {s : Sn} {v : Value} {f : Sf} {d : Value} {V V' : World} (h : RoS w s v f d V) (hg : V.grownBy V' (some (w.heap.size + 1 + 1))) : RoS w s v f d V' :=
 ⟨h.a.grown hg (fun e => by have := Option.some.inj e; omega), h.b.grown hg (fun e => by have := Option.some.inj e; omega), (Chg.of_grown hg).below h.bw h.bw.size (fun b hb => by have h0 : b = w.heap.size + 1 + 1 := (by simpa using hb); omega)⟩
set_option maxHeartbeats 1000000 in
set_option maxRecDepth 10000 in
theorem rosI (s : Sn) (v : Value) (hv : ∃ A n c, v = .slice A n c) (f : Sf) (d : Value) (w : World) (hd : RdI w d f.data) : Calls Tryz.prog 115 #[.agg #[.int .i64 s.w, .int .i64 s.h, .int .i64 s.back, v], .agg #[.int .i64 f.id, .int .i64 f.x, .int .i64 f.y, .int .i64 f.w, .int .i64 f.h, .int .i64 f.alpha, .int .i64 f.orient, .bool f.vis, .int .i64 f.bw, .int .i64 f.bh, d]] w (RcAns (ocR s.w s.h f) w) := by
 obtain ⟨Av, nv, cv, rfl⟩ := hv
 obtain ⟨Ad, cd, rfl⟩ := hd.form
 have hS : RoS w s (.slice Av nv cv) f (.slice Ad f.data.length cd) (((w.alloc (.cells #[.int .i64 s.w, .int .i64 s.h, .int .i64 s.back, .slice Av nv cv] 34)).alloc (.cells #[.int .i64 f.id, .int .i64 f.x, .int .i64 f.y, .int .i64 f.w, .int .i64 f.h, .int .i64 f.alpha, .int .i64 f.orient, .bool f.vis, .int .i64 f.bw, .int .i64 f.bh, .slice Ad f.data.length cd] 89)).alloc (.cells #[.int .i64 0, .int .i64 0, .int .i64 0, .int .i64 0] 113)) :=
  ⟨((BkAt.new _ _ _).call (belI_box _ _)).call (belI_box _ _), (BkAt.newAt (by simp) _ _).call (belI_box _ _), belI_call (belI_call (belI_box _ _) (belI_box _ _)) (belI_box _ _)⟩
 have hr : RcAt (((w.alloc (.cells #[.int .i64 s.w, .int .i64 s.h, .int .i64 s.back, .slice Av nv cv] 34)).alloc (.cells #[.int .i64 f.id, .int .i64 f.x, .int .i64 f.y, .int .i64 f.w, .int .i64 f.h, .int .i64 f.alpha, .int .i64 f.orient, .bool f.vis, .int .i64 f.bw, .int .i64 f.bh, .slice Ad f.data.length cd] 89)).alloc (.cells #[.int .i64 0, .int .i64 0, .int .i64 0, .int .i64 0] 113)) (w.heap.size + 1 + 1) ⟨0, 0, 0, 0⟩ := RcAt.newAt (by simp) ⟨0, 0, 0, 0⟩
 obtain ⟨r, hre⟩ : ∃ r, r = sfRect f := ⟨_, rfl⟩
 obtain ⟨q, hq⟩ : ∃ q, q = ocR s.w s.h f := ⟨_, rfl⟩
 have HR := fun W0 (h : RdI W0 (.slice Ad f.data.length cd) f.data) => srI f _ W0 h
 unfold SrAns at HR
 have HQ := fun W0 => isectI_any r ⟨0, 0, s.w, s.h⟩ W0
 rw [← hre] at HR
 have hrq : isect r ⟨0, 0, s.w, s.h⟩ = q := by rw [hq, hre]; rfl
 rw [hrq] at HQ
 rw [← hq]
 unfold RcAns at HR ⊢
 dsimp only at HQ
 have HR := Lib.hid HR
 have HQ := Lib.hid HQ
 replace hd := ((hd.alloc (.cells #[.int .i64 s.w, .int .i64 s.h, .int .i64 s.back, .slice Av nv cv] 34)).alloc (.cells #[.int .i64 f.id, .int .i64 f.x, .int .i64 f.y, .int .i64 f.w, .int .i64 f.h, .int .i64 f.alpha, .int .i64 f.orient, .bool f.vis, .int .i64 f.bw, .int .i64 f.bh, .slice Ad f.data.length cd] 89)).alloc (.cells #[.int .i64 0, .int .i64 0, .int .i64 0, .int .i64 0] 113)
 clear hre hq hrq
 go_enter Tryz.func115, Tryz.ntmps115
 go_upto_region 1 with fail
 refine wp_region_held_drew (S := fun V => RoS w s (.slice Av nv cv) f (.slice Ad f.data.length cd) V) (by kernel_rfl) (hS.call (belI_drew _)) (fun hS => ?_)
 replace hr := hr.below (belI_drew _) hr.lt
 replace hd := hd.drew
 refine tcH (i := 0) (v := .agg #[.int .i64 f.id, .int .i64 f.x, .int .i64 f.y, .int .i64 f.w, .int .i64 f.h, .int .i64 f.alpha, .int .i64 f.orient, .bool f.vis, .int .i64 f.bw, .int .i64 f.bh, .slice Ad f.data.length cd]) rfl (by intro w' hSw; (try dsimp only at hSw); (have e0 := hSw.b.cell 0 rfl); (have e1 := hSw.b.cell 1 rfl); (have e2 := hSw.b.cell 2 rfl); (have e3 := hSw.b.cell 3 rfl); (have e4 := hSw.b.cell 4 rfl); (have e5 := hSw.b.cell 5 rfl); (have e6 := hSw.b.cell 6 rfl); (have e7 := hSw.b.cell 7 rfl); (have e8 := hSw.b.cell 8 rfl); (have e9 := hSw.b.cell 9 rfl); (have e10 := hSw.b.cell 10 rfl); go_simp) ?_
 refine tkH (i := 2) (v := .pointer (some ⟨w.heap.size, 0, none⟩)) rfl ?_
 refine tcH (i := 3) (v := .int .i64 s.w) rfl (by intro w' hSw; (try dsimp only at hSw); (obtain ⟨a0, a1, a2, a3⟩ := hSw.a.cells4); go_simp) ?_
 refine tkH (i := 4) (v := .pointer (some ⟨w.heap.size, 1, none⟩)) rfl ?_
 refine tcH (i := 5) (v := .int .i64 s.h) rfl (by intro w' hSw; (try dsimp only at hSw); (obtain ⟨a0, a1, a2, a3⟩ := hSw.a.cells4); go_simp) ?_
 refine tkH (i := 6) (v := .agg #[.int .i64 0, .int .i64 0, .int .i64 s.w, .int .i64 s.h]) rfl ?_
 (try simp only [Act.put]); (try simp only [zPa]); (try simp only [zPb, zPc])
 refine wpAnyH_ready (rs := [1]) (by kernel_rfl) (by simp) ?_
 refine (AllReadyH.cons rfl (fun K hK => ?_) AllReadyH.nil)
 ·rw [if_pos (by kernel_rfl)]
  (try simp only [zGa]); (try simp only [zGb]); (try simp only [zGc])
  go_simp
  with_reducible refine (HR.out _ hd).mono ?_
  rintro e W' ⟨rfl, hb⟩
  dsimp only
  have hr := hr.below hb hr.lt
  have hd := hd.call hb
  refine hK.out _ _ (hS.call hb) (fun hS => ?_)
  clear hK
  (try simp only [Act.put]); (try simp only [zPa]); (try simp only [zPb, zPc])
  refine wpAnyH_ready (rs := [7]) (by kernel_rfl) (by simp) ?_
  refine (AllReadyH.cons rfl (fun K hK => ?_) AllReadyH.nil)
  ·rw [if_pos (by kernel_rfl)]
   (try simp only [zGa]); (try simp only [zGb]); (try simp only [zGc])
   go_simp
   with_reducible refine (HQ.out _).mono ?_
   rintro e W' ⟨rfl, hb⟩
   dsimp only
   have hr := hr.below hb hr.lt
   have hd := hd.call hb
   refine hK.out _ _ (hS.call hb) (fun hS => ?_)
   clear hK
   (try simp only [Act.put]); (try simp only [zPa]); (try simp only [zPb, zPc])
   refine wpAnyH_ready (rs := [8]) (by kernel_rfl) (by simp) ?_
   refine (AllReadyH.cons rfl (fun K hK => ?_) AllReadyH.nil)
   ·rw [if_pos (by kernel_rfl)]
    (try simp only [zGa]); (try simp only [zGb]); (try simp only [zGc])
    refine wp_store_rc (.tmp 4) (.tmp 12) rfl (w.heap.size + 1 + 1) ⟨0, 0, 0, 0⟩ q rfl (by first | with_reducible rfl | (go_simp; done) | rfl) hr ?_
    intro W3 IB hgB
    skip
    skip
    refine hK.out _ _ (hS.grown hgB) (fun hS => ?_)
    clear hK
    (try simp only [Act.put]); (try simp only [zPa]); (try simp only [zPb, zPc])
    refine wpAnyH_done (by kernel_rfl) ?_ _
    obtain ⟨r0, r1, r2, r3⟩ := IB.cells
    go_wp2_with fail
    exact bodyPost_ret (v := .agg #[.int .i64 q.x, .int .i64 q.y, .int .i64 q.w, .int .i64 q.h]) (by simp [results, Tryz.results115, go_sem, r0, r1, r2, r3]) rfl ⟨rfl, hS.bw⟩
end Go.Proofs.YtdgagooldlnpeaaGreat
namespace Go.Proofs.YtdgagooldlnpeaaGreat
open Go.RowKit
structure PnA (w : World) (W H : Nat) (sb : Int) (fs : List Sf) (v : Value) (bs : List Nat) (bo : Nat) (u : Value) (V : World) : Prop where
 a : SnA w.heap.size ⟨W, H, sb, fs⟩ v bs V
 r : ImAt V (w.heap.size + 1) 55 0 0 (.slice none 0 0)
 o : ImAt V bo 55 W H u
 bw : Below w.heap.size w V
theorem PnA.call {w : World} {W H : Nat} {sb : Int} {fs : List Sf} {v : Value} {bs : List Nat} {bo : Nat} {u : Value} {V V' : World} (h : PnA w W H sb fs v bs bo u V) (hb : Below V.heap.size V V') : PnA w W H sb fs v bs bo u V' := ⟨h.a.call hb, h.r.call hb, h.o.call hb, belI_call h.bw hb⟩
theorem PnA.set {w : World} {W H : Nat} {sb : Int} {fs : List Sf} {v : Value} {bs : List Nat} {bo gq : Nat} {u : Value} {V V' : World} (h : PnA w W H sb fs v bs bo u V) (ho : (∀ b ∈ bs, b < w.heap.size) ∧ w.heap.size + 1 < gq ∧ bo ≠ gq) (hg : V.grownBy V' (some gq)) : PnA w W H sb fs v bs bo u V' :=
 ⟨⟨h.a.at_.grown hg (fun e => by have := Option.some.inj e; omega), Rep.chg h.a.r (Chg.of_grown hg) fun b hb e => by have := ho.1 b hb; have : b = gq := (by simpa using e); omega⟩, h.r.grown hg (fun e => by have := Option.some.inj e; omega), h.o.grown hg (fun e => ho.2.2 (Option.some.inj e)), h.bw.grown hg h.bw.size (fun k e => by have := Option.some.inj e; omega)⟩
theorem PnA.cells {w : World} {W H : Nat} {sb : Int} {fs : List Sf} {v : Value} {bs : List Nat} {bo : Nat} {u : Value} {V : World} (h : PnA w W H sb fs v bs bo u V) : V.cell? ⟨w.heap.size, 0, none⟩ = some (.int .i64 W) ∧ V.cell? ⟨w.heap.size, 1, none⟩ = some (.int .i64 H) ∧ V.cell? ⟨w.heap.size, 2, none⟩ = some (.int .i64 sb) ∧ V.cell? ⟨w.heap.size, 3, none⟩ = some v := h.a.cells
end Go.Proofs.YtdgagooldlnpeaaGreat
