/- The contracts of PictureOf and of IsOpaque, of the program and of its model. No statement is proved here. -/
import Derived.Test.YtokniebejilcbaaGreatMA
import Derived.Test.YtokniebejilcbaaGreatMB
import Derived.Test.YtokniebejilcbaaGreatMC
import Derived.Test.YtokniebejilcbaaGreatCpyI
import Derived.Test.YtokniebejilcbaaGreatFilB
import Derived.Test.YtokniebejilcbaaGreatSfO
import Derived.Test.YtokniebejilcbaaGreatSfR
import Derived.Test.YtokniebejilcbaaGreatOrdB
import Derived.Test.YtokniebejilcbaaGreatOrdS
import Derived.Test.YtokniebejilcbaaGreatOrdI
import Derived.Test.YtokniebejilcbaaGreatOrdA
import Derived.Test.YtokniebejilcbaaGreatSclB
import Derived.Test.YtokniebejilcbaaGreatSclI
import Derived.Test.YtokniebejilcbaaGreatSclS
import Derived.Test.YtokniebejilcbaaGreatSclL
import Derived.Test.YtokniebejilcbaaGreatCmI
import Derived.Test.YtokniebejilcbaaGreatProg
import Derived.WalkKit
import Derived.ProofKit
import Derived.OpenShut
import Derived.WalkLawsBesides
import Derived.WalkSpells
import Derived.ShutString
import Derived.ChangeOld
import Derived.Below
import Derived.Lib.Hide
import Derived.BigQuiet
import Derived.Deep.QuietTactic
import Derived.Maps.AppendAt
import Derived.Deep.OwnRows
import Derived.Handy
import Derived.Deep.Draws
import Derived.OwnWalk
import Derived.Deep.AppendLies
import Derived.Deep.LoopGhost
import Derived.Deep.Onto
import Derived.Deep.MidRow
import Derived.Deep.WholeRow
import Derived.Laws.BitsAllLaws
import Derived.Lib.QuoteBits
import Derived.Deep.RegionHeld3
import Derived.Deep.DeepCutAuto
import Derived.Test.YtokniebejilcbaaGreatShelf
import Derived.Laws.CopyOwn
import Derived.Deep.RegionLaw
import Derived.Great.BuildSlice
import Derived.Laws.AppendOwn
import Derived.ChangeKeysEq
namespace Go.Proofs.YtokniebejilcbaaGreat
open Go.RowKit
noncomputable def sfScl (f : Sf) : Im := rsIm sclN (orIm f.bw f.bh f.data f.orient).w (orIm f.bw f.bh f.data f.orient).h (orIm f.bw f.bh f.data f.orient).d (sfSize f).1 (sfSize f).2
open Classical in
noncomputable def sfPic (f : Sf) : Im := if sfOk f then ⟨(sfScl f).w, (sfScl f).h, (sfScl f).d.map fun p => fade p f.alpha⟩ else zeroIm
theorem sfPic_yes {f : Sf} (h : sfOk f) : sfPic f = ⟨(sfScl f).w, (sfScl f).h, (sfScl f).d.map fun p => fade p f.alpha⟩ := if_pos h
theorem sfPic_no {f : Sf} (h : ¬ sfOk f) : sfPic f = zeroIm := if_neg h
theorem sfScl_ok {f : Sf} (h : sfOk f) : imOk (sfScl f).w (sfScl f).h (sfScl f).d ∧ (f.w = 0 → sfScl f = orIm f.bw f.bh f.data f.orient) ∧ (f.w ≠ 0 → (sfSize f) = (f.w, f.h)) := by
 obtain ⟨_, _, _, hwh, _, ho, him⟩ := h
 obtain ⟨W, H, e1, e2, wl, wh, hl, hh, hL⟩ := im_nat him
 have ho1 := orIm_yes (o := f.orient) (by rw [← e1, ← e2]; exact him : imOk (W : Int) (H : Int) f.data) ho
 have hov := orL_ok (by rw [← e1, ← e2]; exact him : imOk (W : Int) (H : Int) f.data) ho
 unfold sfScl
 rw [e1, e2, ho1]
 by_cases h0 : f.w = 0
 ·have hs : sfSize f = ((orWn W H f.orient : Int), (orHn W H f.orient : Int)) := by
   unfold sfSize
   rw [if_pos h0, e1, e2, os_yes (by rw [← e1, ← e2]; exact him.1) ho, orW_nat, orH_nat]
  rw [hs]
  have hself := rs_self (S := sclN) (fun g k hk => sclN_self (by omega)) hov
  dsimp only
  rw [hself]
  exact ⟨hov, fun _ => rfl, fun e => absurd h0 e⟩
 ·have hs : sfSize f = (f.w, f.h) := if_neg h0
  have hsz : szOk f.w f.h := hwh.resolve_left fun e => h0 e.1
  rw [hs]
  dsimp only
  obtain ⟨p, q, ep, eq, _⟩ := sz_nat hsz
  have hsz2 := hsz
  rw [ep, eq] at hsz2 ⊢
  rw [rs_yes sclN hov hsz2]
  exact ⟨rs_valid scl_ok hov hsz2, fun e => absurd (ep.trans e) h0, fun _ => rfl⟩
def PicAns (f : Sf) (w : World) (e : Ending) (w' : World) : Prop := AnsIm (sfPic f) w e w'
structure PcB (w : World) (f : Sf) (d : Value) (V : World) : Prop where
 x : BkAt V w.heap.size 153 #[.int .i64 f.id, .int .i64 f.x, .int .i64 f.y, .int .i64 f.w, .int .i64 f.h, .int .i64 f.alpha, .int .i64 f.orient, .bool f.vis, .int .i64 f.bw, .int .i64 f.bh, d]
 r : ImAt V (w.heap.size + 1) 55 0 0 (.slice none 0 0)
 bw : Below w.heap.size w V
theorem PcB.call {w : World} {f : Sf} {d : Value} {V V' : World} (h : PcB w f d V) (hb : Below V.heap.size V V') : PcB w f d V' := ⟨h.x.call hb, h.r.call hb, belI_call h.bw hb⟩
theorem PcB.born (w : World) (f : Sf) (d : Value) : PcB w f d ((w.alloc (.cells #[.int .i64 f.id, .int .i64 f.x, .int .i64 f.y, .int .i64 f.w, .int .i64 f.h, .int .i64 f.alpha, .int .i64 f.orient, .bool f.vis, .int .i64 f.bw, .int .i64 f.bh, d] 153)).alloc (.cells #[.int .i64 0, .int .i64 0, .slice none 0 0] 55)) :=
 ⟨(BkAt.new _ _ _).alloc _, ImAt.newAt (by simp) _ _ _ _, belI_call (belI_box _ _) (belI_box _ _)⟩
theorem PcB.set {w : World} {f : Sf} {d : Value} {V V' : World} {g : Nat} (h : PcB w f d V) (hg : V.grownBy V' (some g)) (hk : w.heap.size + 2 ≤ g) : PcB w f d V' :=
 ⟨h.x.grown hg (fun e => by have := Option.some.inj e; omega), h.r.grown hg (fun e => by have := Option.some.inj e; omega), h.bw.grown hg h.bw.size (fun k e => by have := Option.some.inj e; omega)⟩
structure PcI (w : World) (f : Sf) (d : Value) (b : Nat) (X Y : Int) (u : Value) (V : World) : Prop where
 o : PcB w f d V
 im : ImAt V b 55 X Y u
theorem PcI.call {w : World} {f : Sf} {d : Value} {b : Nat} {X Y : Int} {u : Value} {V V' : World} (h : PcI w f d b X Y u V) (hb : Below V.heap.size V V') : PcI w f d b X Y u V' := ⟨h.o.call hb, h.im.call hb⟩
theorem PcI.drew {w : World} {f : Sf} {d : Value} {b : Nat} {X Y : Int} {u : Value} {V : World} (h : PcI w f d b X Y u V) : PcI w f d b X Y u V.drew := h.call (belI_drew _)
theorem PcI.set {w : World} {f : Sf} {d : Value} {b g : Nat} {X Y : Int} {u : Value} {V V' : World} (h : PcI w f d b X Y u V) (hs : w.heap.size + 2 ≤ g ∧ b ≠ g) (hg : V.grownBy V' (some g)) : PcI w f d b X Y u V' := ⟨h.o.set hg hs.1, h.im.grown hg (fun e => by have := Option.some.inj e; omega)⟩
theorem PcB.own {w : World} {f : Sf} {d : Value} {V : World} (h : PcB w f d V) : w.heap.size + 2 ≤ V.heap.size := by have := h.r.lt; omega
theorem part_zero {f : Int → Int} {L : List Int} {n : Nat} (hn : n = L.length) : tabI n (partC f L 0) = L := by
 symm; refine tabI_ext hn.symm fun j x hx => ?_
 unfold partC; rw [if_neg (by omega), List.getD_eq_getElem?_getD, hx]; rfl
theorem picZero {w : World} {f : Sf} {d : Value} {V : World} (h : PcB w f d V) : AnsIm zeroIm w (.returned (.agg #[.int .i64 0, .int .i64 0, .slice none 0 0])) (((V.setCell ⟨w.heap.size + 1, 0, none⟩ (.int .i64 0)).setCell ⟨w.heap.size + 1, 1, none⟩ (.int .i64 0)).setCell ⟨w.heap.size + 1, 2, none⟩ (.slice none 0 0)) :=
 ⟨_, rfl, ⟨rfl, .inl ⟨rfl, rfl⟩⟩, ((h.bw.setCell (by dsimp only; omega) _).setCell (by dsimp only; omega) _).setCell (by dsimp only; omega) _⟩
set_option maxHeartbeats 8000000 in
set_option maxRecDepth 10000 in
theorem picI (f : Sf) (d : Value) (w : World) (hv : RdI w d f.data) : Calls Tryz.prog 204 #[.agg #[.int .i64 f.id, .int .i64 f.x, .int .i64 f.y, .int .i64 f.w, .int .i64 f.h, .int .i64 f.alpha, .int .i64 f.orient, .bool f.vis, .int .i64 f.bw, .int .i64 f.bh, d]] w (PicAns f w) := by
 obtain ⟨A, c, rfl⟩ := hv.form
 have hS := PcB.born w f (.slice A f.data.length c)
 have HV := Lib.hid (hv.call hS.bw)
 have HC := Lib.hid (sfI f _ _ HV.out)
 unfold SfOkAns at HC
 clear hv
 by_cases hs : sfOk f
 ·rw [sfB_yes hs] at HC
  obtain ⟨hJ, hw0, hw1⟩ := sfScl_ok hs
  obtain ⟨X, Y, L, hX⟩ : ∃ X Y L, sfScl f = ⟨X, Y, L⟩ := ⟨_, _, _, rfl⟩
  have HA : Hid (sfPic f = ⟨X, Y, L.map fun p => fade p f.alpha⟩) := Lib.hid (by rw [sfPic_yes hs, hX])
  rw [hX] at hJ hw0
  dsimp only at hJ
  have hn1 : 1 ≤ L.length := by have := sz_pos hJ.1; have := hJ.2.1; omega
  obtain ⟨n, hn⟩ : ∃ n, n = L.length := ⟨_, rfl⟩
  have Hn := Lib.hid hn
  rw [← hn] at hn1
  have hn2 : n ≤ 256 := by have := sz_mul hJ.1; have := hJ.2.1; omega
  have hwv : f.w = 0 ∨ 0 < f.w := by rcases hs.2.2.2.1 with h | h; exact .inl h.1; exact .inr (by have := h.1; omega)
  have HX := Lib.hid hX
  obtain ⟨P, Q, I, hI⟩ : ∃ P Q I, orIm f.bw f.bh f.data f.orient = ⟨P, Q, I⟩ := ⟨_, _, _, rfl⟩
  have HK := fun (W : World) (h : RdI W (.slice A f.data.length c) f.data) => ordI_any f.bw f.bh _ f.data f.orient W h
  unfold AnsIm at HK
  rw [hI] at HK
  dsimp only at HK
  have HK := Lib.hid HK
  obtain ⟨p, hp⟩ : ∃ p, p = (sfSize f).1 := ⟨_, rfl⟩
  obtain ⟨q, hq⟩ : ∃ q, q = (sfSize f).2 := ⟨_, rfl⟩
  have HL := fun (W : World) (v : Value) (h : RdI W v I) => sclI_any P Q p q v I W h
  have hsc : rsIm sclN P Q I p q = ⟨X, Y, L⟩ := by rw [← hX, hp, hq]; unfold sfScl; rw [hI]
  unfold AnsIm at HL
  rw [hsc] at HL
  dsimp only at HL
  have HL := Lib.hid HL
  have HP := fun (W : World) (h : RdI W (.slice A f.data.length c) f.data) => psI f _ W h
  unfold TwoAns at HP
  rw [← hp, ← hq] at HP
  have HP := Lib.hid HP
  clear hs hJ hX hn hI hp hq hsc hw0 hw1 hwv
  have e0 := hS.x.cell 0 rfl
  have e1 := hS.x.cell 1 rfl
  have e2 := hS.x.cell 2 rfl
  have e3 := hS.x.cell 3 rfl
  have e4 := hS.x.cell 4 rfl
  have e5 := hS.x.cell 5 rfl
  have e6 := hS.x.cell 6 rfl
  have e7 := hS.x.cell 7 rfl
  have e8 := hS.x.cell 8 rfl
  have e9 := hS.x.cell 9 rfl
  have e10 := hS.x.cell 10 rfl
  go_enter Tryz.func204, Tryz.ntmps204
  go_wp2_with fail
  refine HC.out.mono ?_
  rintro e w1 ⟨rfl, hb⟩
  replace hS := hS.call hb
  have HV := Lib.hid (HV.out.call hb)
  clear hb
  clear e0 e1 e2 e3 e4 e5 e6 e7 e8 e9 e10
  have e0 := hS.x.cell 0 rfl
  have e1 := hS.x.cell 1 rfl
  have e2 := hS.x.cell 2 rfl
  have e3 := hS.x.cell 3 rfl
  have e4 := hS.x.cell 4 rfl
  have e5 := hS.x.cell 5 rfl
  have e6 := hS.x.cell 6 rfl
  have e7 := hS.x.cell 7 rfl
  have e8 := hS.x.cell 8 rfl
  have e9 := hS.x.cell 9 rfl
  have e10 := hS.x.cell 10 rfl
  go_wp2_with fail
  refine (HP.out _ HV.out).mono ?_
  rintro e w2 ⟨rfl, hb⟩
  replace hS := hS.call hb
  have HV := Lib.hid (HV.out.call hb)
  clear hb
  clear e0 e1 e2 e3 e4 e5 e6 e7 e8 e9 e10
  have e0 := hS.x.cell 0 rfl
  have e1 := hS.x.cell 1 rfl
  have e2 := hS.x.cell 2 rfl
  have e3 := hS.x.cell 3 rfl
  have e4 := hS.x.cell 4 rfl
  have e5 := hS.x.cell 5 rfl
  have e6 := hS.x.cell 6 rfl
  have e7 := hS.x.cell 7 rfl
  have e8 := hS.x.cell 8 rfl
  have e9 := hS.x.cell 9 rfl
  have e10 := hS.x.cell 10 rfl
  go_wp2_with fail
  refine (HK.out _ HV.out).mono ?_
  rintro e w3 ⟨vi, rfl, howI, hb⟩
  obtain ⟨Ai, ci, he⟩ := ownI_shape howI
  subst he
  have hlo0 := hS.own
  replace hS := hS.call hb
  clear hb
  clear e0 e1 e2 e3 e4 e5 e6 e7 e8 e9 e10
  skip
  have e0 := hS.x.cell 0 rfl
  have e1 := hS.x.cell 1 rfl
  have e2 := hS.x.cell 2 rfl
  have e3 := hS.x.cell 3 rfl
  have e4 := hS.x.cell 4 rfl
  have e5 := hS.x.cell 5 rfl
  have e6 := hS.x.cell 6 rfl
  have e7 := hS.x.cell 7 rfl
  have e8 := hS.x.cell 8 rfl
  have e9 := hS.x.cell 9 rfl
  have e10 := hS.x.cell 10 rfl
  go_wp2_with fail
  refine (HL.out _ _ (RdI.of_own howI)).mono ?_
  rintro e w4 ⟨vq, rfl, howJ, hb⟩
  have hlo1 := hS.own
  replace hS := hS.call hb
  clear hb howI
  clear e0 e1 e2 e3 e4 e5 e6 e7 e8 e9 e10
  rw [← Hn.out] at howJ
  obtain ⟨gq, cq, hvq, hgB, hgl⟩ := howJ.form (by omega)
  subst hvq
  obtain ⟨bo, hbo⟩ : ∃ b, b = w4.heap.size := ⟨_, rfl⟩
  have him := ImAt.newAt (w := w4) hbo.symm 55 X Y (.slice (some ⟨gq, 0, none⟩) n cq)
  obtain ⟨V0, hV0⟩ : ∃ V, V = w4.alloc (.cells #[.int .i64 X, .int .i64 Y, .slice (some ⟨gq, 0, none⟩) n cq] 55) := ⟨_, rfl⟩
  have hT : PcI w f (.slice A f.data.length c) bo X Y (.slice (some ⟨gq, 0, none⟩) n cq) V0 := by rw [hV0]; exact ⟨hS.call (belI_box _ _), him⟩
  have hown0 : V0.ownsRow (w.heap.size + 2) 3 1 (.slice (some ⟨gq, 0, none⟩) n cq) n (intCells (tabI n (partC (fun p => fade p f.alpha) L 0))) := by
   rw [hV0, part_zero Hn.out]; exact (howJ.mono (by omega)).alloc _
  have hsq : w.heap.size + 2 ≤ gq ∧ bo ≠ gq := ⟨by omega, by omega⟩
  have HV0 := Lib.hid hV0
  have Hbo := Lib.hid hbo
  obtain ⟨a0, a1, a2⟩ := hT.im.cells
  rw [hV0] at a0 a1 a2
  have hb2 : w.heap.size + 2 ≤ bo := by omega
  have HT := Lib.hid hT
  have Hsq := Lib.hid hsq
  have HO := Lib.hid hown0
  clear hT hsq him howJ hown0 hV0 hbo hgB hgl hS HV
  go_wp2_with fail
  rw [← HV0.out, ← Hbo.out]
  clear a0 a1 a2
  have Hgr0 : Hid (V0.grownBy V0 (some gq)) := Lib.hid (World.grownBy.refl _ _)
  go_loopg [6, 7, 28] n (fun g8 _ _ s28 w8 => ∃ (k : Nat) (V : World), V = w8 ∧ k ≤ n ∧ g8 = n - k ∧ s28 = .int .i64 k ∧ Hid (V.ownsRow (w.heap.size + 2) 3 1 (.slice (some ⟨gq, 0, none⟩) n cq) n (intCells (tabI n (partC (fun p => fade p f.alpha) L k)))) ∧ Hid (V0.grownBy V (some gq)))
  case atStart => exact ⟨0, _, rfl, by omega, by omega, rfl, HO, Hgr0⟩
  case round =>
   clear HO Hgr0
   obtain ⟨k, wx, hV, hk2, rfl, rfl, Hown, Hgr⟩ := hrel
   subst hV
   have hT := HT.out.set Hsq.out Hgr.out
   by_cases hkl : k < n
   ·obtain ⟨z, hz⟩ : ∃ z, L.getD k 0 = z := ⟨_, rfl⟩
    obtain ⟨y, hy⟩ : ∃ y, y = fade z f.alpha := ⟨_, rfl⟩
    have hki : (k : Int) < (n : Int) := by omega
    have k0 : (0 : Int) ≤ (k : Int) := by omega
    have HP := Lib.hid (fun (W : World) => show Calls _ _ _ _ (fun e w' => e = .returned (.int .i64 y) ∧ Below W.heap.size W w') from by have h := fadeI_any z f.alpha W; rw [← hy] at h; exact h)
    have HY : Hid ((fun p => fade p f.alpha) (L.getD k 0) = y) := Lib.hid (by show fade _ _ = y; rw [hy, hz])
    have c0 : wx.cell? ⟨gq, k, none⟩ = some (.int .i64 z) := by
     rw [Hown.out.cellAt k (by omega), intCells_get, tabI_get n _ k hkl]
     unfold partC; rw [if_neg (by omega), hz]; rfl
    have hsq := Hsq.out
    have hOw := Hown.out
    clear hz hy
    have b0 := hT.im.cells.1
    have b1 := hT.im.cells.2.1
    have b2 := hT.im.cells.2.2
    have x5 := hT.o.x.cell 5 rfl
    go_upto_region 8 with fail
    clear c0 b0 b1 b2 x5
    refine wp_region_held_drew (S := fun V => PcI w f (.slice A f.data.length c) bo X Y (.slice (some ⟨gq, 0, none⟩) n cq) V) (by kernel_rfl) hT.drew (fun hS => ?_)
    replace hOw := show World.ownsRow wx.drew _ _ _ _ _ _ from Hown.out
    have hGr := show World.grownBy V0 wx.drew _ from Hgr.out.trans (grown_dr _ _)
    refine tcH (i := 0) (v := .pointer (some ⟨bo, 2, none⟩)) rfl (by intro w' hSw; (try dsimp only at hSw); (obtain ⟨b0, b1, b2⟩ := hSw.im.cells); (have x5 := hSw.o.x.cell 5 rfl); go_simp) ?_
    refine tcH (i := 1) (v := .slice (some ⟨gq, 0, none⟩) n cq) rfl (by intro w' hSw; (try dsimp only at hSw); (obtain ⟨b0, b1, b2⟩ := hSw.im.cells); (have x5 := hSw.o.x.cell 5 rfl); go_simp) ?_
    refine tcH (i := 2) (v := .int .i64 (k : Int)) rfl (by intro w' hSw; (try dsimp only at hSw); (obtain ⟨b0, b1, b2⟩ := hSw.im.cells); (have x5 := hSw.o.x.cell 5 rfl); go_simp) ?_
    refine tcH (i := 3) (v := .int .i64 z) rfl (by intro w' hSw; (try dsimp only at hSw); (obtain ⟨b0, b1, b2⟩ := hSw.im.cells); (have x5 := hSw.o.x.cell 5 rfl); go_simp) ?_
    refine tcH (i := 4) (v := .pointer (some ⟨w.heap.size, 5, none⟩)) rfl (by intro w' hSw; (try dsimp only at hSw); (obtain ⟨b0, b1, b2⟩ := hSw.im.cells); (have x5 := hSw.o.x.cell 5 rfl); go_simp) ?_
    refine tcH (i := 5) (v := .int .i64 f.alpha) rfl (by intro w' hSw; (try dsimp only at hSw); (obtain ⟨b0, b1, b2⟩ := hSw.im.cells); (have x5 := hSw.o.x.cell 5 rfl); go_simp) ?_
    (try simp only [Act.put]); (try simp only [zPa]); (try simp only [zPb, zPc])
    refine wpAnyH_ready (rs := [6]) (by kernel_rfl) (by simp) ?_
    refine (AllReadyH.cons rfl (fun K hK => ?_) AllReadyH.nil)
    ·rw [if_pos (by kernel_rfl)]
     (try simp only [zGa]); (try simp only [zGb]); (try simp only [zGc])
     go_simp
     with_reducible refine (HP.out _).mono ?_
     rintro e W' ⟨rfl, hb⟩
     dsimp only
     have cS := (own_at_put (ownI_call hOw hb) (j := k) (by omega) (tabI_length _ _)).1
     have fS := (own_at_put (ownI_call hOw hb) (j := k) (by omega) (tabI_length _ _)).2
     have hOw := ownI_call hOw hb
     have hGr := grown_below hGr hb
     refine hK.out _ _ (hS.call hb) (fun hS => ?_)
     clear hK
     (try simp only [Act.put]); (try simp only [zPa]); (try simp only [zPb, zPc])
     refine tcH (i := 7) (v := .pointer (some ⟨gq, k, none⟩)) rfl (by intro w' hSw; (try dsimp only at hSw); (obtain ⟨b0, b1, b2⟩ := hSw.im.cells); (have x5 := hSw.o.x.cell 5 rfl); go_simp) ?_
     (try simp only [Act.put]); (try simp only [zPa]); (try simp only [zPb, zPc])
     refine wpAnyH_ready (rs := [8]) (by kernel_rfl) (by simp) ?_
     refine (AllReadyH.cons rfl (fun K hK => ?_) AllReadyH.nil)
     ·rw [if_pos (by kernel_rfl)]
      (try simp only [zGa]); (try simp only [zGb]); (try simp only [zGc])
      go_simp
      skip
      skip
      refine hK.out _ _ (hS.set hsq (grown_setI _ gq k _)) (fun hS => ?_)
      clear hK
      (try simp only [Act.put]); (try simp only [zPa]); (try simp only [zPb, zPc])
      refine wpAnyH_done (by kernel_rfl) ?_ _
      go_wp2_with fail
      go_roundg (n - (k + 1))
      case measure => omega
      case rel =>
       have h := (ownI_put hOw k y).1
       rw [cm_set HY.out] at h
       exact ⟨k + 1, _, rfl, by omega, by omega, by go_num, Lib.hid h, Lib.hid (hGr.trans (grown_setI _ gq k _))⟩
   ·obtain rfl : k = n := by omega
    have hr := hT.o.r
    obtain ⟨r0, r1, r2⟩ := hr.cells
    obtain ⟨m0, m1, m2⟩ := hT.im.cells
    have f0 := hr.frozen 0
    have f1 := hr.frozen 1
    have f2 := hr.frozen 2
    have HJ := Lib.hid (hr.set3 X Y (.slice (some ⟨gq, 0, none⟩) k cq))
    have HTT := Lib.hid hT
    clear hr hT
    go_wp2_with fail
    obtain ⟨s0, s1, s2⟩ := HJ.out.cells
    exact bodyPost_ret (v := .agg #[.int .i64 X, .int .i64 Y, .slice (some ⟨gq, 0, none⟩) k cq]) (by simp [results, Tryz.results204, go_sem, s0, s1, s2]) rfl (by
     unfold PicAns
     rw [HA.out]
     have e1 : tabI k (partC (fun p => fade p f.alpha) L k) = L.map (fun p => fade p f.alpha) := by
      rw [map_tab, ← Hn.out]; exact tabI_congr k fun j hj => by unfold partC; rw [if_pos hj]
     have h := Hown.out
     rw [e1] at h
     exact ans_set h (by rw [List.length_map]; exact Hn.out.symm) (by omega) (by omega) HTT.out.o.bw)
 ·rw [sfB_no hs] at HC
  have HA := Lib.hid (sfPic_no hs)
  clear hs
  have e0 := hS.x.cell 0 rfl
  have e1 := hS.x.cell 1 rfl
  have e2 := hS.x.cell 2 rfl
  have e3 := hS.x.cell 3 rfl
  have e4 := hS.x.cell 4 rfl
  have e5 := hS.x.cell 5 rfl
  have e6 := hS.x.cell 6 rfl
  have e7 := hS.x.cell 7 rfl
  have e8 := hS.x.cell 8 rfl
  have e9 := hS.x.cell 9 rfl
  have e10 := hS.x.cell 10 rfl
  go_enter Tryz.func204, Tryz.ntmps204
  go_wp2_with fail
  refine HC.out.mono ?_
  rintro e w1 ⟨rfl, hb⟩
  replace hS := hS.call hb
  clear hb
  clear e0 e1 e2 e3 e4 e5 e6 e7 e8 e9 e10
  have hr := hS.r
  obtain ⟨r0, r1, r2⟩ := hr.cells
  have f0 := hr.frozen 0
  have f1 := hr.frozen 1
  have f2 := hr.frozen 2
  have HJ := Lib.hid (hr.set3 0 0 (.slice none 0 0))
  have HS := Lib.hid hS
  clear hr hS
  go_wp2_with fail
  obtain ⟨s0, s1, s2⟩ := HJ.out.cells
  exact bodyPost_ret (v := .agg #[.int .i64 0, .int .i64 0, .slice none 0 0]) (by simp [results, Tryz.results204, go_sem, s0, s1, s2]) rfl (by unfold PicAns; rw [HA.out]; exact picZero HS.out)
set_option maxHeartbeats 8000000 in
set_option maxRecDepth 10000 in
theorem picS (f : Sf) (d : Value) (w : World) (hv : RdI w d f.data) : Calls Tryz.prog 154 #[.agg #[.int .i64 f.id, .int .i64 f.x, .int .i64 f.y, .int .i64 f.w, .int .i64 f.h, .int .i64 f.alpha, .int .i64 f.orient, .bool f.vis, .int .i64 f.bw, .int .i64 f.bh, d]] w (PicAns f w) := by
 obtain ⟨A, c, rfl⟩ := hv.form
 have hS := PcB.born w f (.slice A f.data.length c)
 have HV := Lib.hid (hv.call hS.bw)
 have HC := Lib.hid (sfS f _ _ HV.out)
 unfold SfOkAns at HC
 clear hv
 by_cases hs : sfOk f
 ·rw [sfB_yes hs] at HC
  obtain ⟨hJ, hw0, hw1⟩ := sfScl_ok hs
  obtain ⟨X, Y, L, hX⟩ : ∃ X Y L, sfScl f = ⟨X, Y, L⟩ := ⟨_, _, _, rfl⟩
  have HA : Hid (sfPic f = ⟨X, Y, L.map fun p => fade p f.alpha⟩) := Lib.hid (by rw [sfPic_yes hs, hX])
  rw [hX] at hJ hw0
  dsimp only at hJ
  have hn1 : 1 ≤ L.length := by have := sz_pos hJ.1; have := hJ.2.1; omega
  obtain ⟨n, hn⟩ : ∃ n, n = L.length := ⟨_, rfl⟩
  have Hn := Lib.hid hn
  rw [← hn] at hn1
  have hn2 : n ≤ 256 := by have := sz_mul hJ.1; have := hJ.2.1; omega
  have hwv : f.w = 0 ∨ 0 < f.w := by rcases hs.2.2.2.1 with h | h; exact .inl h.1; exact .inr (by have := h.1; omega)
  have HX := Lib.hid hX
  obtain ⟨P, Q, I, hI⟩ : ∃ P Q I, orIm f.bw f.bh f.data f.orient = ⟨P, Q, I⟩ := ⟨_, _, _, rfl⟩
  have HK := fun (W : World) (h : RdI W (.slice A f.data.length c) f.data) => ordS_any f.bw f.bh _ f.data f.orient W h
  unfold AnsIm at HK
  rw [hI] at HK
  dsimp only at HK
  have HK := Lib.hid HK
  obtain ⟨p, hp⟩ : ∃ p, p = (sfSize f).1 := ⟨_, rfl⟩
  obtain ⟨q, hq⟩ : ∃ q, q = (sfSize f).2 := ⟨_, rfl⟩
  have HL := fun (W : World) (v : Value) (h : RdI W v I) => sclS_any P Q p q v I W h
  have hsc : rsIm sclN P Q I p q = ⟨X, Y, L⟩ := by rw [← hX, hp, hq]; unfold sfScl; rw [hI]
  unfold AnsIm at HL
  rw [hsc] at HL
  dsimp only at HL
  have HL := Lib.hid HL
  have hI2 : f.w = 0 → X = P ∧ Y = Q ∧ L = I := fun e => by have h := hw0 e; rw [hI] at h; injection h with h1 h2 h3; exact ⟨h1, h2, h3⟩
  have hpq : f.w ≠ 0 → p = f.w ∧ q = f.h := fun e => by have h := hw1 e; rw [h] at hp hq; exact ⟨hp, hq⟩
  have HI2 := Lib.hid hI2
  have Hpq := Lib.hid hpq
  clear hs hJ hX hn hI hp hq hsc hw0 hw1 hI2 hpq
  have e0 := hS.x.cell 0 rfl
  have e1 := hS.x.cell 1 rfl
  have e2 := hS.x.cell 2 rfl
  have e3 := hS.x.cell 3 rfl
  have e4 := hS.x.cell 4 rfl
  have e5 := hS.x.cell 5 rfl
  have e6 := hS.x.cell 6 rfl
  have e7 := hS.x.cell 7 rfl
  have e8 := hS.x.cell 8 rfl
  have e9 := hS.x.cell 9 rfl
  have e10 := hS.x.cell 10 rfl
  go_enter Tryz.func154, Tryz.ntmps154
  go_wp2_with fail
  refine HC.out.mono ?_
  rintro e w1 ⟨rfl, hb⟩
  replace hS := hS.call hb
  have HV := Lib.hid (HV.out.call hb)
  clear hb
  clear e0 e1 e2 e3 e4 e5 e6 e7 e8 e9 e10
  have e0 := hS.x.cell 0 rfl
  have e1 := hS.x.cell 1 rfl
  have e2 := hS.x.cell 2 rfl
  have e3 := hS.x.cell 3 rfl
  have e4 := hS.x.cell 4 rfl
  have e5 := hS.x.cell 5 rfl
  have e6 := hS.x.cell 6 rfl
  have e7 := hS.x.cell 7 rfl
  have e8 := hS.x.cell 8 rfl
  have e9 := hS.x.cell 9 rfl
  have e10 := hS.x.cell 10 rfl
  go_wp2_with fail
  refine (HK.out _ HV.out).mono ?_
  rintro e w3 ⟨vi, rfl, howI, hb⟩
  obtain ⟨Ai, ci, he⟩ := ownI_shape howI
  subst he
  have hlo0 := hS.own
  replace hS := hS.call hb
  clear hb
  clear e0 e1 e2 e3 e4 e5 e6 e7 e8 e9 e10
  rcases hwv with hw | hw
  ·obtain ⟨rfl, rfl, rfl⟩ := HI2.out hw
   have howJ := howI
   clear howI
   rw [← Hn.out]
   have hw9 : ¬ (0 : Int) < 0 := by omega
   rw [← Hn.out] at howJ
   obtain ⟨gq, cq, hvq, hgB, hgl⟩ := howJ.form (by omega)
   injection hvq with hv1 hv2 hv3
   subst hv1
   have hv4 := hv3.symm
   subst hv4
   obtain ⟨bo, hbo⟩ : ∃ b, b = w3.heap.size := ⟨_, rfl⟩
   have him := ImAt.newAt (w := w3) hbo.symm 55 X Y (.slice (some ⟨gq, 0, none⟩) n cq)
   obtain ⟨V0, hV0⟩ : ∃ V, V = w3.alloc (.cells #[.int .i64 X, .int .i64 Y, .slice (some ⟨gq, 0, none⟩) n cq] 55) := ⟨_, rfl⟩
   have hT : PcI w f (.slice A f.data.length c) bo X Y (.slice (some ⟨gq, 0, none⟩) n cq) V0 := by rw [hV0]; exact ⟨hS.call (belI_box _ _), him⟩
   have hown0 : V0.ownsRow (w.heap.size + 2) 3 1 (.slice (some ⟨gq, 0, none⟩) n cq) n (intCells (tabI n (partC (fun p => fade p f.alpha) L 0))) := by
    rw [hV0, part_zero Hn.out]; exact (howJ.mono (by omega)).alloc _
   have hsq : w.heap.size + 2 ≤ gq ∧ bo ≠ gq := ⟨by omega, by omega⟩
   have HV0 := Lib.hid hV0
   have Hbo := Lib.hid hbo
   obtain ⟨a0, a1, a2⟩ := hT.im.cells
   rw [hV0] at a0 a1 a2
   have hb2 : w.heap.size + 2 ≤ bo := by omega
   have HT := Lib.hid hT
   have Hsq := Lib.hid hsq
   have HO := Lib.hid hown0
   have e3 := hT.o.x.cell 3 rfl
   rw [hV0, hw] at e3
   clear hT hsq him howJ hown0 hV0 hbo hgB hgl hS HV
   go_wp2_with fail
   rw [← HV0.out, ← Hbo.out]
   clear a0 a1 a2 e3
   have Hgr0 : Hid (V0.grownBy V0 (some gq)) := Lib.hid (World.grownBy.refl _ _)
   go_loopg [4] n (fun g8 s4 w8 => ∃ (k : Nat) (V : World), V = w8 ∧ k ≤ n ∧ g8 = n - k ∧ s4 = .int .i64 k ∧ Hid (V.ownsRow (w.heap.size + 2) 3 1 (.slice (some ⟨gq, 0, none⟩) n cq) n (intCells (tabI n (partC (fun p => fade p f.alpha) L k)))) ∧ Hid (V0.grownBy V (some gq)))
   case atStart => exact ⟨0, _, rfl, by omega, by omega, rfl, HO, Hgr0⟩
   case round =>
    clear HO Hgr0
    obtain ⟨k, wx, hV, hk2, rfl, rfl, Hown, Hgr⟩ := hrel
    subst hV
    have hT := HT.out.set Hsq.out Hgr.out
    by_cases hkl : k < n
    ·obtain ⟨z, hz⟩ : ∃ z, L.getD k 0 = z := ⟨_, rfl⟩
     obtain ⟨y, hy⟩ : ∃ y, y = fade z f.alpha := ⟨_, rfl⟩
     have hki : (k : Int) < (n : Int) := by omega
     have k0 : (0 : Int) ≤ (k : Int) := by omega
     have HP := Lib.hid (fun (W : World) => show Calls _ _ _ _ (fun e w' => e = .returned (.int .i64 y) ∧ Below W.heap.size W w') from by have h := fadeS_any z f.alpha W; rw [← hy] at h; exact h.mono fun e w' ⟨he, hw⟩ => ⟨he, hw ▸ Below.refl _ _⟩)
     have HY : Hid ((fun p => fade p f.alpha) (L.getD k 0) = y) := Lib.hid (by show fade _ _ = y; rw [hy, hz])
     have c0 : wx.cell? ⟨gq, k, none⟩ = some (.int .i64 z) := by
      rw [Hown.out.cellAt k (by omega), intCells_get, tabI_get n _ k hkl]
      unfold partC; rw [if_neg (by omega), hz]; rfl
     have hsq := Hsq.out
     have hOw := Hown.out
     clear hz hy
     have b0 := hT.im.cells.1
     have b1 := hT.im.cells.2.1
     have b2 := hT.im.cells.2.2
     have x5 := hT.o.x.cell 5 rfl
     go_upto_region 9 with fail
     have HZ0 := Lib.hid c0
     clear c0 b0 b1 b2 x5
     refine wp_region_held_drew (S := fun V => PcI w f (.slice A f.data.length c) bo X Y (.slice (some ⟨gq, 0, none⟩) n cq) V) (by kernel_rfl) hT.drew (fun hS => ?_)
     replace hOw := show World.ownsRow wx.drew _ _ _ _ _ _ from Hown.out
     have hGr := show World.grownBy V0 wx.drew _ from Hgr.out.trans (grown_dr _ _)
     have hZc : wx.drew.cell? ⟨gq, k, none⟩ = some (.int .i64 z) := HZ0.out
     refine tcH (i := 0) (v := .pointer (some ⟨bo, 2, none⟩)) rfl (by intro w' hSw; (try dsimp only at hSw); (obtain ⟨b0, b1, b2⟩ := hSw.im.cells); (have x5 := hSw.o.x.cell 5 rfl); go_simp) ?_
     refine tcH (i := 1) (v := .slice (some ⟨gq, 0, none⟩) n cq) rfl (by intro w' hSw; (try dsimp only at hSw); (obtain ⟨b0, b1, b2⟩ := hSw.im.cells); (have x5 := hSw.o.x.cell 5 rfl); go_simp) ?_
     refine tcH (i := 2) (v := .int .i64 (k : Int)) rfl (by intro w' hSw; (try dsimp only at hSw); (obtain ⟨b0, b1, b2⟩ := hSw.im.cells); (have x5 := hSw.o.x.cell 5 rfl); go_simp) ?_
     refine tcH (i := 3) (v := .pointer (some ⟨bo, 2, none⟩)) rfl (by intro w' hSw; (try dsimp only at hSw); (obtain ⟨b0, b1, b2⟩ := hSw.im.cells); (have x5 := hSw.o.x.cell 5 rfl); go_simp) ?_
     refine tcH (i := 4) (v := .slice (some ⟨gq, 0, none⟩) n cq) rfl (by intro w' hSw; (try dsimp only at hSw); (obtain ⟨b0, b1, b2⟩ := hSw.im.cells); (have x5 := hSw.o.x.cell 5 rfl); go_simp) ?_
     refine tcH (i := 5) (v := .int .i64 (k : Int)) rfl (by intro w' hSw; (try dsimp only at hSw); (obtain ⟨b0, b1, b2⟩ := hSw.im.cells); (have x5 := hSw.o.x.cell 5 rfl); go_simp) ?_
     refine tcH (i := 6) (v := .pointer (some ⟨gq, k, none⟩)) rfl (by intro w' hSw; (try dsimp only at hSw); (obtain ⟨b0, b1, b2⟩ := hSw.im.cells); (have x5 := hSw.o.x.cell 5 rfl); go_simp) ?_
     refine tcH (i := 8) (v := .pointer (some ⟨w.heap.size, 5, none⟩)) rfl (by intro w' hSw; (try dsimp only at hSw); (obtain ⟨b0, b1, b2⟩ := hSw.im.cells); (have x5 := hSw.o.x.cell 5 rfl); go_simp) ?_
     refine tcH (i := 9) (v := .int .i64 f.alpha) rfl (by intro w' hSw; (try dsimp only at hSw); (obtain ⟨b0, b1, b2⟩ := hSw.im.cells); (have x5 := hSw.o.x.cell 5 rfl); go_simp) ?_
     (try simp only [Act.put]); (try simp only [zPa]); (try simp only [zPb, zPc])
     refine wpAnyH_ready (rs := [7]) (by kernel_rfl) (by simp) ?_
     refine (AllReadyH.cons rfl (fun K hK => ?_) AllReadyH.nil)
     ·rw [if_pos (by kernel_rfl)]
      (try simp only [zGa]); (try simp only [zGb]); (try simp only [zGc])
      have cZ := hZc
      go_simp
      skip
      skip
      clear cZ
      refine hK.out _ _ (hS) (fun hS => ?_)
      clear hK
      (try simp only [Act.put]); (try simp only [zPa]); (try simp only [zPb, zPc])
      refine wpAnyH_ready (rs := [10]) (by kernel_rfl) (by simp) ?_
      refine (AllReadyH.cons rfl (fun K hK => ?_) AllReadyH.nil)
      ·rw [if_pos (by kernel_rfl)]
       (try simp only [zGa]); (try simp only [zGb]); (try simp only [zGc])
       go_simp
       with_reducible refine (HP.out _).mono ?_
       rintro e W' ⟨rfl, hb⟩
       dsimp only
       have cS := (own_at_put (ownI_call hOw hb) (j := k) (by omega) (tabI_length _ _)).1
       have fS := (own_at_put (ownI_call hOw hb) (j := k) (by omega) (tabI_length _ _)).2
       have hOw := ownI_call hOw hb
       have hGr := grown_below hGr hb
       refine hK.out _ _ (hS.call hb) (fun hS => ?_)
       clear hK
       (try simp only [Act.put]); (try simp only [zPa]); (try simp only [zPb, zPc])
       refine tcH (i := 11) (v := .pointer (some ⟨gq, k, none⟩)) rfl (by intro w' hSw; (try dsimp only at hSw); (obtain ⟨b0, b1, b2⟩ := hSw.im.cells); (have x5 := hSw.o.x.cell 5 rfl); go_simp) ?_
       (try simp only [Act.put]); (try simp only [zPa]); (try simp only [zPb, zPc])
       refine wpAnyH_ready (rs := [12]) (by kernel_rfl) (by simp) ?_
       refine (AllReadyH.cons rfl (fun K hK => ?_) AllReadyH.nil)
       ·rw [if_pos (by kernel_rfl)]
        (try simp only [zGa]); (try simp only [zGb]); (try simp only [zGc])
        go_simp
        skip
        skip
        refine hK.out _ _ (hS.set hsq (grown_setI _ gq k _)) (fun hS => ?_)
        clear hK
        (try simp only [Act.put]); (try simp only [zPa]); (try simp only [zPb, zPc])
        refine wpAnyH_done (by kernel_rfl) ?_ _
        go_wp2_with fail
        go_roundg (n - (k + 1))
        case measure => omega
        case rel =>
         have h := (ownI_put hOw k y).1
         rw [cm_set HY.out] at h
         exact ⟨k + 1, _, rfl, by omega, by omega, by go_num, Lib.hid h, Lib.hid (hGr.trans (grown_setI _ gq k _))⟩
    ·obtain rfl : k = n := by omega
     have hr := hT.o.r
     obtain ⟨r0, r1, r2⟩ := hr.cells
     obtain ⟨m0, m1, m2⟩ := hT.im.cells
     have f0 := hr.frozen 0
     have f1 := hr.frozen 1
     have f2 := hr.frozen 2
     have HJ := Lib.hid (hr.set3 X Y (.slice (some ⟨gq, 0, none⟩) k cq))
     have HTT := Lib.hid hT
     clear hr hT
     go_wp2_with fail
     obtain ⟨s0, s1, s2⟩ := HJ.out.cells
     exact bodyPost_ret (v := .agg #[.int .i64 X, .int .i64 Y, .slice (some ⟨gq, 0, none⟩) k cq]) (by simp [results, Tryz.results154, go_sem, s0, s1, s2]) rfl (by
      unfold PicAns
      rw [HA.out]
      have e1 : tabI k (partC (fun p => fade p f.alpha) L k) = L.map (fun p => fade p f.alpha) := by
       rw [map_tab, ← Hn.out]; exact tabI_congr k fun j hj => by unfold partC; rw [if_pos hj]
      have h := Hown.out
      rw [e1] at h
      exact ans_set h (by rw [List.length_map]; exact Hn.out.symm) (by omega) (by omega) HTT.out.o.bw)
  ·obtain ⟨hp2, hq2⟩ := Hpq.out (by omega)
   subst hp2 hq2
   obtain ⟨bo, hbo⟩ : ∃ b, b = w3.heap.size := ⟨_, rfl⟩
   have him := ImAt.newAt (w := w3) hbo.symm 55 P Q (.slice Ai I.length ci)
   obtain ⟨W4, hW4⟩ : ∃ V, V = w3.alloc (.cells #[.int .i64 P, .int .i64 Q, .slice Ai I.length ci] 55) := ⟨_, rfl⟩
   have hT : PcI w f (.slice A f.data.length c) bo P Q (.slice Ai I.length ci) W4 := by rw [hW4]; exact ⟨hS.call (belI_box _ _), him⟩
   have howI4 := howI.alloc (.cells #[.int .i64 P, .int .i64 Q, .slice Ai I.length ci] 55)
   rw [← hW4] at howI4
   have hrI := RdI.of_own howI4
   have HW4 := Lib.hid hW4
   have Hbo := Lib.hid hbo
   obtain ⟨a0, a1, a2⟩ := hT.im.cells
   rw [hW4] at a0 a1 a2
   have e3 := hT.o.x.cell 3 rfl
   rw [hW4] at e3
   have e4 := hT.o.x.cell 4 rfl
   rw [hW4] at e4
   have HRI := Lib.hid hrI
   have HT4 := Lib.hid hT
   have hlo1 := hT.im.lt
   have Hlo1 := Lib.hid hlo1
   have hb2 : w.heap.size + 2 ≤ bo := by have := hS.own; omega
   clear him howI howI4 hrI hS HV hW4 hbo hT hlo1
   go_wp2_with fail
   rw [← HW4.out, ← Hbo.out]
   clear a0 a1 a2 e3 e4
   refine (HL.out _ _ HRI.out).mono ?_
   rintro e w5 ⟨vq, rfl, howJ, hb⟩
   have hT := HT4.out.call hb
   rw [← Hn.out] at howJ
   obtain ⟨gq, cq, hvq, hgB, hgl⟩ := howJ.form (by omega)
   subst hvq
   have hlo1 := Hlo1.out
   have hsq : w.heap.size + 2 ≤ gq ∧ bo ≠ gq := ⟨by omega, by omega⟩
   obtain ⟨a0, a1, a2⟩ := hT.im.cells
   have g0 := hT.im.frozen 0
   have g1 := hT.im.frozen 1
   have g2 := hT.im.frozen 2
   obtain ⟨V0, hV0⟩ : ∃ V, V = ((w5.setCell ⟨bo, 0, none⟩ (.int .i64 X)).setCell ⟨bo, 1, none⟩ (.int .i64 Y)).setCell ⟨bo, 2, none⟩ (.slice (some ⟨gq, 0, none⟩) n cq) := ⟨_, rfl⟩
   have hT0 : PcI w f (.slice A f.data.length c) bo X Y (.slice (some ⟨gq, 0, none⟩) n cq) V0 := by rw [hV0]; exact ⟨((hT.o.set (grown_setI _ bo 0 _) (by omega)).set (grown_setI _ bo 1 _) (by omega)).set (grown_setI _ bo 2 _) (by omega), hT.im.set3 X Y _⟩
   have hown0 : V0.ownsRow (w.heap.size + 2) 3 1 (.slice (some ⟨gq, 0, none⟩) n cq) n (intCells (tabI n (partC (fun p => fade p f.alpha) L 0))) := by
    rw [hV0, part_zero Hn.out]
    have hne : ∀ g, (Value.slice (some ⟨gq, 0, none⟩) n cq).ownBlock = some g → g ≠ bo := fun g hg => by simp only [Value.ownBlock, Option.some.injEq] at hg; omega
    exact ownI_far (p := ⟨bo, 2, none⟩) (ownI_far (p := ⟨bo, 1, none⟩) (ownI_far (p := ⟨bo, 0, none⟩) (howJ.mono (by omega)) hne _) hne _) hne _
   have HV0 := Lib.hid hV0
   have hTk := hT
   clear hT
   have hT := hT0
   have HT := Lib.hid hT
   have Hsq := Lib.hid hsq
   have HO := Lib.hid hown0
   clear hT hT0 hTk hsq howJ hown0 hV0 hgB hgl hb hlo1 Hlo1
   go_wp2_with fail
   rw [← HV0.out]
   clear a0 a1 a2 g0 g1 g2
   have Hgr0 : Hid (V0.grownBy V0 (some gq)) := Lib.hid (World.grownBy.refl _ _)
   go_loopg [4] n (fun g8 s4 w8 => ∃ (k : Nat) (V : World), V = w8 ∧ k ≤ n ∧ g8 = n - k ∧ s4 = .int .i64 k ∧ Hid (V.ownsRow (w.heap.size + 2) 3 1 (.slice (some ⟨gq, 0, none⟩) n cq) n (intCells (tabI n (partC (fun p => fade p f.alpha) L k)))) ∧ Hid (V0.grownBy V (some gq)))
   case atStart => exact ⟨0, _, rfl, by omega, by omega, rfl, HO, Hgr0⟩
   case round =>
    clear HO Hgr0
    obtain ⟨k, wx, hV, hk2, rfl, rfl, Hown, Hgr⟩ := hrel
    subst hV
    have hT := HT.out.set Hsq.out Hgr.out
    by_cases hkl : k < n
    ·obtain ⟨z, hz⟩ : ∃ z, L.getD k 0 = z := ⟨_, rfl⟩
     obtain ⟨y, hy⟩ : ∃ y, y = fade z f.alpha := ⟨_, rfl⟩
     have hki : (k : Int) < (n : Int) := by omega
     have k0 : (0 : Int) ≤ (k : Int) := by omega
     have HP := Lib.hid (fun (W : World) => show Calls _ _ _ _ (fun e w' => e = .returned (.int .i64 y) ∧ Below W.heap.size W w') from by have h := fadeS_any z f.alpha W; rw [← hy] at h; exact h.mono fun e w' ⟨he, hw⟩ => ⟨he, hw ▸ Below.refl _ _⟩)
     have HY : Hid ((fun p => fade p f.alpha) (L.getD k 0) = y) := Lib.hid (by show fade _ _ = y; rw [hy, hz])
     have c0 : wx.cell? ⟨gq, k, none⟩ = some (.int .i64 z) := by
      rw [Hown.out.cellAt k (by omega), intCells_get, tabI_get n _ k hkl]
      unfold partC; rw [if_neg (by omega), hz]; rfl
     have hsq := Hsq.out
     have hOw := Hown.out
     clear hz hy
     have b0 := hT.im.cells.1
     have b1 := hT.im.cells.2.1
     have b2 := hT.im.cells.2.2
     have x5 := hT.o.x.cell 5 rfl
     go_upto_region 9 with fail
     have HZ0 := Lib.hid c0
     clear c0 b0 b1 b2 x5
     refine wp_region_held_drew (S := fun V => PcI w f (.slice A f.data.length c) bo X Y (.slice (some ⟨gq, 0, none⟩) n cq) V) (by kernel_rfl) hT.drew (fun hS => ?_)
     replace hOw := show World.ownsRow wx.drew _ _ _ _ _ _ from Hown.out
     have hGr := show World.grownBy V0 wx.drew _ from Hgr.out.trans (grown_dr _ _)
     have hZc : wx.drew.cell? ⟨gq, k, none⟩ = some (.int .i64 z) := HZ0.out
     refine tcH (i := 0) (v := .pointer (some ⟨bo, 2, none⟩)) rfl (by intro w' hSw; (try dsimp only at hSw); (obtain ⟨b0, b1, b2⟩ := hSw.im.cells); (have x5 := hSw.o.x.cell 5 rfl); go_simp) ?_
     refine tcH (i := 1) (v := .slice (some ⟨gq, 0, none⟩) n cq) rfl (by intro w' hSw; (try dsimp only at hSw); (obtain ⟨b0, b1, b2⟩ := hSw.im.cells); (have x5 := hSw.o.x.cell 5 rfl); go_simp) ?_
     refine tcH (i := 2) (v := .int .i64 (k : Int)) rfl (by intro w' hSw; (try dsimp only at hSw); (obtain ⟨b0, b1, b2⟩ := hSw.im.cells); (have x5 := hSw.o.x.cell 5 rfl); go_simp) ?_
     refine tcH (i := 3) (v := .pointer (some ⟨bo, 2, none⟩)) rfl (by intro w' hSw; (try dsimp only at hSw); (obtain ⟨b0, b1, b2⟩ := hSw.im.cells); (have x5 := hSw.o.x.cell 5 rfl); go_simp) ?_
     refine tcH (i := 4) (v := .slice (some ⟨gq, 0, none⟩) n cq) rfl (by intro w' hSw; (try dsimp only at hSw); (obtain ⟨b0, b1, b2⟩ := hSw.im.cells); (have x5 := hSw.o.x.cell 5 rfl); go_simp) ?_
     refine tcH (i := 5) (v := .int .i64 (k : Int)) rfl (by intro w' hSw; (try dsimp only at hSw); (obtain ⟨b0, b1, b2⟩ := hSw.im.cells); (have x5 := hSw.o.x.cell 5 rfl); go_simp) ?_
     refine tcH (i := 6) (v := .pointer (some ⟨gq, k, none⟩)) rfl (by intro w' hSw; (try dsimp only at hSw); (obtain ⟨b0, b1, b2⟩ := hSw.im.cells); (have x5 := hSw.o.x.cell 5 rfl); go_simp) ?_
     refine tcH (i := 8) (v := .pointer (some ⟨w.heap.size, 5, none⟩)) rfl (by intro w' hSw; (try dsimp only at hSw); (obtain ⟨b0, b1, b2⟩ := hSw.im.cells); (have x5 := hSw.o.x.cell 5 rfl); go_simp) ?_
     refine tcH (i := 9) (v := .int .i64 f.alpha) rfl (by intro w' hSw; (try dsimp only at hSw); (obtain ⟨b0, b1, b2⟩ := hSw.im.cells); (have x5 := hSw.o.x.cell 5 rfl); go_simp) ?_
     (try simp only [Act.put]); (try simp only [zPa]); (try simp only [zPb, zPc])
     refine wpAnyH_ready (rs := [7]) (by kernel_rfl) (by simp) ?_
     refine (AllReadyH.cons rfl (fun K hK => ?_) AllReadyH.nil)
     ·rw [if_pos (by kernel_rfl)]
      (try simp only [zGa]); (try simp only [zGb]); (try simp only [zGc])
      have cZ := hZc
      go_simp
      skip
      skip
      clear cZ
      refine hK.out _ _ (hS) (fun hS => ?_)
      clear hK
      (try simp only [Act.put]); (try simp only [zPa]); (try simp only [zPb, zPc])
      refine wpAnyH_ready (rs := [10]) (by kernel_rfl) (by simp) ?_
      refine (AllReadyH.cons rfl (fun K hK => ?_) AllReadyH.nil)
      ·rw [if_pos (by kernel_rfl)]
       (try simp only [zGa]); (try simp only [zGb]); (try simp only [zGc])
       go_simp
       with_reducible refine (HP.out _).mono ?_
       rintro e W' ⟨rfl, hb⟩
       dsimp only
       have cS := (own_at_put (ownI_call hOw hb) (j := k) (by omega) (tabI_length _ _)).1
       have fS := (own_at_put (ownI_call hOw hb) (j := k) (by omega) (tabI_length _ _)).2
       have hOw := ownI_call hOw hb
       have hGr := grown_below hGr hb
       refine hK.out _ _ (hS.call hb) (fun hS => ?_)
       clear hK
       (try simp only [Act.put]); (try simp only [zPa]); (try simp only [zPb, zPc])
       refine tcH (i := 11) (v := .pointer (some ⟨gq, k, none⟩)) rfl (by intro w' hSw; (try dsimp only at hSw); (obtain ⟨b0, b1, b2⟩ := hSw.im.cells); (have x5 := hSw.o.x.cell 5 rfl); go_simp) ?_
       (try simp only [Act.put]); (try simp only [zPa]); (try simp only [zPb, zPc])
       refine wpAnyH_ready (rs := [12]) (by kernel_rfl) (by simp) ?_
       refine (AllReadyH.cons rfl (fun K hK => ?_) AllReadyH.nil)
       ·rw [if_pos (by kernel_rfl)]
        (try simp only [zGa]); (try simp only [zGb]); (try simp only [zGc])
        go_simp
        skip
        skip
        refine hK.out _ _ (hS.set hsq (grown_setI _ gq k _)) (fun hS => ?_)
        clear hK
        (try simp only [Act.put]); (try simp only [zPa]); (try simp only [zPb, zPc])
        refine wpAnyH_done (by kernel_rfl) ?_ _
        go_wp2_with fail
        go_roundg (n - (k + 1))
        case measure => omega
        case rel =>
         have h := (ownI_put hOw k y).1
         rw [cm_set HY.out] at h
         exact ⟨k + 1, _, rfl, by omega, by omega, by go_num, Lib.hid h, Lib.hid (hGr.trans (grown_setI _ gq k _))⟩
    ·obtain rfl : k = n := by omega
     have hr := hT.o.r
     obtain ⟨r0, r1, r2⟩ := hr.cells
     obtain ⟨m0, m1, m2⟩ := hT.im.cells
     have f0 := hr.frozen 0
     have f1 := hr.frozen 1
     have f2 := hr.frozen 2
     have HJ := Lib.hid (hr.set3 X Y (.slice (some ⟨gq, 0, none⟩) k cq))
     have HTT := Lib.hid hT
     clear hr hT
     go_wp2_with fail
     obtain ⟨s0, s1, s2⟩ := HJ.out.cells
     exact bodyPost_ret (v := .agg #[.int .i64 X, .int .i64 Y, .slice (some ⟨gq, 0, none⟩) k cq]) (by simp [results, Tryz.results154, go_sem, s0, s1, s2]) rfl (by
      unfold PicAns
      rw [HA.out]
      have e1 : tabI k (partC (fun p => fade p f.alpha) L k) = L.map (fun p => fade p f.alpha) := by
       rw [map_tab, ← Hn.out]; exact tabI_congr k fun j hj => by unfold partC; rw [if_pos hj]
      have h := Hown.out
      rw [e1] at h
      exact ans_set h (by rw [List.length_map]; exact Hn.out.symm) (by omega) (by omega) HTT.out.o.bw)
 ·rw [sfB_no hs] at HC
  have HA := Lib.hid (sfPic_no hs)
  clear hs
  have e0 := hS.x.cell 0 rfl
  have e1 := hS.x.cell 1 rfl
  have e2 := hS.x.cell 2 rfl
  have e3 := hS.x.cell 3 rfl
  have e4 := hS.x.cell 4 rfl
  have e5 := hS.x.cell 5 rfl
  have e6 := hS.x.cell 6 rfl
  have e7 := hS.x.cell 7 rfl
  have e8 := hS.x.cell 8 rfl
  have e9 := hS.x.cell 9 rfl
  have e10 := hS.x.cell 10 rfl
  go_enter Tryz.func154, Tryz.ntmps154
  go_wp2_with fail
  refine HC.out.mono ?_
  rintro e w1 ⟨rfl, hb⟩
  replace hS := hS.call hb
  clear hb
  clear e0 e1 e2 e3 e4 e5 e6 e7 e8 e9 e10
  have hr := hS.r
  obtain ⟨r0, r1, r2⟩ := hr.cells
  have f0 := hr.frozen 0
  have f1 := hr.frozen 1
  have f2 := hr.frozen 2
  have HJ := Lib.hid (hr.set3 0 0 (.slice none 0 0))
  have HS := Lib.hid hS
  clear hr hS
  go_wp2_with fail
  obtain ⟨s0, s1, s2⟩ := HJ.out.cells
  exact bodyPost_ret (v := .agg #[.int .i64 0, .int .i64 0, .slice none 0 0]) (by simp [results, Tryz.results154, go_sem, s0, s1, s2]) rfl (by unfold PicAns; rw [HA.out]; exact picZero HS.out)
end Go.Proofs.YtokniebejilcbaaGreat
