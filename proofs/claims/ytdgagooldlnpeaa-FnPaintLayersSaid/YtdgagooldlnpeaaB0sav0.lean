/- Texts of mine in one file: SfP, PnM, PnS, OcM, OcN, LyM. No statement is proved here. -/
import Derived.Test.YtdgagooldlnpeaaMAv0
import Derived.Test.YtdgagooldlnpeaaMA
import Derived.Test.YtdgagooldlnpeaaMBv0
import Derived.Test.YtdgagooldlnpeaaSfOv0
import Derived.Test.YtdgagooldlnpeaaB0nav0
import Derived.Test.YtdgagooldlnpeaaSnSv0
import Derived.Test.YtdgagooldlnpeaaProg
import Derived.WalkKit
import Derived.ProofKit
import Derived.OpenShut
import Derived.WalkLawsBesides
import Derived.WalkSpells
import Derived.ShutString
import Derived.ChangeOld
import Derived.Below
import Derived.Lib.Hide
import Derived.BigQuiet
import Derived.Deep.QuietTactic
import Derived.Maps.AppendAt
import Derived.Deep.OwnRows
import Derived.Handy
import Derived.Deep.Draws
import Derived.OwnWalk
import Derived.Deep.AppendLies
import Derived.Deep.LoopGhost
import Derived.Deep.Onto
import Derived.Deep.MidRow
import Derived.Deep.WholeRow
import Derived.Laws.BitsAllLaws
import Derived.Lib.QuoteBits
import Derived.Deep.RegionHeld3
import Derived.Deep.DeepCutAuto
import Derived.Test.YtdgagooldlnpeaaShelf
import Derived.Laws.CopyOwn
import Derived.Deep.RegionLaw
import Derived.Great.BuildSlice
import Derived.Laws.AppendOwn
import Derived.ChangeKeysEq
import Derived.Deep.RegionWith
namespace Go.Proofs.Ytdgagooldlnpeaa
open Go.RowKit
noncomputable def sfScl (f : Sf) : Im := rsIm sclN (orIm f.bw f.bh f.data f.orient).w (orIm f.bw f.bh f.data f.orient).h (orIm f.bw f.bh f.data f.orient).d (sfSize f).1 (sfSize f).2
open Classical in
noncomputable def sfPic (f : Sf) : Im := if sfOk f then ⟨(sfScl f).w, (sfScl f).h, (sfScl f).d.map fun p => fade p f.alpha⟩ else zeroIm
theorem sfPic_yes {f : Sf} (h : sfOk f) : sfPic f = ⟨(sfScl f).w, (sfScl f).h, (sfScl f).d.map fun p => fade p f.alpha⟩ := if_pos h
theorem sfPic_no {f : Sf} (h : ¬ sfOk f) : sfPic f = zeroIm := if_neg h
theorem sfScl_ok {f : Sf} (h : sfOk f) : imOk (sfScl f).w (sfScl f).h (sfScl f).d ∧ (f.w = 0 → sfScl f = orIm f.bw f.bh f.data f.orient) ∧ (f.w ≠ 0 → (sfSize f) = (f.w, f.h)) := by
 obtain ⟨_, _, _, hwh, _, ho, him⟩ := h
 obtain ⟨W, H, e1, e2, wl, wh, hl, hh, hL⟩ := im_nat him
 have ho1 := orIm_yes (o := f.orient) (by rw [← e1, ← e2]; exact him : imOk (W : Int) (H : Int) f.data) ho
 have hov := orL_ok (by rw [← e1, ← e2]; exact him : imOk (W : Int) (H : Int) f.data) ho
 unfold sfScl
 rw [e1, e2, ho1]
 by_cases h0 : f.w = 0
 ·have hs : sfSize f = ((orWn W H f.orient : Int), (orHn W H f.orient : Int)) := by
   unfold sfSize
   rw [if_pos h0, e1, e2, os_yes (by rw [← e1, ← e2]; exact him.1) ho, orW_nat, orH_nat]
  rw [hs]
  have hself := rs_self (S := sclN) (fun g k hk => sclN_self (by omega)) hov
  dsimp only
  rw [hself]
  exact ⟨hov, fun _ => rfl, fun e => absurd h0 e⟩
 ·have hs : sfSize f = (f.w, f.h) := if_neg h0
  have hsz : szOk f.w f.h := hwh.resolve_left fun e => h0 e.1
  rw [hs]
  dsimp only
  obtain ⟨p, q, ep, eq, _⟩ := sz_nat hsz
  have hsz2 := hsz
  rw [ep, eq] at hsz2 ⊢
  rw [rs_yes sclN hov hsz2]
  exact ⟨rs_valid scl_ok hov hsz2, fun e => absurd (ep.trans e) h0, fun _ => rfl⟩
def PicAns (f : Sf) (w : World) (e : Ending) (w' : World) : Prop := AnsIm (sfPic f) w e w'
structure PcB (w : World) (f : Sf) (d : Value) (V : World) : Prop where
 x : BkAt V w.heap.size 48 #[.int .i64 f.id, .int .i64 f.x, .int .i64 f.y, .int .i64 f.w, .int .i64 f.h, .int .i64 f.alpha, .int .i64 f.orient, .bool f.vis, .int .i64 f.bw, .int .i64 f.bh, d]
 r : ImAt V (w.heap.size + 1) 46 0 0 (.slice none 0 0)
 bw : Below w.heap.size w V
theorem PcB.call {w : World} {f : Sf} {d : Value} {V V' : World} (h : PcB w f d V) (hb : Below V.heap.size V V') : PcB w f d V' := ⟨h.x.call hb, h.r.call hb, belI_call h.bw hb⟩
theorem PcB.born (w : World) (f : Sf) (d : Value) : PcB w f d ((w.alloc (.cells #[.int .i64 f.id, .int .i64 f.x, .int .i64 f.y, .int .i64 f.w, .int .i64 f.h, .int .i64 f.alpha, .int .i64 f.orient, .bool f.vis, .int .i64 f.bw, .int .i64 f.bh, d] 48)).alloc (.cells #[.int .i64 0, .int .i64 0, .slice none 0 0] 46)) :=
 ⟨(BkAt.new _ _ _).alloc _, ImAt.newAt (by simp) _ _ _ _, belI_call (belI_box _ _) (belI_box _ _)⟩
theorem PcB.set {w : World} {f : Sf} {d : Value} {V V' : World} {g : Nat} (h : PcB w f d V) (hg : V.grownBy V' (some g)) (hk : w.heap.size + 2 ≤ g) : PcB w f d V' :=
 ⟨h.x.grown hg (fun e => by have := Option.some.inj e; omega), h.r.grown hg (fun e => by have := Option.some.inj e; omega), h.bw.grown hg h.bw.size (fun k e => by have := Option.some.inj e; omega)⟩
structure PcI (w : World) (f : Sf) (d : Value) (b : Nat) (X Y : Int) (u : Value) (V : World) : Prop where
 o : PcB w f d V
 im : ImAt V b 46 X Y u
theorem PcI.call {w : World} {f : Sf} {d : Value} {b : Nat} {X Y : Int} {u : Value} {V V' : World} (h : PcI w f d b X Y u V) (hb : Below V.heap.size V V') : PcI w f d b X Y u V' := ⟨h.o.call hb, h.im.call hb⟩
theorem PcI.drew {w : World} {f : Sf} {d : Value} {b : Nat} {X Y : Int} {u : Value} {V : World} (h : PcI w f d b X Y u V) : PcI w f d b X Y u V.drew := h.call (belI_drew _)
theorem PcI.set {w : World} {f : Sf} {d : Value} {b g : Nat} {X Y : Int} {u : Value} {V V' : World} (h : PcI w f d b X Y u V) (hs : w.heap.size + 2 ≤ g ∧ b ≠ g) (hg : V.grownBy V' (some g)) : PcI w f d b X Y u V' := ⟨h.o.set hg hs.1, h.im.grown hg (fun e => by have := Option.some.inj e; omega)⟩
theorem PcB.own {w : World} {f : Sf} {d : Value} {V : World} (h : PcB w f d V) : w.heap.size + 2 ≤ V.heap.size := by have := h.r.lt; omega
theorem part_zero {f : Int → Int} {L : List Int} {n : Nat} (hn : n = L.length) : tabI n (partC f L 0) = L := by
 symm; refine tabI_ext hn.symm fun j x hx => ?_
 unfold partC; rw [if_neg (by omega), List.getD_eq_getElem?_getD, hx]; rfl
theorem picZero {w : World} {f : Sf} {d : Value} {V : World} (h : PcB w f d V) : AnsIm zeroIm w (.returned (.agg #[.int .i64 0, .int .i64 0, .slice none 0 0])) (((V.setCell ⟨w.heap.size + 1, 0, none⟩ (.int .i64 0)).setCell ⟨w.heap.size + 1, 1, none⟩ (.int .i64 0)).setCell ⟨w.heap.size + 1, 2, none⟩ (.slice none 0 0)) :=
 ⟨_, rfl, ⟨rfl, .inl ⟨rfl, rfl⟩⟩, ((h.bw.setCell (by dsimp only; omega) _).setCell (by dsimp only; omega) _).setCell (by dsimp only; omega) _⟩
set_option maxHeartbeats 8000000 in
set_option maxRecDepth 10000 in
theorem picI (f : Sf) (d : Value) (w : World) (hv : RdI w d f.data) : Calls Try.prog 45 #[.agg #[.int .i64 f.id, .int .i64 f.x, .int .i64 f.y, .int .i64 f.w, .int .i64 f.h, .int .i64 f.alpha, .int .i64 f.orient, .bool f.vis, .int .i64 f.bw, .int .i64 f.bh, d]] w (PicAns f w) := by
 obtain ⟨A, c, rfl⟩ := hv.form
 have hS := PcB.born w f (.slice A f.data.length c)
 have HV := Lib.hid (hv.call hS.bw)
 have HC := Lib.hid (sfI f _ _ HV.out)
 unfold SfOkAns at HC
 clear hv
 by_cases hs : sfOk f
 ·rw [sfB_yes hs] at HC
  obtain ⟨hJ, hw0, hw1⟩ := sfScl_ok hs
  obtain ⟨X, Y, L, hX⟩ : ∃ X Y L, sfScl f = ⟨X, Y, L⟩ := ⟨_, _, _, rfl⟩
  have HA : Hid (sfPic f = ⟨X, Y, L.map fun p => fade p f.alpha⟩) := Lib.hid (by rw [sfPic_yes hs, hX])
  rw [hX] at hJ hw0
  dsimp only at hJ
  have hn1 : 1 ≤ L.length := by have := sz_pos hJ.1; have := hJ.2.1; omega
  obtain ⟨n, hn⟩ : ∃ n, n = L.length := ⟨_, rfl⟩
  have Hn := Lib.hid hn
  rw [← hn] at hn1
  have hn2 : n ≤ 256 := by have := sz_mul hJ.1; have := hJ.2.1; omega
  have hwv : f.w = 0 ∨ 0 < f.w := by rcases hs.2.2.2.1 with h | h; exact .inl h.1; exact .inr (by have := h.1; omega)
  have HX := Lib.hid hX
  obtain ⟨P, Q, I, hI⟩ : ∃ P Q I, orIm f.bw f.bh f.data f.orient = ⟨P, Q, I⟩ := ⟨_, _, _, rfl⟩
  have HK := fun (W : World) (h : RdI W (.slice A f.data.length c) f.data) => ordI_any f.bw f.bh _ f.data f.orient W h
  unfold AnsIm at HK
  rw [hI] at HK
  dsimp only at HK
  have HK := Lib.hid HK
  obtain ⟨p, hp⟩ : ∃ p, p = (sfSize f).1 := ⟨_, rfl⟩
  obtain ⟨q, hq⟩ : ∃ q, q = (sfSize f).2 := ⟨_, rfl⟩
  have HL := fun (W : World) (v : Value) (h : RdI W v I) => sclI_any P Q p q v I W h
  have hsc : rsIm sclN P Q I p q = ⟨X, Y, L⟩ := by rw [← hX, hp, hq]; unfold sfScl; rw [hI]
  unfold AnsIm at HL
  rw [hsc] at HL
  dsimp only at HL
  have HL := Lib.hid HL
  have HP := fun (W : World) (h : RdI W (.slice A f.data.length c) f.data) => psI f _ W h
  unfold TwoAns at HP
  rw [← hp, ← hq] at HP
  have HP := Lib.hid HP
  clear hs hJ hX hn hI hp hq hsc hw0 hw1 hwv
  have e0 := hS.x.cell 0 rfl
  have e1 := hS.x.cell 1 rfl
  have e2 := hS.x.cell 2 rfl
  have e3 := hS.x.cell 3 rfl
  have e4 := hS.x.cell 4 rfl
  have e5 := hS.x.cell 5 rfl
  have e6 := hS.x.cell 6 rfl
  have e7 := hS.x.cell 7 rfl
  have e8 := hS.x.cell 8 rfl
  have e9 := hS.x.cell 9 rfl
  have e10 := hS.x.cell 10 rfl
  go_enter Try.func45, Try.ntmps45
  go_wp2_with fail
  refine HC.out.mono ?_
  rintro e w1 ⟨rfl, hb⟩
  replace hS := hS.call hb
  have HV := Lib.hid (HV.out.call hb)
  clear hb
  clear e0 e1 e2 e3 e4 e5 e6 e7 e8 e9 e10
  have e0 := hS.x.cell 0 rfl
  have e1 := hS.x.cell 1 rfl
  have e2 := hS.x.cell 2 rfl
  have e3 := hS.x.cell 3 rfl
  have e4 := hS.x.cell 4 rfl
  have e5 := hS.x.cell 5 rfl
  have e6 := hS.x.cell 6 rfl
  have e7 := hS.x.cell 7 rfl
  have e8 := hS.x.cell 8 rfl
  have e9 := hS.x.cell 9 rfl
  have e10 := hS.x.cell 10 rfl
  go_wp2_with fail
  refine (HP.out _ HV.out).mono ?_
  rintro e w2 ⟨rfl, hb⟩
  replace hS := hS.call hb
  have HV := Lib.hid (HV.out.call hb)
  clear hb
  clear e0 e1 e2 e3 e4 e5 e6 e7 e8 e9 e10
  have e0 := hS.x.cell 0 rfl
  have e1 := hS.x.cell 1 rfl
  have e2 := hS.x.cell 2 rfl
  have e3 := hS.x.cell 3 rfl
  have e4 := hS.x.cell 4 rfl
  have e5 := hS.x.cell 5 rfl
  have e6 := hS.x.cell 6 rfl
  have e7 := hS.x.cell 7 rfl
  have e8 := hS.x.cell 8 rfl
  have e9 := hS.x.cell 9 rfl
  have e10 := hS.x.cell 10 rfl
  go_wp2_with fail
  refine (HK.out _ HV.out).mono ?_
  rintro e w3 ⟨vi, rfl, howI, hb⟩
  obtain ⟨Ai, ci, he⟩ := ownI_shape howI
  subst he
  have hlo0 := hS.own
  replace hS := hS.call hb
  clear hb
  clear e0 e1 e2 e3 e4 e5 e6 e7 e8 e9 e10
  skip
  have e0 := hS.x.cell 0 rfl
  have e1 := hS.x.cell 1 rfl
  have e2 := hS.x.cell 2 rfl
  have e3 := hS.x.cell 3 rfl
  have e4 := hS.x.cell 4 rfl
  have e5 := hS.x.cell 5 rfl
  have e6 := hS.x.cell 6 rfl
  have e7 := hS.x.cell 7 rfl
  have e8 := hS.x.cell 8 rfl
  have e9 := hS.x.cell 9 rfl
  have e10 := hS.x.cell 10 rfl
  go_wp2_with fail
  refine (HL.out _ _ (RdI.of_own howI)).mono ?_
  rintro e w4 ⟨vq, rfl, howJ, hb⟩
  have hlo1 := hS.own
  replace hS := hS.call hb
  clear hb howI
  clear e0 e1 e2 e3 e4 e5 e6 e7 e8 e9 e10
  rw [← Hn.out] at howJ
  obtain ⟨gq, cq, hvq, hgB, hgl⟩ := howJ.form (by omega)
  subst hvq
  obtain ⟨bo, hbo⟩ : ∃ b, b = w4.heap.size := ⟨_, rfl⟩
  have him := ImAt.newAt (w := w4) hbo.symm 46 X Y (.slice (some ⟨gq, 0, none⟩) n cq)
  obtain ⟨V0, hV0⟩ : ∃ V, V = w4.alloc (.cells #[.int .i64 X, .int .i64 Y, .slice (some ⟨gq, 0, none⟩) n cq] 46) := ⟨_, rfl⟩
  have hT : PcI w f (.slice A f.data.length c) bo X Y (.slice (some ⟨gq, 0, none⟩) n cq) V0 := by rw [hV0]; exact ⟨hS.call (belI_box _ _), him⟩
  have hown0 : V0.ownsRow (w.heap.size + 2) 3 1 (.slice (some ⟨gq, 0, none⟩) n cq) n (intCells (tabI n (partC (fun p => fade p f.alpha) L 0))) := by
   rw [hV0, part_zero Hn.out]; exact (howJ.mono (by omega)).alloc _
  have hsq : w.heap.size + 2 ≤ gq ∧ bo ≠ gq := ⟨by omega, by omega⟩
  have HV0 := Lib.hid hV0
  have Hbo := Lib.hid hbo
  obtain ⟨a0, a1, a2⟩ := hT.im.cells
  rw [hV0] at a0 a1 a2
  have hb2 : w.heap.size + 2 ≤ bo := by omega
  have HT := Lib.hid hT
  have Hsq := Lib.hid hsq
  have HO := Lib.hid hown0
  clear hT hsq him howJ hown0 hV0 hbo hgB hgl hS HV
  go_wp2_with fail
  rw [← HV0.out, ← Hbo.out]
  clear a0 a1 a2
  have Hgr0 : Hid (V0.grownBy V0 (some gq)) := Lib.hid (World.grownBy.refl _ _)
  go_loopg [6, 7, 28] n (fun g8 _ _ s28 w8 => ∃ (k : Nat) (V : World), V = w8 ∧ k ≤ n ∧ g8 = n - k ∧ s28 = .int .i64 k ∧ Hid (V.ownsRow (w.heap.size + 2) 3 1 (.slice (some ⟨gq, 0, none⟩) n cq) n (intCells (tabI n (partC (fun p => fade p f.alpha) L k)))) ∧ Hid (V0.grownBy V (some gq)))
  case atStart => exact ⟨0, _, rfl, by omega, by omega, rfl, HO, Hgr0⟩
  case round =>
   clear HO Hgr0
   obtain ⟨k, wx, hV, hk2, rfl, rfl, Hown, Hgr⟩ := hrel
   subst hV
   have hT := HT.out.set Hsq.out Hgr.out
   by_cases hkl : k < n
   ·obtain ⟨z, hz⟩ : ∃ z, L.getD k 0 = z := ⟨_, rfl⟩
    obtain ⟨y, hy⟩ : ∃ y, y = fade z f.alpha := ⟨_, rfl⟩
    have hki : (k : Int) < (n : Int) := by omega
    have k0 : (0 : Int) ≤ (k : Int) := by omega
    have HP := Lib.hid (fun (W : World) => show Calls _ _ _ _ (fun e w' => e = .returned (.int .i64 y) ∧ Below W.heap.size W w') from by have h := fadeI_any z f.alpha W; rw [← hy] at h; exact h)
    have HY : Hid ((fun p => fade p f.alpha) (L.getD k 0) = y) := Lib.hid (by show fade _ _ = y; rw [hy, hz])
    have c0 : wx.cell? ⟨gq, k, none⟩ = some (.int .i64 z) := by
     rw [Hown.out.cellAt k (by omega), intCells_get, tabI_get n _ k hkl]
     unfold partC; rw [if_neg (by omega), hz]; rfl
    have hsq := Hsq.out
    have hOw := Hown.out
    clear hz hy
    have b0 := hT.im.cells.1
    have b1 := hT.im.cells.2.1
    have b2 := hT.im.cells.2.2
    have x5 := hT.o.x.cell 5 rfl
    go_upto_region 8 with fail
    clear c0 b0 b1 b2 x5
    refine wp_region_held_drew (S := fun V => PcI w f (.slice A f.data.length c) bo X Y (.slice (some ⟨gq, 0, none⟩) n cq) V) (by kernel_rfl) hT.drew (fun hS => ?_)
    replace hOw := show World.ownsRow wx.drew _ _ _ _ _ _ from Hown.out
    have hGr := show World.grownBy V0 wx.drew _ from Hgr.out.trans (grown_dr _ _)
    refine tcH (i := 0) (v := .pointer (some ⟨bo, 2, none⟩)) rfl (by intro w' hSw; (try dsimp only at hSw); (obtain ⟨b0, b1, b2⟩ := hSw.im.cells); (have x5 := hSw.o.x.cell 5 rfl); go_simp) ?_
    refine tcH (i := 1) (v := .slice (some ⟨gq, 0, none⟩) n cq) rfl (by intro w' hSw; (try dsimp only at hSw); (obtain ⟨b0, b1, b2⟩ := hSw.im.cells); (have x5 := hSw.o.x.cell 5 rfl); go_simp) ?_
    refine tcH (i := 2) (v := .int .i64 (k : Int)) rfl (by intro w' hSw; (try dsimp only at hSw); (obtain ⟨b0, b1, b2⟩ := hSw.im.cells); (have x5 := hSw.o.x.cell 5 rfl); go_simp) ?_
    refine tcH (i := 3) (v := .int .i64 z) rfl (by intro w' hSw; (try dsimp only at hSw); (obtain ⟨b0, b1, b2⟩ := hSw.im.cells); (have x5 := hSw.o.x.cell 5 rfl); go_simp) ?_
    refine tcH (i := 4) (v := .pointer (some ⟨w.heap.size, 5, none⟩)) rfl (by intro w' hSw; (try dsimp only at hSw); (obtain ⟨b0, b1, b2⟩ := hSw.im.cells); (have x5 := hSw.o.x.cell 5 rfl); go_simp) ?_
    refine tcH (i := 5) (v := .int .i64 f.alpha) rfl (by intro w' hSw; (try dsimp only at hSw); (obtain ⟨b0, b1, b2⟩ := hSw.im.cells); (have x5 := hSw.o.x.cell 5 rfl); go_simp) ?_
    (try simp only [Act.put]); (try simp only [zPa]); (try simp only [zPb, zPc])
    refine wpAnyH_ready (rs := [6]) (by kernel_rfl) (by simp) ?_
    refine (AllReadyH.cons rfl (fun K hK => ?_) AllReadyH.nil)
    ·rw [if_pos (by kernel_rfl)]
     (try simp only [zGa]); (try simp only [zGb]); (try simp only [zGc])
     go_simp
     with_reducible refine (HP.out _).mono ?_
     rintro e W' ⟨rfl, hb⟩
     dsimp only
     have cS := (own_at_put (ownI_call hOw hb) (j := k) (by omega) (tabI_length _ _)).1
     have fS := (own_at_put (ownI_call hOw hb) (j := k) (by omega) (tabI_length _ _)).2
     have hOw := ownI_call hOw hb
     have hGr := grown_below hGr hb
     refine hK.out _ _ (hS.call hb) (fun hS => ?_)
     clear hK
     (try simp only [Act.put]); (try simp only [zPa]); (try simp only [zPb, zPc])
     refine tcH (i := 7) (v := .pointer (some ⟨gq, k, none⟩)) rfl (by intro w' hSw; (try dsimp only at hSw); (obtain ⟨b0, b1, b2⟩ := hSw.im.cells); (have x5 := hSw.o.x.cell 5 rfl); go_simp) ?_
     (try simp only [Act.put]); (try simp only [zPa]); (try simp only [zPb, zPc])
     refine wpAnyH_ready (rs := [8]) (by kernel_rfl) (by simp) ?_
     refine (AllReadyH.cons rfl (fun K hK => ?_) AllReadyH.nil)
     ·rw [if_pos (by kernel_rfl)]
      (try simp only [zGa]); (try simp only [zGb]); (try simp only [zGc])
      go_simp
      skip
      skip
      refine hK.out _ _ (hS.set hsq (grown_setI _ gq k _)) (fun hS => ?_)
      clear hK
      (try simp only [Act.put]); (try simp only [zPa]); (try simp only [zPb, zPc])
      refine wpAnyH_done (by kernel_rfl) ?_ _
      go_wp2_with fail
      go_roundg (n - (k + 1))
      case measure => omega
      case rel =>
       have h := (ownI_put hOw k y).1
       rw [cm_set HY.out] at h
       exact ⟨k + 1, _, rfl, by omega, by omega, by go_num, Lib.hid h, Lib.hid (hGr.trans (grown_setI _ gq k _))⟩
   ·obtain rfl : k = n := by omega
    have hr := hT.o.r
    obtain ⟨r0, r1, r2⟩ := hr.cells
    obtain ⟨m0, m1, m2⟩ := hT.im.cells
    have f0 := hr.frozen 0
    have f1 := hr.frozen 1
    have f2 := hr.frozen 2
    have HJ := Lib.hid (hr.set3 X Y (.slice (some ⟨gq, 0, none⟩) k cq))
    have HTT := Lib.hid hT
    clear hr hT
    go_wp2_with fail
    obtain ⟨s0, s1, s2⟩ := HJ.out.cells
    exact bodyPost_ret (v := .agg #[.int .i64 X, .int .i64 Y, .slice (some ⟨gq, 0, none⟩) k cq]) (by simp [results, Try.results45, go_sem, s0, s1, s2]) rfl (by
     unfold PicAns
     rw [HA.out]
     have e1 : tabI k (partC (fun p => fade p f.alpha) L k) = L.map (fun p => fade p f.alpha) := by
      rw [map_tab, ← Hn.out]; exact tabI_congr k fun j hj => by unfold partC; rw [if_pos hj]
     have h := Hown.out
     rw [e1] at h
     exact ans_set h (by rw [List.length_map]; exact Hn.out.symm) (by omega) (by omega) HTT.out.o.bw)
 ·rw [sfB_no hs] at HC
  have HA := Lib.hid (sfPic_no hs)
  clear hs
  have e0 := hS.x.cell 0 rfl
  have e1 := hS.x.cell 1 rfl
  have e2 := hS.x.cell 2 rfl
  have e3 := hS.x.cell 3 rfl
  have e4 := hS.x.cell 4 rfl
  have e5 := hS.x.cell 5 rfl
  have e6 := hS.x.cell 6 rfl
  have e7 := hS.x.cell 7 rfl
  have e8 := hS.x.cell 8 rfl
  have e9 := hS.x.cell 9 rfl
  have e10 := hS.x.cell 10 rfl
  go_enter Try.func45, Try.ntmps45
  go_wp2_with fail
  refine HC.out.mono ?_
  rintro e w1 ⟨rfl, hb⟩
  replace hS := hS.call hb
  clear hb
  clear e0 e1 e2 e3 e4 e5 e6 e7 e8 e9 e10
  have hr := hS.r
  obtain ⟨r0, r1, r2⟩ := hr.cells
  have f0 := hr.frozen 0
  have f1 := hr.frozen 1
  have f2 := hr.frozen 2
  have HJ := Lib.hid (hr.set3 0 0 (.slice none 0 0))
  have HS := Lib.hid hS
  clear hr hS
  go_wp2_with fail
  obtain ⟨s0, s1, s2⟩ := HJ.out.cells
  exact bodyPost_ret (v := .agg #[.int .i64 0, .int .i64 0, .slice none 0 0]) (by simp [results, Try.results45, go_sem, s0, s1, s2]) rfl (by unfold PicAns; rw [HA.out]; exact picZero HS.out)
end Go.Proofs.Ytdgagooldlnpeaa
namespace Go.Proofs.Ytdgagooldlnpeaa
open Go.RowKit
theorem fade_ok {p al : Int} (hp : pixOk p) (ha : chOk al) : pixOk (fade p al) := by
 unfold fade; rw [if_pos ⟨hp, ha⟩]; exact pack_ok (part_ok (ch_0 hp) ha) (ch_1 p) (ch_2 p) (ch_3 p)
theorem sfSize_scl {f : Sf} (h : sfOk f) : (sfScl f).w = (sfSize f).1 ∧ (sfScl f).h = (sfSize f).2 := by
 obtain ⟨_, _, _, hwh, _, ho, him⟩ := h
 obtain ⟨W, H, e1, e2, wl, wh, hl, hh, hL⟩ := im_nat him
 have him' : imOk (W : Int) (H : Int) f.data := by rw [← e1, ← e2]; exact him
 have ho1 := orIm_yes him' ho
 have hov := orL_ok him' ho
 have hs : szOk (sfSize f).1 (sfSize f).2 := by
  by_cases h0 : f.w = 0
  ·unfold sfSize; rw [if_pos h0, e1, e2, os_yes him'.1 ho, orW_nat, orH_nat]; exact hov.1
  ·unfold sfSize; rw [if_neg h0]; exact hwh.resolve_left fun e => h0 e.1
 unfold sfScl
 rw [e1, e2, ho1]
 dsimp only
 obtain ⟨p, q, ep, eq, _⟩ := sz_nat hs
 rw [ep, eq] at hs ⊢
 rw [rs_yes sclN hov hs]
 exact ⟨rfl, rfl⟩
theorem sfPic_ok {f : Sf} (h : sfOk f) : (sfPic f).w = (sfSize f).1 ∧ (sfPic f).h = (sfSize f).2 ∧ imOk (sfPic f).w (sfPic f).h (sfPic f).d := by
 rw [sfPic_yes h]
 obtain ⟨h1, h2⟩ := sfSize_scl h
 obtain ⟨a, b, c⟩ := (sfScl_ok h).1
 refine ⟨h1, h2, a, by rw [List.length_map]; exact b, fun k x hx => ?_⟩
 rw [List.getElem?_map] at hx
 obtain ⟨y, hy, rfl⟩ := Option.map_eq_some_iff.1 hx
 exact fade_ok (c k y hy) h.2.2.2.2.1
def pnPx (W : Nat) (x y : Int) (P : Im) (k : Nat) : Int := P.d.getD ((((k / W : Nat) : Int) - y) * P.w + (((k % W : Nat) : Int) - x)).toNat 0
noncomputable def pnF (W : Nat) (f : Sf) (D : Nat → Int) : Nat → Int := fun k => if hasB (sfRect f) (k % W : Nat) (k / W : Nat) = true then over (pnPx W f.x f.y (sfPic f) k) (D k) else D k
noncomputable def pn1 (W : Nat) (D : List Int) (f : Sf) : List Int := tabI D.length (pnF W f (fun k => D.getD k 0))
noncomputable def pnL (W : Nat) (D : List Int) (fs : List Sf) : List Int := fs.foldl (pn1 W) D
open Classical in
noncomputable def pnIm (s : Sn) : Im := if snOk s then ⟨s.w, s.h, pnL s.w.toNat (flatN s.w s.h s.back) s.fs⟩ else zeroIm
theorem pnIm_yes {s : Sn} (h : snOk s) : pnIm s = ⟨s.w, s.h, pnL s.w.toNat (flatN s.w s.h s.back) s.fs⟩ := if_pos h
theorem pnIm_no {s : Sn} (h : ¬ snOk s) : pnIm s = zeroIm := if_neg h
theorem pn1_len (W : Nat) (D : List Int) (f : Sf) : (pn1 W D f).length = D.length := tabI_length _ _
theorem pnL_len (W : Nat) (D : List Int) (fs : List Sf) : (pnL W D fs).length = D.length := by
 unfold pnL
 induction fs generalizing D with
 | nil => rfl
 | cons f fs ih => rw [List.foldl_cons, ih, pn1_len]
theorem pnL_take (W : Nat) (D : List Int) {L : List Sf} {k : Nat} {f : Sf} (h : L[k]? = some f) : pnL W D (L.take (k + 1)) = pn1 W (pnL W D (L.take k)) f := by
 unfold pnL
 rw [List.take_add_one, h, Option.toList_some, List.foldl_append]; rfl
theorem has_pic {f : Sf} {x y : Int} (h : hasB (sfRect f) x y = true) : sfOk f ∧ (0 ≤ x - f.x ∧ x - f.x < (sfPic f).w) ∧ (0 ≤ y - f.y ∧ y - f.y < (sfPic f).h) ∧ sfRect f = ⟨f.x, f.y, (sfPic f).w, (sfPic f).h⟩ := by
 by_cases ho : sfOk f ∧ f.vis = true
 ·obtain ⟨e1, e2, _⟩ := sfPic_ok ho.1
  have hr := sfRect_yes ho.1 ho.2
  rw [← e1, ← e2] at hr
  rw [hr] at h
  unfold hasB at h
  have h := (of_decide_eq_true h).2
  dsimp only at h
  exact ⟨ho.1, by omega, by omega, hr⟩
 ·rw [sfRect_no ho] at h
  unfold hasB at h
  have h := (of_decide_eq_true h).2
  dsimp only at h
  omega
theorem pnPx_ok {W : Nat} {f : Sf} {k : Nat} (h : hasB (sfRect f) (k % W : Nat) (k / W : Nat) = true) : pixOk (pnPx W f.x f.y (sfPic f) k) := by
 obtain ⟨ho, hx, hy, _⟩ := has_pic h
 have him := (sfPic_ok ho).2.2
 obtain ⟨_, _, p0, p1, _⟩ := px_place him hx hy
 unfold pnPx
 generalize hj : ((((k / W : Nat) : Int) - f.y) * (sfPic f).w + (((k % W : Nat) : Int) - f.x)).toNat = j
 have hl : j < (sfPic f).d.length := by omega
 have e := List.getElem?_eq_getElem hl
 rw [List.getD_eq_getElem?_getD, e]
 exact him.2.2 j _ e
theorem over_pix {p q : Int} (hp : pixOk p) (hq : pixOk q) : pixOk (over p q) := by unfold over; rw [if_pos ⟨hp, hq⟩]; exact overK_ok hp q
def allPix (D : List Int) : Prop := ∀ (k : Nat) (x : Int), D[k]? = some x → pixOk x
theorem pn1_pix {W : Nat} {D : List Int} {f : Sf} (h : allPix D) : allPix (pn1 W D f) := by
 intro k x hx
 have hk : k < D.length := by have := (List.getElem?_eq_some_iff.1 hx).1; rwa [pn1_len] at this
 unfold pn1 at hx
 rw [tabI_get _ _ k hk] at hx
 injection hx with hx
 have e := List.getElem?_eq_getElem hk
 have hd : pixOk (D.getD k 0) := by rw [List.getD_eq_getElem?_getD, e]; exact h k _ e
 rw [← hx]
 unfold pnF
 by_cases hb : hasB (sfRect f) (k % W : Nat) (k / W : Nat) = true
 ·rw [if_pos hb]; exact over_pix (pnPx_ok hb) hd
 ·rw [if_neg hb]; exact hd
theorem pnL_pix {W : Nat} {D : List Int} (fs : List Sf) (h : allPix D) : allPix (pnL W D fs) := by
 unfold pnL
 induction fs generalizing D with
 | nil => exact h
 | cons f fs ih => rw [List.foldl_cons]; exact ih (pn1_pix h)
theorem pnL_ok {W H : Int} {p : Int} {fs : List Sf} (h : szOk W H) (hp : pixOk p) : imOk W H (pnL W.toNat (flatN W H p) fs) := by
 have hf := flat_ok h hp
 exact ⟨h, by rw [pnL_len]; exact hf.2.1, pnL_pix fs hf.2.2⟩
theorem pnIm_ok {s : Sn} (h : snOk s) : imOk (pnIm s).w (pnIm s).h (pnIm s).d := by
 rw [pnIm_yes h]; exact pnL_ok h.1 h.2.1.1
noncomputable def pnAt (s : Sn) (x y : Int) : Int := pxOf (pnIm s).w (pnIm s).h (pnIm s).d x y
def pnS (W : Nat) (g f : Nat → Int) (X Y n y x : Nat) : Nat → Int := fun k =>
 if X ≤ k % W ∧ k % W < X + n ∧ Y ≤ k / W ∧ (k / W < y ∨ k / W = y ∧ k % W < x) then over (g k) (f k) else f k
theorem pnS_start (W : Nat) (g f : Nat → Int) (X Y n k : Nat) : pnS W g f X Y n Y X k = f k := if_neg (by omega)
theorem pnS_row (W : Nat) (g f : Nat → Int) (X Y n y k : Nat) : pnS W g f X Y n y (X + n) k = pnS W g f X Y n (y + 1) X k := by
 unfold pnS
 by_cases h : X ≤ k % W ∧ k % W < X + n ∧ Y ≤ k / W ∧ (k / W < y ∨ k / W = y ∧ k % W < X + n)
 ·rw [if_pos h, if_pos (by omega)]
 ·rw [if_neg h, if_neg (by omega)]
theorem pnS_at (W : Nat) (g f : Nat → Int) (X Y n y x : Nat) (hW : x < W) : pnS W g f X Y n y x (y * W + x) = f (y * W + x) := by
 unfold pnS; rw [plc_div y hW, plc_mod y hW, if_neg (by omega)]
theorem pnS_set (W : Nat) (g f : Nat → Int) (X Y n y x k : Nat) (hW : x < W) (hx : X ≤ x) (hx2 : x < X + n) (hy : Y ≤ y) {v : Int} (hv : v = over (g (y * W + x)) (f (y * W + x))) :
  (if k = y * W + x then v else pnS W g f X Y n y x k) = pnS W g f X Y n y (x + 1) k := by
 by_cases e : k = y * W + x
 ·rw [if_pos e]
  subst e
  unfold pnS
  rw [plc_div y hW, plc_mod y hW, if_pos ⟨hx, hx2, hy, by omega⟩, hv]
 ·rw [if_neg e]
  have e' := mt (plc_iff y k hW).2 e
  unfold pnS
  by_cases h : X ≤ k % W ∧ k % W < X + n ∧ Y ≤ k / W ∧ (k / W < y ∨ k / W = y ∧ k % W < x)
  ·rw [if_pos h, if_pos (by omega)]
  ·rw [if_neg h, if_neg (by omega)]
end Go.Proofs.Ytdgagooldlnpeaa
namespace Go.Proofs.Ytdgagooldlnpeaa
open Go.RowKit
structure PnA (w : World) (W H : Nat) (sb : Int) (fs : List Sf) (v : Value) (bs : List Nat) (bo : Nat) (u : Value) (V : World) : Prop where
 a : SnA w.heap.size ⟨W, H, sb, fs⟩ v bs V
 r : ImAt V (w.heap.size + 1) 46 0 0 (.slice none 0 0)
 o : ImAt V bo 46 W H u
 bw : Below w.heap.size w V
theorem PnA.call {w : World} {W H : Nat} {sb : Int} {fs : List Sf} {v : Value} {bs : List Nat} {bo : Nat} {u : Value} {V V' : World} (h : PnA w W H sb fs v bs bo u V) (hb : Below V.heap.size V V') : PnA w W H sb fs v bs bo u V' := ⟨h.a.call hb, h.r.call hb, h.o.call hb, belI_call h.bw hb⟩
theorem PnA.set {w : World} {W H : Nat} {sb : Int} {fs : List Sf} {v : Value} {bs : List Nat} {bo gq : Nat} {u : Value} {V V' : World} (h : PnA w W H sb fs v bs bo u V) (ho : (∀ b ∈ bs, b < w.heap.size) ∧ w.heap.size + 1 < gq ∧ bo ≠ gq) (hg : V.grownBy V' (some gq)) : PnA w W H sb fs v bs bo u V' :=
 ⟨⟨h.a.at_.grown hg (fun e => by have := Option.some.inj e; omega), Rep.chg h.a.r (Chg.of_grown hg) fun b hb e => by have := ho.1 b hb; have : b = gq := (by simpa using e); omega⟩, h.r.grown hg (fun e => by have := Option.some.inj e; omega), h.o.grown hg (fun e => ho.2.2 (Option.some.inj e)), h.bw.grown hg h.bw.size (fun k e => by have := Option.some.inj e; omega)⟩
theorem PnA.cells {w : World} {W H : Nat} {sb : Int} {fs : List Sf} {v : Value} {bs : List Nat} {bo : Nat} {u : Value} {V : World} (h : PnA w W H sb fs v bs bo u V) : V.cell? ⟨w.heap.size, 0, none⟩ = some (.int .i64 W) ∧ V.cell? ⟨w.heap.size, 1, none⟩ = some (.int .i64 H) ∧ V.cell? ⟨w.heap.size, 2, none⟩ = some (.int .i64 sb) ∧ V.cell? ⟨w.heap.size, 3, none⟩ = some v := h.a.cells
end Go.Proofs.Ytdgagooldlnpeaa
namespace Go.Proofs.Ytdgagooldlnpeaa
open Go.RowKit
noncomputable def ocR (W H : Int) (f : Sf) : Rc := isect (sfRect f) ⟨0, 0, W, H⟩
theorem sfRect_ok (f : Sf) : (sfRect f).ok := by
 by_cases h : sfOk f ∧ f.vis = true
 ·obtain ⟨e1, e2, e3⟩ := sfPic_ok h.1
  rw [sfRect_yes h.1 h.2, ← e1, ← e2]
  have h1 := e3.1
  obtain ⟨_, hx, hy, _⟩ := h.1
  unfold szOk at h1
  unfold Rc.ok
  dsimp only
  omega
 ·rw [sfRect_no h]; unfold Rc.ok; dsimp only; omega
structure InScr (W H : Nat) (r : Rc) : Prop where
 n : ∃ X Y w h : Nat, r = ⟨X, Y, w, h⟩ ∧ X + w ≤ W ∧ Y + h ≤ H
theorem scr_ok {W H : Nat} (wl : 1 ≤ W ∧ W ≤ 16) (hl : 1 ≤ H ∧ H ≤ 16) : (⟨0, 0, (W : Int), (H : Int)⟩ : Rc).ok := by unfold Rc.ok; dsimp only; omega
theorem ocR_in {W H : Nat} (wl : 1 ≤ W ∧ W ≤ 16) (hl : 1 ≤ H ∧ H ≤ 16) (f : Sf) : InScr W H (ocR W H f) := by
 have hr := sfRect_ok f
 have hs := scr_ok wl hl
 unfold ocR
 generalize sfRect f = r at hr
 refine ⟨?_⟩
 rcases isect_cases r ⟨0, 0, W, H⟩ hr hs with ⟨h, e⟩ | ⟨h, e⟩
 ·rw [e]; unfold isectRaw; unfold isectIn at h; dsimp only at h ⊢
  refine ⟨(max r.x 0).toNat, (max r.y 0).toNat, (min (r.x + r.w) (0 + W) - max r.x 0).toNat, (min (r.y + r.h) (0 + H) - max r.y 0).toNat, ?_, by omega, by omega⟩
  rw [show (((max r.x 0).toNat : Nat) : Int) = max r.x 0 by omega, show (((max r.y 0).toNat : Nat) : Int) = max r.y 0 by omega, show (((min (r.x + r.w) (0 + W) - max r.x 0).toNat : Nat) : Int) = min (r.x + r.w) (0 + W) - max r.x 0 by omega, show (((min (r.y + r.h) (0 + H) - max r.y 0).toNat : Nat) : Int) = min (r.y + r.h) (0 + H) - max r.y 0 by omega]
 ·rw [e]; exact ⟨0, 0, 0, 0, rfl, by omega, by omega⟩
def inRc (r : Rc) (p q : Nat) : Prop := r.x ≤ p ∧ (p : Int) < r.x + r.w ∧ r.y ≤ q ∧ (q : Int) < r.y + r.h
theorem ocR_has {W H : Nat} (wl : 1 ≤ W ∧ W ≤ 16) (hl : 1 ≤ H ∧ H ≤ 16) (f : Sf) (p q : Nat) : inRc (ocR W H f) p q ↔ (hasB (sfRect f) p q = true ∧ p < W ∧ q < H) := by
 have hr := sfRect_ok f
 have hs := scr_ok wl hl
 unfold ocR inRc
 generalize sfRect f = r at hr
 have hh : hasB r p q = true ↔ (r.x ≤ p ∧ (p : Int) < r.x + r.w ∧ r.y ≤ q ∧ (q : Int) < r.y + r.h) := by
  unfold hasB
  rw [decide_eq_true_iff]
  exact ⟨fun h => h.2, fun h => ⟨hr, h⟩⟩
 rw [hh]
 rcases isect_cases r ⟨0, 0, W, H⟩ hr hs with ⟨h, e⟩ | ⟨h, e⟩
 ·rw [e]; unfold isectRaw; unfold isectIn at h; dsimp only at h ⊢; omega
 ·rw [e]; unfold isectIn at h; dsimp only at h ⊢; omega
theorem InScr.gridOf {W H : Nat} {r : Rc} (h : InScr W H r) (hW : W ≤ 16) (hH : H ≤ 16) (p q : Nat) (hp : p < 16) : gridOf [r] (q * 16 + p) = true ↔ inRc r p q := by
 obtain ⟨X, Y, w, hh, rfl, h1, h2⟩ := h.n
 have e1 : (q * 16 + p) % 16 = p := by omega
 have e2 : (q * 16 + p) / 16 = q := by omega
 rw [gridOf_iff, e1, e2]
 unfold inRc
 constructor
 ·rintro ⟨r, hr, _, h⟩
  obtain rfl := List.mem_singleton.1 hr
  exact h
 ·intro h
  refine ⟨_, List.mem_singleton.2 rfl, ?_, h⟩
  unfold Rc.ok
  dsimp only
  omega
noncomputable def ocF (W : Nat) (f : Sf) (L : List Rc) (D : Nat → Int) : Nat → Int := fun k => if gridOf L (k / W * 16 + k % W) = true then over (pnPx W f.x f.y (sfPic f) k) (D k) else D k
noncomputable def oc1 (W : Nat) (D : List Int) (f : Sf) (L : List Rc) : List Int := tabI D.length (ocF W f L (fun k => D.getD k 0))
def Apart (L : List Rc) : Prop := L.Pairwise fun a b => ∀ p q : Nat, inRc a p q → ¬ inRc b p q
theorem one_apart (r : Rc) : Apart [r] := List.pairwise_singleton _ _
structure PartsOk (W H : Nat) (f : Sf) (L : List Rc) : Prop where
 scr : ∀ r ∈ L, InScr W H r
 pic : ∀ r ∈ L, ∀ p q : Nat, inRc r p q → hasB (sfRect f) p q = true
 ap : Apart L
theorem parts_one {W H : Nat} (wl : 1 ≤ W ∧ W ≤ 16) (hl : 1 ≤ H ∧ H ≤ 16) (f : Sf) : PartsOk W H f [ocR W H f] :=
 ⟨fun r hr => by rw [List.mem_singleton.1 hr]; exact ocR_in wl hl f, fun r hr p q h => by rw [List.mem_singleton.1 hr] at h; exact ((ocR_has wl hl f p q).1 h).1, one_apart _⟩
theorem oc1_one {W H : Nat} (wl : 1 ≤ W ∧ W ≤ 16) (hl : 1 ≤ H ∧ H ≤ 16) {D : List Int} (hD : D.length = W * H) (f : Sf) : oc1 W D f [ocR W H f] = pn1 W D f := by
 unfold oc1 pn1
 refine tabI_congr _ fun k hk => ?_
 rw [hD] at hk
 have h1 := plc_row hk
 have h2 := Nat.mod_lt k (plc_pos hk)
 have h3 := (ocR_in wl hl f).gridOf wl.2 hl.2 (k % W) (k / W) (by omega)
 rw [ocR_has wl hl] at h3
 unfold ocF pnF
 by_cases c : gridOf [ocR W H f] (k / W * 16 + k % W) = true
 ·rw [if_pos c, if_pos (h3.1 c).1]
 ·rw [if_neg c, if_neg fun e => c (h3.2 ⟨e, h2, h1⟩)]
theorem ocF_nil (W : Nat) (f : Sf) (D : Nat → Int) (k : Nat) : ocF W f [] D k = D k := by unfold ocF; rw [gridOf_nil]; rfl
theorem ocF_next {W H : Nat} (wl : 1 ≤ W ∧ W ≤ 16) (hl : 1 ≤ H ∧ H ≤ 16) {f : Sf} {L : List Rc} (hL : PartsOk W H f L) {D : Nat → Int} {j X Y n h : Nat} (hr : L[j]? = some ⟨X, Y, n, h⟩) (k : Nat) (hk : k < W * H) :
  pnS W (pnPx W f.x f.y (sfPic f)) (ocF W f (L.take j) D) X Y n (Y + h) X k = ocF W f (L.take (j + 1)) D k := by
 have h1 := plc_row hk
 have h2 := Nat.mod_lt k (plc_pos hk)
 have hm := List.mem_of_getElem? hr
 have hi := hL.scr _ hm
 have hg := hi.gridOf wl.2 hl.2 (k % W) (k / W) (by omega)
 have ht : L.take (j + 1) = L.take j ++ [⟨X, Y, n, h⟩] := by rw [List.take_add_one, hr]; rfl
 have hno : inRc ⟨X, Y, n, h⟩ (k % W) (k / W) → gridOf (L.take j) (k / W * 16 + k % W) = false := fun hin => by
  rcases e : gridOf (L.take j) (k / W * 16 + k % W) with _ | _
  ·rfl
  ·rw [gridOf_iff, show (k / W * 16 + k % W) % 16 = k % W by omega, show (k / W * 16 + k % W) / 16 = k / W by omega] at e
   obtain ⟨r, hr2, _, h5⟩ := e
   have hp := hL.ap
   have hs : L = L.take j ++ L.drop j := (List.take_append_drop j L).symm
   unfold Apart at hp
   rw [hs, List.pairwise_append] at hp
   have hd : (⟨X, Y, n, h⟩ : Rc) ∈ L.drop j := List.mem_of_getElem? (i := 0) (by rw [List.getElem?_drop]; exact hr)
   exact absurd hin (hp.2.2 r hr2 _ hd _ _ h5)
 unfold pnS
 by_cases c : inRc ⟨X, Y, n, h⟩ (k % W) (k / W)
 ·have hn := hno c
  have hy : gridOf (L.take (j + 1)) (k / W * 16 + k % W) = true := by rw [ht, gridOf_append, (hg.2 c), Bool.or_true]
  have c' := c
  unfold inRc at c'
  dsimp only at c'
  rw [if_pos (by omega)]
  unfold ocF
  rw [hn, hy]
  rfl
 ·have c' := c
  unfold inRc at c'
  dsimp only at c'
  rw [if_neg (by omega)]
  have hf : gridOf [⟨(X : Int), (Y : Int), (n : Int), (h : Int)⟩] (k / W * 16 + k % W) = false := by
   rcases e : gridOf [⟨(X : Int), (Y : Int), (n : Int), (h : Int)⟩] (k / W * 16 + k % W) with _ | _
   ·rfl
   ·exact absurd (hg.1 e) c
  unfold ocF
  rw [ht, gridOf_append, hf, Bool.or_false]
end Go.Proofs.Ytdgagooldlnpeaa
namespace Go.Proofs.Ytdgagooldlnpeaa
open Go.RowKit
noncomputable def ptA (W : Nat) (k : Nat) (f : Sf) (a : Int) : Int := if hasB (sfRect f) (k % W : Nat) (k / W : Nat) = true then over (pnPx W f.x f.y (sfPic f) k) a else a
theorem pn1_at {W : Nat} {D : List Int} {f : Sf} {k : Nat} (hk : k < D.length) : (pn1 W D f).getD k 0 = ptA W k f (D.getD k 0) := by
 unfold pn1
 rw [tabI_getD _ _ _ hk]
 rfl
end Go.Proofs.Ytdgagooldlnpeaa
namespace Go.Proofs.Ytdgagooldlnpeaa
open Go.RowKit
theorem take_ok {s : Sn} (hs : snOk s) (n : Nat) : snOk ⟨s.w, s.h, s.back, s.fs.take n⟩ := by
 have hsub := List.take_sublist n s.fs
 obtain ⟨h1, h2, h3, h4⟩ := hs
 refine ⟨h1, h2, Nat.le_trans hsub.length_le h3, fun k f hf => ?_⟩
 have hn := (ids_nodup (L := s.fs)).1 fun k f h => (h4 k f h).2
 have hm : f ∈ s.fs := hsub.subset (List.mem_of_getElem? hf)
 obtain ⟨j, hj⟩ := List.getElem?_of_mem hm
 exact ⟨(h4 j f hj).1, (ids_nodup (L := s.fs.take n)).2 (hn.sublist (hsub.map _)) k f hf⟩
theorem ly_flat {W H : Nat} {p : Int} : (flatN (W : Int) (H : Int) p).length = W * H := by
 unfold flatN
 rw [tabI_length, ← Int.natCast_mul, Int.toNat_natCast]
theorem ly_at {W H : Nat} {b : Int} {fs : List Sf} (hs : snOk ⟨W, H, b, fs⟩) {k : Nat} (hk : k < W * H) : pnAt ⟨W, H, b, fs⟩ ((k % W : Nat) : Int) ((k / W : Nat) : Int) = (pnL W (flatN W H b) fs).getD k 0 := by
 have hok := pnIm_ok hs
 have h1 := plc_row hk
 have h2 := Nat.mod_lt k (plc_pos hk)
 unfold pnAt
 rw [pnIm_yes hs] at hok ⊢
 dsimp only at hok ⊢
 rw [Int.toNat_natCast] at hok ⊢
 rw [pxOf_in hok ⟨Int.natCast_nonneg _, Int.ofNat_lt.2 h2⟩ ⟨Int.natCast_nonneg _, Int.ofNat_lt.2 h1⟩]
 congr 1
 have h3 := Nat.div_add_mod k W
 have h4 : ((k / W : Nat) : Int) * (W : Int) = ((k / W * W : Nat) : Int) := by rw [Int.natCast_mul]
 rw [h4, Nat.mul_comm, ← Int.natCast_add, Int.toNat_natCast, h3]
theorem ly_empty {W H : Nat} {b : Int} (hs : snOk ⟨W, H, b, []⟩) : pnAt ⟨W, H, b, []⟩ 0 0 = b := by
 have hw := hs.1
 unfold szOk at hw
 dsimp only at hw
 have hk : 0 < W * H := Nat.mul_pos (by omega) (by omega)
 have h := ly_at hs hk
 rw [Nat.zero_mod, Nat.zero_div] at h
 rw [show ((0 : Nat) : Int) = 0 from rfl] at h
 rw [h]
 show (flatN (W : Int) (H : Int) b).getD 0 0 = b
 unfold flatN
 rw [tabI_getD _ _ _ (by rw [← Int.natCast_mul, Int.toNat_natCast]; exact hk)]
theorem ly_px {W : Nat} {f : Sf} {k : Nat} (hb : hasB (sfRect f) (k % W : Nat) (k / W : Nat) = true) : pxOf (sfPic f).w (sfPic f).h (sfPic f).d (((k % W : Nat) : Int) - (sfRect f).x) (((k / W : Nat) : Int) - (sfRect f).y) = pnPx W f.x f.y (sfPic f) k ∧ pixOk (pnPx W f.x f.y (sfPic f) k) := by
 obtain ⟨ho, hx, hy, hr⟩ := has_pic hb
 refine ⟨?_, pnPx_ok hb⟩
 rw [hr]
 exact pxOf_in (sfPic_ok ho).2.2 hx hy
theorem ly_top {W H : Nat} {b : Int} {fs : List Sf} {n : Nat} {f : Sf} (hn : fs.length = n + 1) (hf : fs[n]? = some f) {k : Nat} (hk : k < W * H) :
  (pnL W (flatN W H b) fs).getD k 0 = if hasB (sfRect f) (k % W : Nat) (k / W : Nat) = true then over (pnPx W f.x f.y (sfPic f) k) ((pnL W (flatN W H b) (fs.take n)).getD k 0) else (pnL W (flatN W H b) (fs.take n)).getD k 0 := by
 have h := pnL_take W (flatN W H b) hf
 rw [List.take_of_length_le (by omega)] at h
 rw [h, pn1_at (by rw [pnL_len, ly_flat]; exact hk)]
 rfl
end Go.Proofs.Ytdgagooldlnpeaa
