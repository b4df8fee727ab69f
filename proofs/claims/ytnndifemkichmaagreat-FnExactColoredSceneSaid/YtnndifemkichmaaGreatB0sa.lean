/- Texts of mine in one file: SfP, PnM, OcM. No statement is proved here. -/
import Derived.Test.YtnndifemkichmaaGreatMA
import Derived.Test.YtnndifemkichmaaGreatMB
import Derived.Test.YtnndifemkichmaaGreatSfR
import Derived.Test.YtnndifemkichmaaGreatProg
import Derived.WalkKit
import Derived.ProofKit
import Derived.OpenShut
import Derived.WalkLawsBesides
import Derived.WalkSpells
import Derived.ShutString
import Derived.ChangeOld
import Derived.Below
import Derived.Lib.Hide
import Derived.BigQuiet
import Derived.Deep.QuietTactic
import Derived.Maps.AppendAt
import Derived.Deep.OwnRows
import Derived.Handy
import Derived.Deep.Draws
import Derived.OwnWalk
import Derived.Deep.AppendLies
import Derived.Deep.LoopGhost
import Derived.Deep.Onto
import Derived.Deep.MidRow
import Derived.Deep.WholeRow
import Derived.Laws.BitsAllLaws
import Derived.Lib.QuoteBits
import Derived.Deep.RegionHeld3
import Derived.Deep.DeepCutAuto
import Derived.Test.YtnndifemkichmaaGreatShelf
import Derived.Laws.CopyOwn
import Derived.Deep.RegionLaw
import Derived.Great.BuildSlice
import Derived.Laws.AppendOwn
import Derived.ChangeKeysEq
import Derived.Deep.RegionWith
namespace Go.Proofs.YtnndifemkichmaaGreat
open Go.RowKit
noncomputable def sfScl (f : Sf) : Im := rsIm sclN (orIm f.bw f.bh f.data f.orient).w (orIm f.bw f.bh f.data f.orient).h (orIm f.bw f.bh f.data f.orient).d (sfSize f).1 (sfSize f).2
open Classical in
noncomputable def sfPic (f : Sf) : Im := if sfOk f then ⟨(sfScl f).w, (sfScl f).h, (sfScl f).d.map fun p => fade p f.alpha⟩ else zeroIm
theorem sfPic_yes {f : Sf} (h : sfOk f) : sfPic f = ⟨(sfScl f).w, (sfScl f).h, (sfScl f).d.map fun p => fade p f.alpha⟩ := if_pos h
theorem sfScl_ok {f : Sf} (h : sfOk f) : imOk (sfScl f).w (sfScl f).h (sfScl f).d ∧ (f.w = 0 → sfScl f = orIm f.bw f.bh f.data f.orient) ∧ (f.w ≠ 0 → (sfSize f) = (f.w, f.h)) := by
 obtain ⟨_, _, _, hwh, _, ho, him⟩ := h
 obtain ⟨W, H, e1, e2, wl, wh, hl, hh, hL⟩ := im_nat him
 have ho1 := orIm_yes (o := f.orient) (by rw [← e1, ← e2]; exact him : imOk (W : Int) (H : Int) f.data) ho
 have hov := orL_ok (by rw [← e1, ← e2]; exact him : imOk (W : Int) (H : Int) f.data) ho
 unfold sfScl
 rw [e1, e2, ho1]
 by_cases h0 : f.w = 0
 ·have hs : sfSize f = ((orWn W H f.orient : Int), (orHn W H f.orient : Int)) := by
   unfold sfSize
   rw [if_pos h0, e1, e2, os_yes (by rw [← e1, ← e2]; exact him.1) ho, orW_nat, orH_nat]
  rw [hs]
  have hself := rs_self (S := sclN) (fun g k hk => sclN_self (by omega)) hov
  dsimp only
  rw [hself]
  exact ⟨hov, fun _ => rfl, fun e => absurd h0 e⟩
 ·have hs : sfSize f = (f.w, f.h) := if_neg h0
  have hsz : szOk f.w f.h := hwh.resolve_left fun e => h0 e.1
  rw [hs]
  dsimp only
  obtain ⟨p, q, ep, eq, _⟩ := sz_nat hsz
  have hsz2 := hsz
  rw [ep, eq] at hsz2 ⊢
  rw [rs_yes sclN hov hsz2]
  exact ⟨rs_valid scl_ok hov hsz2, fun e => absurd (ep.trans e) h0, fun _ => rfl⟩
end Go.Proofs.YtnndifemkichmaaGreat
namespace Go.Proofs.YtnndifemkichmaaGreat
open Go.RowKit
theorem fade_ok {p al : Int} (hp : pixOk p) (ha : chOk al) : pixOk (fade p al) := by
 unfold fade; rw [if_pos ⟨hp, ha⟩]; exact pack_ok (part_ok (ch_0 hp) ha) (ch_1 p) (ch_2 p) (ch_3 p)
theorem sfSize_scl {f : Sf} (h : sfOk f) : (sfScl f).w = (sfSize f).1 ∧ (sfScl f).h = (sfSize f).2 := by
 obtain ⟨_, _, _, hwh, _, ho, him⟩ := h
 obtain ⟨W, H, e1, e2, wl, wh, hl, hh, hL⟩ := im_nat him
 have him' : imOk (W : Int) (H : Int) f.data := by rw [← e1, ← e2]; exact him
 have ho1 := orIm_yes him' ho
 have hov := orL_ok him' ho
 have hs : szOk (sfSize f).1 (sfSize f).2 := by
  by_cases h0 : f.w = 0
  ·unfold sfSize; rw [if_pos h0, e1, e2, os_yes him'.1 ho, orW_nat, orH_nat]; exact hov.1
  ·unfold sfSize; rw [if_neg h0]; exact hwh.resolve_left fun e => h0 e.1
 unfold sfScl
 rw [e1, e2, ho1]
 dsimp only
 obtain ⟨p, q, ep, eq, _⟩ := sz_nat hs
 rw [ep, eq] at hs ⊢
 rw [rs_yes sclN hov hs]
 exact ⟨rfl, rfl⟩
theorem sfPic_ok {f : Sf} (h : sfOk f) : (sfPic f).w = (sfSize f).1 ∧ (sfPic f).h = (sfSize f).2 ∧ imOk (sfPic f).w (sfPic f).h (sfPic f).d := by
 rw [sfPic_yes h]
 obtain ⟨h1, h2⟩ := sfSize_scl h
 obtain ⟨a, b, c⟩ := (sfScl_ok h).1
 refine ⟨h1, h2, a, by rw [List.length_map]; exact b, fun k x hx => ?_⟩
 rw [List.getElem?_map] at hx
 obtain ⟨y, hy, rfl⟩ := Option.map_eq_some_iff.1 hx
 exact fade_ok (c k y hy) h.2.2.2.2.1
end Go.Proofs.YtnndifemkichmaaGreat
namespace Go.Proofs.YtnndifemkichmaaGreat
open Go.RowKit
noncomputable def ocR (W H : Int) (f : Sf) : Rc := isect (sfRect f) ⟨0, 0, W, H⟩
theorem sfRect_ok (f : Sf) : (sfRect f).ok := by
 by_cases h : sfOk f ∧ f.vis = true
 ·obtain ⟨e1, e2, e3⟩ := sfPic_ok h.1
  rw [sfRect_yes h.1 h.2, ← e1, ← e2]
  have h1 := e3.1
  obtain ⟨_, hx, hy, _⟩ := h.1
  unfold szOk at h1
  unfold Rc.ok
  dsimp only
  omega
 ·rw [sfRect_no h]; unfold Rc.ok; dsimp only; omega
theorem scr_ok {W H : Nat} (wl : 1 ≤ W ∧ W ≤ 16) (hl : 1 ≤ H ∧ H ≤ 16) : (⟨0, 0, (W : Int), (H : Int)⟩ : Rc).ok := by unfold Rc.ok; dsimp only; omega
end Go.Proofs.YtnndifemkichmaaGreat
