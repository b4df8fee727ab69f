/- Texts of mine in one file: SfP, PnM, OcM, DmM. No statement is proved here. -/
import Derived.Test.YtokniebejilcbaaMAv123
import Derived.Test.YtokniebejilcbaaMBv23
import Derived.Test.YtokniebejilcbaaMBv3
import Derived.Test.YtokniebejilcbaaMA
import Derived.Test.YtokniebejilcbaaMAv23
import Derived.Test.YtokniebejilcbaaMAv3
import Derived.Test.YtokniebejilcbaaSfRv3
import Derived.Test.YtokniebejilcbaaProg
import Derived.WalkKit
import Derived.ProofKit
import Derived.OpenShut
import Derived.WalkLawsBesides
import Derived.WalkSpells
import Derived.ShutString
import Derived.ChangeOld
import Derived.Below
import Derived.Lib.Hide
import Derived.BigQuiet
import Derived.Deep.QuietTactic
import Derived.Maps.AppendAt
import Derived.Deep.OwnRows
import Derived.Handy
import Derived.Deep.Draws
import Derived.OwnWalk
import Derived.Deep.AppendLies
import Derived.Deep.LoopGhost
import Derived.Deep.Onto
import Derived.Deep.MidRow
import Derived.Deep.WholeRow
import Derived.Laws.BitsAllLaws
import Derived.Lib.QuoteBits
import Derived.Deep.RegionHeld3
import Derived.Deep.DeepCutAuto
import Derived.Test.YtokniebejilcbaaShelf
import Derived.Laws.CopyOwn
import Derived.Deep.RegionLaw
import Derived.Great.BuildSlice
import Derived.Laws.AppendOwn
import Derived.ChangeKeysEq
import Derived.Deep.RegionWith
namespace Go.Proofs.Ytokniebejilcbaa
open Go.RowKit
noncomputable def sfScl (f : Sf) : Im := rsIm sclN (orIm f.bw f.bh f.data f.orient).w (orIm f.bw f.bh f.data f.orient).h (orIm f.bw f.bh f.data f.orient).d (sfSize f).1 (sfSize f).2
open Classical in
noncomputable def sfPic (f : Sf) : Im := if sfOk f then ⟨(sfScl f).w, (sfScl f).h, (sfScl f).d.map fun p => fade p f.alpha⟩ else zeroIm
theorem sfPic_yes {f : Sf} (h : sfOk f) : sfPic f = ⟨(sfScl f).w, (sfScl f).h, (sfScl f).d.map fun p => fade p f.alpha⟩ := if_pos h
theorem sfScl_ok {f : Sf} (h : sfOk f) : imOk (sfScl f).w (sfScl f).h (sfScl f).d ∧ (f.w = 0 → sfScl f = orIm f.bw f.bh f.data f.orient) ∧ (f.w ≠ 0 → (sfSize f) = (f.w, f.h)) := by
 obtain ⟨_, _, _, hwh, _, ho, him⟩ := h
 obtain ⟨W, H, e1, e2, wl, wh, hl, hh, hL⟩ := im_nat him
 have ho1 := orIm_yes (o := f.orient) (by rw [← e1, ← e2]; exact him : imOk (W : Int) (H : Int) f.data) ho
 have hov := orL_ok (by rw [← e1, ← e2]; exact him : imOk (W : Int) (H : Int) f.data) ho
 unfold sfScl
 rw [e1, e2, ho1]
 by_cases h0 : f.w = 0
 ·have hs : sfSize f = ((orWn W H f.orient : Int), (orHn W H f.orient : Int)) := by
   unfold sfSize
   rw [if_pos h0, e1, e2, os_yes (by rw [← e1, ← e2]; exact him.1) ho, orW_nat, orH_nat]
  rw [hs]
  have hself := rs_self (S := sclN) (fun g k hk => sclN_self (by omega)) hov
  dsimp only
  rw [hself]
  exact ⟨hov, fun _ => rfl, fun e => absurd h0 e⟩
 ·have hs : sfSize f = (f.w, f.h) := if_neg h0
  have hsz : szOk f.w f.h := hwh.resolve_left fun e => h0 e.1
  rw [hs]
  dsimp only
  obtain ⟨p, q, ep, eq, _⟩ := sz_nat hsz
  have hsz2 := hsz
  rw [ep, eq] at hsz2 ⊢
  rw [rs_yes sclN hov hsz2]
  exact ⟨rs_valid scl_ok hov hsz2, fun e => absurd (ep.trans e) h0, fun _ => rfl⟩
end Go.Proofs.Ytokniebejilcbaa
namespace Go.Proofs.Ytokniebejilcbaa
open Go.RowKit
theorem fade_ok {p al : Int} (hp : pixOk p) (ha : chOk al) : pixOk (fade p al) := by
 unfold fade; rw [if_pos ⟨hp, ha⟩]; exact pack_ok (part_ok (ch_0 hp) ha) (ch_1 p) (ch_2 p) (ch_3 p)
theorem sfSize_scl {f : Sf} (h : sfOk f) : (sfScl f).w = (sfSize f).1 ∧ (sfScl f).h = (sfSize f).2 := by
 obtain ⟨_, _, _, hwh, _, ho, him⟩ := h
 obtain ⟨W, H, e1, e2, wl, wh, hl, hh, hL⟩ := im_nat him
 have him' : imOk (W : Int) (H : Int) f.data := by rw [← e1, ← e2]; exact him
 have ho1 := orIm_yes him' ho
 have hov := orL_ok him' ho
 have hs : szOk (sfSize f).1 (sfSize f).2 := by
  by_cases h0 : f.w = 0
  ·unfold sfSize; rw [if_pos h0, e1, e2, os_yes him'.1 ho, orW_nat, orH_nat]; exact hov.1
  ·unfold sfSize; rw [if_neg h0]; exact hwh.resolve_left fun e => h0 e.1
 unfold sfScl
 rw [e1, e2, ho1]
 dsimp only
 obtain ⟨p, q, ep, eq, _⟩ := sz_nat hs
 rw [ep, eq] at hs ⊢
 rw [rs_yes sclN hov hs]
 exact ⟨rfl, rfl⟩
theorem sfPic_ok {f : Sf} (h : sfOk f) : (sfPic f).w = (sfSize f).1 ∧ (sfPic f).h = (sfSize f).2 ∧ imOk (sfPic f).w (sfPic f).h (sfPic f).d := by
 rw [sfPic_yes h]
 obtain ⟨h1, h2⟩ := sfSize_scl h
 obtain ⟨a, b, c⟩ := (sfScl_ok h).1
 refine ⟨h1, h2, a, by rw [List.length_map]; exact b, fun k x hx => ?_⟩
 rw [List.getElem?_map] at hx
 obtain ⟨y, hy, rfl⟩ := Option.map_eq_some_iff.1 hx
 exact fade_ok (c k y hy) h.2.2.2.2.1
end Go.Proofs.Ytokniebejilcbaa
namespace Go.Proofs.Ytokniebejilcbaa
open Go.RowKit
noncomputable def ocR (W H : Int) (f : Sf) : Rc := isect (sfRect f) ⟨0, 0, W, H⟩
theorem sfRect_ok (f : Sf) : (sfRect f).ok := by
 by_cases h : sfOk f ∧ f.vis = true
 ·obtain ⟨e1, e2, e3⟩ := sfPic_ok h.1
  rw [sfRect_yes h.1 h.2, ← e1, ← e2]
  have h1 := e3.1
  obtain ⟨_, hx, hy, _⟩ := h.1
  unfold szOk at h1
  unfold Rc.ok
  dsimp only
  omega
 ·rw [sfRect_no h]; unfold Rc.ok; dsimp only; omega
theorem scr_ok {W H : Nat} (wl : 1 ≤ W ∧ W ≤ 16) (hl : 1 ≤ H ∧ H ≤ 16) : (⟨0, 0, (W : Int), (H : Int)⟩ : Rc).ok := by unfold Rc.ok; dsimp only; omega
end Go.Proofs.Ytokniebejilcbaa
namespace Go.Proofs.Ytokniebejilcbaa
open Go.RowKit
def dmUp (a : List Sf) (f g : Sf) : Prop := 0 ≤ idxF a f.id ∧ idxF a f.id < idxF a g.id
def IdsOk (L : List Sf) : Prop := ∀ (k : Nat) (f : Sf), L[k]? = some f → idxF L f.id = k
theorem ids_ok {s : Sn} (h : snOk s) : IdsOk s.fs := fun k f hf => (h.2.2.2 k f hf).2
theorem ids_case {L : List Sf} (h : IdsOk L) (f : Sf) : (idxF L f.id = -1 ∧ f ∉ L) ∨ ∃ (k : Nat) (g : Sf), idxF L f.id = k ∧ L[k]? = some g ∧ g.id = f.id ∧ (f ∈ L ↔ f = g) := by
 rcases idxF_is (L := L) (i := f.id) with ⟨h1, h2⟩ | ⟨k, g, h1, h2, h3, _⟩
 ·refine .inl ⟨h1, fun hm => ?_⟩
  obtain ⟨j, hj⟩ := List.getElem?_of_mem hm
  exact h2 j f hj rfl
 ·refine .inr ⟨k, g, h1, h2, h3, fun hm => ?_, fun e => by rw [e]; exact List.mem_of_getElem? h2⟩
  obtain ⟨j, hj⟩ := List.getElem?_of_mem hm
  have hq := h j f hj
  rw [h1] at hq
  obtain rfl : k = j := by omega
  rw [h2] at hj
  exact (Option.some.inj hj).symm
open Classical in
noncomputable def dmX (R : Sf → Rc) (M L : List Sf) : List Rc := (L.filter (fun f => decide (f ∉ M))).map R
open Classical in
theorem dmX_take {R : Sf → Rc} {M L : List Sf} {k : Nat} {f : Sf} (hf : L[k]? = some f) : dmX R M (L.take (k + 1)) = dmX R M (L.take k) ++ (if f ∈ M then [] else [R f]) := by
 unfold dmX
 rw [List.take_add_one, hf, Option.toList_some, List.filter_append, List.map_append]
 congr 1
 by_cases h : f ∈ M <;> simp [h]
theorem dmX_len (R : Sf → Rc) (M L : List Sf) : (dmX R M L).length ≤ L.length := by unfold dmX; rw [List.length_map]; exact List.length_filter_le _ _
theorem dmX_mem {R : Sf → Rc} {M L : List Sf} {r : Rc} : r ∈ dmX R M L ↔ ∃ f ∈ L, f ∉ M ∧ r = R f := by
 unfold dmX
 simp only [List.mem_map, List.mem_filter, decide_eq_true_eq]
 constructor
 ·rintro ⟨f, ⟨h1, h2⟩, rfl⟩; exact ⟨f, h1, h2, rfl⟩
 ·rintro ⟨f, h1, h2, rfl⟩; exact ⟨f, ⟨h1, h2⟩, rfl⟩
open Classical in
noncomputable def dmIn (R : Sf → Rc) (a : List Sf) (f : Sf) (L : List Sf) : List Rc := (L.filter (fun g => decide (dmUp a f g))).map (fun g => isect (R f) (R g))
open Classical in
theorem dmIn_take {R : Sf → Rc} {a L : List Sf} {f g : Sf} {k : Nat} (hg : L[k]? = some g) : dmIn R a f (L.take (k + 1)) = dmIn R a f (L.take k) ++ (if dmUp a f g then [isect (R f) (R g)] else []) := by
 unfold dmIn
 rw [List.take_add_one, hg, Option.toList_some, List.filter_append, List.map_append]
 congr 1
 by_cases h : dmUp a f g <;> simp [h]
theorem dmIn_len (R : Sf → Rc) (a : List Sf) (f : Sf) (L : List Sf) : (dmIn R a f L).length ≤ L.length := by unfold dmIn; rw [List.length_map]; exact List.length_filter_le _ _
theorem dmIn_mem {R : Sf → Rc} {a L : List Sf} {f : Sf} {r : Rc} : r ∈ dmIn R a f L ↔ ∃ g ∈ L, dmUp a f g ∧ r = isect (R f) (R g) := by
 unfold dmIn
 simp only [List.mem_map, List.mem_filter, decide_eq_true_eq]
 constructor
 ·rintro ⟨f, ⟨h1, h2⟩, rfl⟩; exact ⟨f, h1, h2, rfl⟩
 ·rintro ⟨f, h1, h2, rfl⟩; exact ⟨f, ⟨h1, h2⟩, rfl⟩
noncomputable def dmJ (X : Sf → List Rc) (R : Sf → Rc) (a L : List Sf) : Nat → List Rc
 | 0 => []
 | k + 1 => match L[k]? with | some f => dmJ X R a L k ++ (X f ++ dmIn R a f (L.take k)) | none => dmJ X R a L k
theorem dmJ_next {X : Sf → List Rc} {R : Sf → Rc} {a L : List Sf} {k : Nat} {f : Sf} (hf : L[k]? = some f) : dmJ X R a L (k + 1) = dmJ X R a L k ++ (X f ++ dmIn R a f (L.take k)) := by
 show (match L[k]? with | some f => _ | none => _) = _
 rw [hf]
theorem dmJ_stay {X : Sf → List Rc} {R : Sf → Rc} {a L : List Sf} {k : Nat} (hf : L[k]? = none) : dmJ X R a L (k + 1) = dmJ X R a L k := by
 show (match L[k]? with | some f => _ | none => _) = _
 rw [hf]
theorem dmJ_len {X : Sf → List Rc} (hX : ∀ f, (X f).length ≤ 1) (R : Sf → Rc) (a : List Sf) {L : List Sf} (hL : L.length ≤ 6) (k : Nat) : (dmJ X R a L k).length ≤ 7 * k := by
  induction k with
  | zero => exact Nat.le_refl _
  | succ k ih =>
    rcases h : L[k]? with _ | f
    · rw [dmJ_stay h]; omega
    · rw [dmJ_next h, List.length_append, List.length_append]
      have h1 := hX f
      have h2 := dmIn_len R a f (L.take k)
      rw [List.length_take] at h2
      omega
theorem dmJ_mem {X : Sf → List Rc} {R : Sf → Rc} {a L : List Sf} {n : Nat} {r : Rc} : r ∈ dmJ X R a L n ↔ ∃ (k : Nat) (f : Sf), k < n ∧ L[k]? = some f ∧ (r ∈ X f ∨ ∃ (m : Nat) (g : Sf), m < k ∧ L[m]? = some g ∧ dmUp a f g ∧ r = isect (R f) (R g)) := by
  induction n with
  | zero => exact ⟨fun h => (by cases h), fun ⟨_, _, h, _⟩ => (by omega)⟩
  | succ n ih =>
    have hold : (∃ (k : Nat) (f : Sf), k < n ∧ L[k]? = some f ∧ (r ∈ X f ∨ ∃ (m : Nat) (g : Sf), m < k ∧ L[m]? = some g ∧ dmUp a f g ∧ r = isect (R f) (R g))) → (∃ (k : Nat) (f : Sf), k < n + 1 ∧ L[k]? = some f ∧ (r ∈ X f ∨ ∃ (m : Nat) (g : Sf), m < k ∧ L[m]? = some g ∧ dmUp a f g ∧ r = isect (R f) (R g))) :=
      fun ⟨k, f, h1, h2⟩ => ⟨k, f, by omega, h2⟩
    rcases h : L[n]? with _ | f
    · rw [dmJ_stay h, ih]
      refine ⟨hold, fun ⟨k, f, h1, h2, h3⟩ => ⟨k, f, ?_, h2, h3⟩⟩
      rcases Nat.lt_or_ge k n with e | e
      · exact e
      · obtain rfl : k = n := by omega
        rw [h] at h2; cases h2
    · rw [dmJ_next h, List.mem_append, List.mem_append, dmIn_mem, ih]
      constructor
      · rintro (h1 | h1 | ⟨g, hg, h2, h3⟩)
        · exact hold h1
        · exact ⟨n, f, by omega, h, .inl h1⟩
        · obtain ⟨m, hm⟩ := List.getElem?_of_mem hg
          have hmn := (List.getElem?_eq_some_iff.1 hm).1
          rw [List.length_take] at hmn
          rw [List.getElem?_take, if_pos (by omega)] at hm
          exact ⟨n, f, by omega, h, .inr ⟨m, g, by omega, hm, h2, h3⟩⟩
      · rintro ⟨k, e, h1, h2, h3⟩
        rcases Nat.lt_or_ge k n with hk | hk
        · exact .inl ⟨k, e, hk, h2, h3⟩
        · obtain rfl : k = n := by omega
          rw [h] at h2
          obtain rfl := Option.some.inj h2
          rcases h3 with h3 | ⟨m, g, h4, h5, h6, h7⟩
          · exact .inr (.inl h3)
          · exact .inr (.inr ⟨g, List.mem_of_getElem? (i := m) (by rw [List.getElem?_take, if_pos h4]; exact h5), h6, h7⟩)
open Classical in
noncomputable def dmN (a : List Sf) (f : Sf) : List Rc := if f ∈ a then [] else [sfRect f]
theorem dmN_len (a : List Sf) (f : Sf) : (dmN a f).length ≤ 1 := by unfold dmN; split <;> simp
theorem dmN_yes {a : List Sf} {f : Sf} (h : f ∈ a) : dmN a f = [] := by unfold dmN; rw [if_pos h]
theorem dmN_no {a : List Sf} {f : Sf} (h : f ∉ a) : dmN a f = [sfRect f] := by unfold dmN; rw [if_neg h]
noncomputable def dmL (a b : List Sf) : List Rc := dmX sfRect b a ++ dmJ (dmN a) sfRect a b b.length
open Classical in
noncomputable def dmgM (s t : Sn) : List Rc := if snOk s ∧ snOk t then (if s.w = t.w ∧ s.h = t.h ∧ s.back = t.back then canon (gridOf ((dmL s.fs t.fs).map fun r => isect r ⟨0, 0, t.w, t.h⟩)) else canon (gridOf [⟨0, 0, t.w, t.h⟩])) else []
theorem dmgM_no {s t : Sn} (h : ¬ (snOk s ∧ snOk t)) : dmgM s t = [] := if_neg h
theorem dmgM_all {s t : Sn} (h : snOk s ∧ snOk t) (h2 : ¬ (s.w = t.w ∧ s.h = t.h ∧ s.back = t.back)) : dmgM s t = canon (gridOf [⟨0, 0, t.w, t.h⟩]) := by unfold dmgM; rw [if_pos h, if_neg h2]
theorem dmgM_yes {s t : Sn} (h : snOk s ∧ snOk t) (h2 : s.w = t.w ∧ s.h = t.h ∧ s.back = t.back) : dmgM s t = canon (gridOf ((dmL s.fs t.fs).map fun r => isect r ⟨0, 0, t.w, t.h⟩)) := by unfold dmgM; rw [if_pos h, if_pos h2]
theorem dmgM_len (s t : Sn) : (dmgM s t).length ≤ 256 := by
 unfold dmgM
 split
 ·split <;> exact canon_len _
 ·simp
def dmPt (a b : List Sf) (p q : Nat) : Prop :=
 (∃ f ∈ a, f ∉ b ∧ hasB (sfRect f) p q = true) ∨ (∃ f ∈ b, f ∉ a ∧ hasB (sfRect f) p q = true) ∨
 ∃ (k m : Nat) (f g : Sf), m < k ∧ b[k]? = some f ∧ b[m]? = some g ∧ dmUp a f g ∧ hasB (sfRect f) p q = true ∧ hasB (sfRect g) p q = true
theorem grid_has (L : List Rc) {p q : Nat} (hp : p < 16) : gridOf L (q * 16 + p) = true ↔ ∃ r ∈ L, hasB r p q = true := by
 rw [gridOf_iff, show (q * 16 + p) % 16 = p by omega, show (q * 16 + p) / 16 = q by omega]
 unfold hasB
 simp only [decide_eq_true_eq]
theorem isect_has {r s : Rc} (hr : r.ok) (hs : s.ok) (p q : Nat) : hasB (isect r s) p q = true ↔ (hasB r p q = true ∧ hasB s p q = true) := by
 have ho := isect_ok r s hr hs
 unfold hasB
 simp only [decide_eq_true_eq]
 rcases isect_cases r s hr hs with ⟨h, e⟩ | ⟨h, e⟩
 ·rw [e] at ho ⊢; unfold isectRaw at ho ⊢; unfold isectIn at h
  simp only [hr, hs, ho, true_and]
  omega
 ·rw [e] at ho ⊢; unfold isectIn at h
  simp only [hr, hs, ho, true_and]
  omega
theorem scr_has {W H : Nat} (wl : 1 ≤ W ∧ W ≤ 16) (hl : 1 ≤ H ∧ H ≤ 16) (p q : Nat) : hasB ⟨0, 0, W, H⟩ p q = true ↔ (p < W ∧ q < H) := by
 have ho := scr_ok wl hl
 unfold hasB
 simp only [decide_eq_true_eq, ho, true_and]
 omega
theorem ocR_ok {W H : Nat} (wl : 1 ≤ W ∧ W ≤ 16) (hl : 1 ≤ H ∧ H ≤ 16) (f : Sf) : (ocR W H f).ok := isect_ok _ _ (sfRect_ok f) (scr_ok wl hl)
theorem ocR_hasB {W H : Nat} (wl : 1 ≤ W ∧ W ≤ 16) (hl : 1 ≤ H ∧ H ≤ 16) (f : Sf) (p q : Nat) : hasB (ocR W H f) p q = true ↔ (hasB (sfRect f) p q = true ∧ p < W ∧ q < H) := by
 unfold ocR
 rw [isect_has (sfRect_ok f) (scr_ok wl hl), scr_has wl hl]
theorem dm_spec {W H : Nat} (wl : 1 ≤ W ∧ W ≤ 16) (hl : 1 ≤ H ∧ H ≤ 16) (a b : List Sf) {p q : Nat} (hp : p < 16) :
  gridOf ((dmL a b).map fun r => isect r ⟨0, 0, W, H⟩) (q * 16 + p) = true ↔ (dmPt a b p q ∧ p < W ∧ q < H) := by
 have hok : ∀ r ∈ dmL a b, r.ok := fun r hr => by
  unfold dmL at hr
  rcases List.mem_append.1 hr with h | h
  ·obtain ⟨f, _, _, rfl⟩ := dmX_mem.1 h; exact sfRect_ok f
  ·obtain ⟨k, f, _, _, h | ⟨m, g, _, _, _, rfl⟩⟩ := dmJ_mem.1 h
   ·unfold dmN at h
    split at h
    ·cases h
    ·rw [List.mem_singleton.1 h]; exact sfRect_ok f
   ·exact isect_ok _ _ (sfRect_ok f) (sfRect_ok g)
 have hm : (∃ r ∈ dmL a b, hasB r p q = true) ↔ dmPt a b p q := by
  unfold dmL dmPt
  constructor
  ·rintro ⟨r, hr, hh⟩
   rcases List.mem_append.1 hr with h | h
   ·obtain ⟨f, h1, h2, rfl⟩ := dmX_mem.1 h; exact .inl ⟨f, h1, h2, hh⟩
   ·obtain ⟨k, f, _, hk, h | ⟨m, g, h3, h4, h5, rfl⟩⟩ := dmJ_mem.1 h
    ·by_cases hf : f ∈ a
     ·rw [dmN_yes hf] at h; cases h
     ·rw [dmN_no hf] at h
      rw [List.mem_singleton.1 h] at hh
      exact .inr (.inl ⟨f, List.mem_of_getElem? hk, hf, hh⟩)
    ·rw [isect_has (sfRect_ok f) (sfRect_ok g)] at hh
     exact .inr (.inr ⟨k, m, f, g, h3, hk, h4, h5, hh.1, hh.2⟩)
  ·rintro (⟨f, h1, h2, h3⟩ | ⟨f, h1, h2, h3⟩ | ⟨k, m, f, g, h1, h2, h3, h4, h5, h6⟩)
   ·exact ⟨_, List.mem_append.2 (.inl (dmX_mem.2 ⟨f, h1, h2, rfl⟩)), h3⟩
   ·obtain ⟨k, hk⟩ := List.getElem?_of_mem h1
    exact ⟨_, List.mem_append.2 (.inr (dmJ_mem.2 ⟨k, f, (List.getElem?_eq_some_iff.1 hk).1, hk, .inl (by rw [dmN_no h2]; exact List.mem_singleton.2 rfl)⟩)), h3⟩
   ·exact ⟨_, List.mem_append.2 (.inr (dmJ_mem.2 ⟨k, f, (List.getElem?_eq_some_iff.1 h2).1, h2, .inr ⟨m, g, h1, h3, h4, rfl⟩⟩)), (isect_has (sfRect_ok f) (sfRect_ok g) p q).2 ⟨h5, h6⟩⟩
 rw [grid_has _ hp, ← hm]
 constructor
 ·rintro ⟨r, hr, hh⟩
  obtain ⟨r0, h0, rfl⟩ := List.mem_map.1 hr
  rw [isect_has (hok r0 h0) (scr_ok wl hl), scr_has wl hl] at hh
  exact ⟨⟨r0, h0, hh.1⟩, hh.2⟩
 ·rintro ⟨⟨r, hr, hh⟩, h2⟩
  exact ⟨_, List.mem_map.2 ⟨r, hr, rfl⟩, by rw [isect_has (hok r hr) (scr_ok wl hl), scr_has wl hl]; exact ⟨hh, h2⟩⟩
def DmC (W H : Int) (a b : List Sf) (L : List Rc) : Prop := ∀ r, r ∈ L ↔ (∃ f ∈ b, f ∉ a ∧ r = ocR W H f) ∨ (∃ f ∈ a, f ∉ b ∧ r = ocR W H f)
theorem dm_impl {W H : Nat} (wl : 1 ≤ W ∧ W ≤ 16) (hl : 1 ≤ H ∧ H ≤ 16) {a b : List Sf} {L : List Rc} (hL : DmC W H a b L) {p q : Nat} (hp : p < 16) :
  gridOf (L ++ dmJ (fun _ => []) (ocR W H) a b b.length) (q * 16 + p) = true ↔ (dmPt a b p q ∧ p < W ∧ q < H) := by
 rw [grid_has _ hp]
 unfold dmPt
 constructor
 ·rintro ⟨r, hr, hh⟩
  rcases List.mem_append.1 hr with h | h
  ·rcases (hL r).1 h with ⟨f, h1, h2, rfl⟩ | ⟨f, h1, h2, rfl⟩
   ·rw [ocR_hasB wl hl] at hh; exact ⟨.inr (.inl ⟨f, h1, h2, hh.1⟩), hh.2⟩
   ·rw [ocR_hasB wl hl] at hh; exact ⟨.inl ⟨f, h1, h2, hh.1⟩, hh.2⟩
  ·obtain ⟨k, f, _, hk, h | ⟨m, g, h3, h4, h5, rfl⟩⟩ := dmJ_mem.1 h
   ·cases h
   ·rw [isect_has (ocR_ok wl hl f) (ocR_ok wl hl g), ocR_hasB wl hl, ocR_hasB wl hl] at hh
    exact ⟨.inr (.inr ⟨k, m, f, g, h3, hk, h4, h5, hh.1.1, hh.2.1⟩), hh.1.2⟩
 ·rintro ⟨⟨f, h1, h2, h3⟩ | ⟨f, h1, h2, h3⟩ | ⟨k, m, f, g, h1, h2, h3, h4, h5, h6⟩, hs⟩
  ·exact ⟨_, List.mem_append.2 (.inl ((hL _).2 (.inr ⟨f, h1, h2, rfl⟩))), (ocR_hasB wl hl f p q).2 ⟨h3, hs⟩⟩
  ·exact ⟨_, List.mem_append.2 (.inl ((hL _).2 (.inl ⟨f, h1, h2, rfl⟩))), (ocR_hasB wl hl f p q).2 ⟨h3, hs⟩⟩
  ·exact ⟨_, List.mem_append.2 (.inr (dmJ_mem.2 ⟨k, f, (List.getElem?_eq_some_iff.1 h2).1, h2, .inr ⟨m, g, h1, h3, h4, rfl⟩⟩)), (isect_has (ocR_ok wl hl f) (ocR_ok wl hl g) p q).2 ⟨(ocR_hasB wl hl f p q).2 ⟨h5, hs⟩, (ocR_hasB wl hl g p q).2 ⟨h6, hs⟩⟩⟩
theorem dm_same {s t : Sn} (h : snOk s ∧ snOk t) (h2 : s.w = t.w ∧ s.h = t.h ∧ s.back = t.back) {L : List Rc} (hL : DmC t.w t.h s.fs t.fs L) : canon (gridOf (L ++ dmJ (fun _ => []) (ocR t.w t.h) s.fs t.fs t.fs.length)) = dmgM s t := by
 rw [dmgM_yes h h2]
 obtain ⟨W, H, e1, e2, wl, wh, hl, hh⟩ := sz_nat h.2.1
 rw [e1, e2] at hL ⊢
 refine canon_congr fun k hk => ?_
 have e : k = k / 16 * 16 + k % 16 := by omega
 have i1 := dm_impl ⟨wl, wh⟩ ⟨hl, hh⟩ hL (p := k % 16) (q := k / 16) (by omega)
 have i2 := dm_spec ⟨wl, wh⟩ ⟨hl, hh⟩ s.fs t.fs (p := k % 16) (q := k / 16) (by omega)
 rw [← e] at i1 i2
 rw [Bool.eq_iff_iff, i1, i2]
end Go.Proofs.Ytokniebejilcbaa
