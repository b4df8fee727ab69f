/- Damage as plain mathematics: the rectangles where two scenes differ, their points, and that nothing differs outside of them. No statement is proved here. -/
import Derived.Test.YtokniebejilcbaaGreatMA
import Derived.Test.YtokniebejilcbaaGreatMC
import Derived.Test.YtokniebejilcbaaGreatSfR
import Derived.Test.YtokniebejilcbaaGreatSclB
import Derived.Test.YtokniebejilcbaaGreatOcM
import Derived.Test.YtokniebejilcbaaGreatProg
import Derived.WalkKit
import Derived.ProofKit
import Derived.OpenShut
import Derived.WalkLawsBesides
import Derived.WalkSpells
import Derived.ShutString
import Derived.ChangeOld
import Derived.Below
import Derived.Lib.Hide
import Derived.BigQuiet
import Derived.Deep.QuietTactic
import Derived.Maps.AppendAt
import Derived.Deep.OwnRows
import Derived.Handy
import Derived.Deep.Draws
import Derived.OwnWalk
import Derived.Deep.AppendLies
import Derived.Deep.LoopGhost
import Derived.Deep.Onto
import Derived.Deep.MidRow
import Derived.Deep.WholeRow
import Derived.Laws.BitsAllLaws
import Derived.Lib.QuoteBits
import Derived.Deep.RegionHeld3
import Derived.Deep.DeepCutAuto
import Derived.Test.YtokniebejilcbaaGreatShelf
import Derived.Laws.CopyOwn
import Derived.Deep.RegionLaw
import Derived.Great.BuildSlice
import Derived.Laws.AppendOwn
import Derived.ChangeKeysEq
import Derived.Deep.RegionWith
namespace Go.Proofs.YtokniebejilcbaaGreat
open Go.RowKit
def dmUp (a : List Sf) (f g : Sf) : Prop := 0 ≤ idxF a f.id ∧ idxF a f.id < idxF a g.id
def IdsOk (L : List Sf) : Prop := ∀ (k : Nat) (f : Sf), L[k]? = some f → idxF L f.id = k
theorem ids_ok {s : Sn} (h : snOk s) : IdsOk s.fs := fun k f hf => (h.2.2.2 k f hf).2
theorem ids_nodup {L : List Sf} (h : IdsOk L) : L.Pairwise (fun f g => idxF L f.id < idxF L g.id) := by
 rw [List.pairwise_iff_getElem]
 intro i j hi hj hij
 rw [h i _ (List.getElem?_eq_getElem hi), h j _ (List.getElem?_eq_getElem hj)]
 omega
open Classical in
noncomputable def dmX (R : Sf → Rc) (M L : List Sf) : List Rc := (L.filter (fun f => decide (f ∉ M))).map R
open Classical in
theorem dmX_take {R : Sf → Rc} {M L : List Sf} {k : Nat} {f : Sf} (hf : L[k]? = some f) : dmX R M (L.take (k + 1)) = dmX R M (L.take k) ++ (if f ∈ M then [] else [R f]) := by
 unfold dmX
 rw [List.take_add_one, hf, Option.toList_some, List.filter_append, List.map_append]
 congr 1
 by_cases h : f ∈ M <;> simp [h]
theorem dmX_len (R : Sf → Rc) (M L : List Sf) : (dmX R M L).length ≤ L.length := by unfold dmX; rw [List.length_map]; exact List.length_filter_le _ _
theorem dmX_mem {R : Sf → Rc} {M L : List Sf} {r : Rc} : r ∈ dmX R M L ↔ ∃ f ∈ L, f ∉ M ∧ r = R f := by
 unfold dmX
 simp only [List.mem_map, List.mem_filter, decide_eq_true_eq]
 constructor
 ·rintro ⟨f, ⟨h1, h2⟩, rfl⟩; exact ⟨f, h1, h2, rfl⟩
 ·rintro ⟨f, h1, h2, rfl⟩; exact ⟨f, ⟨h1, h2⟩, rfl⟩
open Classical in
noncomputable def dmIn (R : Sf → Rc) (a : List Sf) (f : Sf) (L : List Sf) : List Rc := (L.filter (fun g => decide (dmUp a f g))).map (fun g => isect (R f) (R g))
open Classical in
theorem dmIn_take {R : Sf → Rc} {a L : List Sf} {f g : Sf} {k : Nat} (hg : L[k]? = some g) : dmIn R a f (L.take (k + 1)) = dmIn R a f (L.take k) ++ (if dmUp a f g then [isect (R f) (R g)] else []) := by
 unfold dmIn
 rw [List.take_add_one, hg, Option.toList_some, List.filter_append, List.map_append]
 congr 1
 by_cases h : dmUp a f g <;> simp [h]
theorem dmIn_len (R : Sf → Rc) (a : List Sf) (f : Sf) (L : List Sf) : (dmIn R a f L).length ≤ L.length := by unfold dmIn; rw [List.length_map]; exact List.length_filter_le _ _
theorem dmIn_mem {R : Sf → Rc} {a L : List Sf} {f : Sf} {r : Rc} : r ∈ dmIn R a f L ↔ ∃ g ∈ L, dmUp a f g ∧ r = isect (R f) (R g) := by
 unfold dmIn
 simp only [List.mem_map, List.mem_filter, decide_eq_true_eq]
 constructor
 ·rintro ⟨f, ⟨h1, h2⟩, rfl⟩; exact ⟨f, h1, h2, rfl⟩
 ·rintro ⟨f, h1, h2, rfl⟩; exact ⟨f, ⟨h1, h2⟩, rfl⟩
noncomputable def dmJ (X : Sf → List Rc) (R : Sf → Rc) (a L : List Sf) : Nat → List Rc
 | 0 => []
 | k + 1 => match L[k]? with | some f => dmJ X R a L k ++ (X f ++ dmIn R a f (L.take k)) | none => dmJ X R a L k
theorem dmJ_next {X : Sf → List Rc} {R : Sf → Rc} {a L : List Sf} {k : Nat} {f : Sf} (hf : L[k]? = some f) : dmJ X R a L (k + 1) = dmJ X R a L k ++ (X f ++ dmIn R a f (L.take k)) := by
 show (match L[k]? with | some f => _ | none => _) = _
 rw [hf]
theorem dmJ_stay {X : Sf → List Rc} {R : Sf → Rc} {a L : List Sf} {k : Nat} (hf : L[k]? = none) : dmJ X R a L (k + 1) = dmJ X R a L k := by
 show (match L[k]? with | some f => _ | none => _) = _
 rw [hf]
theorem dmJ_len {X : Sf → List Rc} (hX : ∀ f, (X f).length ≤ 1) (R : Sf → Rc) (a : List Sf) {L : List Sf} (hL : L.length ≤ 6) (k : Nat) : (dmJ X R a L k).length ≤ 7 * k := by
  induction k with
  | zero => exact Nat.le_refl _
  | succ k ih =>
    rcases h : L[k]? with _ | f
    · rw [dmJ_stay h]; omega
    · rw [dmJ_next h, List.length_append, List.length_append]
      have h1 := hX f
      have h2 := dmIn_len R a f (L.take k)
      rw [List.length_take] at h2
      omega
theorem dmJ_mem {X : Sf → List Rc} {R : Sf → Rc} {a L : List Sf} {n : Nat} {r : Rc} : r ∈ dmJ X R a L n ↔ ∃ (k : Nat) (f : Sf), k < n ∧ L[k]? = some f ∧ (r ∈ X f ∨ ∃ (m : Nat) (g : Sf), m < k ∧ L[m]? = some g ∧ dmUp a f g ∧ r = isect (R f) (R g)) := by
  induction n with
  | zero => exact ⟨fun h => (by cases h), fun ⟨_, _, h, _⟩ => (by omega)⟩
  | succ n ih =>
    have hold : (∃ (k : Nat) (f : Sf), k < n ∧ L[k]? = some f ∧ (r ∈ X f ∨ ∃ (m : Nat) (g : Sf), m < k ∧ L[m]? = some g ∧ dmUp a f g ∧ r = isect (R f) (R g))) → (∃ (k : Nat) (f : Sf), k < n + 1 ∧ L[k]? = some f ∧ (r ∈ X f ∨ ∃ (m : Nat) (g : Sf), m < k ∧ L[m]? = some g ∧ dmUp a f g ∧ r = isect (R f) (R g))) :=
      fun ⟨k, f, h1, h2⟩ => ⟨k, f, by omega, h2⟩
    rcases h : L[n]? with _ | f
    · rw [dmJ_stay h, ih]
      refine ⟨hold, fun ⟨k, f, h1, h2, h3⟩ => ⟨k, f, ?_, h2, h3⟩⟩
      rcases Nat.lt_or_ge k n with e | e
      · exact e
      · obtain rfl : k = n := by omega
        rw [h] at h2; cases h2
    · rw [dmJ_next h, List.mem_append, List.mem_append, dmIn_mem, ih]
      constructor
      · rintro (h1 | h1 | ⟨g, hg, h2, h3⟩)
        · exact hold h1
        · exact ⟨n, f, by omega, h, .inl h1⟩
        · obtain ⟨m, hm⟩ := List.getElem?_of_mem hg
          have hmn := (List.getElem?_eq_some_iff.1 hm).1
          rw [List.length_take] at hmn
          rw [List.getElem?_take, if_pos (by omega)] at hm
          exact ⟨n, f, by omega, h, .inr ⟨m, g, by omega, hm, h2, h3⟩⟩
      · rintro ⟨k, e, h1, h2, h3⟩
        rcases Nat.lt_or_ge k n with hk | hk
        · exact .inl ⟨k, e, hk, h2, h3⟩
        · obtain rfl : k = n := by omega
          rw [h] at h2
          obtain rfl := Option.some.inj h2
          rcases h3 with h3 | ⟨m, g, h4, h5, h6, h7⟩
          · exact .inr (.inl h3)
          · exact .inr (.inr ⟨g, List.mem_of_getElem? (i := m) (by rw [List.getElem?_take, if_pos h4]; exact h5), h6, h7⟩)
open Classical in
noncomputable def dmN (a : List Sf) (f : Sf) : List Rc := if f ∈ a then [] else [sfRect f]
theorem dmN_yes {a : List Sf} {f : Sf} (h : f ∈ a) : dmN a f = [] := by unfold dmN; rw [if_pos h]
theorem dmN_no {a : List Sf} {f : Sf} (h : f ∉ a) : dmN a f = [sfRect f] := by unfold dmN; rw [if_neg h]
noncomputable def dmL (a b : List Sf) : List Rc := dmX sfRect b a ++ dmJ (dmN a) sfRect a b b.length
open Classical in
noncomputable def dmgM (s t : Sn) : List Rc := if snOk s ∧ snOk t then (if s.w = t.w ∧ s.h = t.h ∧ s.back = t.back then canon (gridOf ((dmL s.fs t.fs).map fun r => isect r ⟨0, 0, t.w, t.h⟩)) else canon (gridOf [⟨0, 0, t.w, t.h⟩])) else []
theorem dmgM_no {s t : Sn} (h : ¬ (snOk s ∧ snOk t)) : dmgM s t = [] := if_neg h
theorem dmgM_all {s t : Sn} (h : snOk s ∧ snOk t) (h2 : ¬ (s.w = t.w ∧ s.h = t.h ∧ s.back = t.back)) : dmgM s t = canon (gridOf [⟨0, 0, t.w, t.h⟩]) := by unfold dmgM; rw [if_pos h, if_neg h2]
theorem dmgM_yes {s t : Sn} (h : snOk s ∧ snOk t) (h2 : s.w = t.w ∧ s.h = t.h ∧ s.back = t.back) : dmgM s t = canon (gridOf ((dmL s.fs t.fs).map fun r => isect r ⟨0, 0, t.w, t.h⟩)) := by unfold dmgM; rw [if_pos h, if_pos h2]
theorem okL_nil : okL [] = true := by
  rw [okL_iff]
  have h1 := area_len (canon (gridOf [])) (bands_on _ 0)
  rw [canon_area, cntRows_rect (X := 0) (Y := 0) (n := 0) (m := 0) (by omega) (by omega) (fun q p hp => by rw [gridOf_nil]; simp) 0 (by omega)] at h1
  have h2 : (canon (gridOf [])).length = 0 := by have h3 : ((0 * (0 + 0 - max 0 0) : Nat) : Int) = 0 := by simp
                                                 omega
  exact List.eq_nil_of_length_eq_zero h2
theorem dmgM_ok (s t : Sn) : okL (dmgM s t) = true := by
 unfold dmgM
 split
 ·split <;> exact ok_form _
 ·exact okL_nil
def dmPt (a b : List Sf) (p q : Nat) : Prop :=
 (∃ f ∈ a, f ∉ b ∧ hasB (sfRect f) p q = true) ∨ (∃ f ∈ b, f ∉ a ∧ hasB (sfRect f) p q = true) ∨
 ∃ (k m : Nat) (f g : Sf), m < k ∧ b[k]? = some f ∧ b[m]? = some g ∧ dmUp a f g ∧ hasB (sfRect f) p q = true ∧ hasB (sfRect g) p q = true
theorem grid_has (L : List Rc) {p q : Nat} (hp : p < 16) : gridOf L (q * 16 + p) = true ↔ ∃ r ∈ L, hasB r p q = true := by
 rw [gridOf_iff, show (q * 16 + p) % 16 = p by omega, show (q * 16 + p) / 16 = q by omega]
 unfold hasB
 simp only [decide_eq_true_eq]
theorem isect_has {r s : Rc} (hr : r.ok) (hs : s.ok) (p q : Nat) : hasB (isect r s) p q = true ↔ (hasB r p q = true ∧ hasB s p q = true) := by
 have ho := isect_ok r s hr hs
 unfold hasB
 simp only [decide_eq_true_eq]
 rcases isect_cases r s hr hs with ⟨h, e⟩ | ⟨h, e⟩
 ·rw [e] at ho ⊢; unfold isectRaw at ho ⊢; unfold isectIn at h
  simp only [hr, hs, ho, true_and]
  omega
 ·rw [e] at ho ⊢; unfold isectIn at h
  simp only [hr, hs, ho, true_and]
  omega
theorem scr_has {W H : Nat} (wl : 1 ≤ W ∧ W ≤ 16) (hl : 1 ≤ H ∧ H ≤ 16) (p q : Nat) : hasB ⟨0, 0, W, H⟩ p q = true ↔ (p < W ∧ q < H) := by
 have ho := scr_ok wl hl
 unfold hasB
 simp only [decide_eq_true_eq, ho, true_and]
 omega
theorem ocR_ok {W H : Nat} (wl : 1 ≤ W ∧ W ≤ 16) (hl : 1 ≤ H ∧ H ≤ 16) (f : Sf) : (ocR W H f).ok := isect_ok _ _ (sfRect_ok f) (scr_ok wl hl)
theorem ocR_hasB {W H : Nat} (wl : 1 ≤ W ∧ W ≤ 16) (hl : 1 ≤ H ∧ H ≤ 16) (f : Sf) (p q : Nat) : hasB (ocR W H f) p q = true ↔ (hasB (sfRect f) p q = true ∧ p < W ∧ q < H) := by
 unfold ocR
 rw [isect_has (sfRect_ok f) (scr_ok wl hl), scr_has wl hl]
theorem dm_spec {W H : Nat} (wl : 1 ≤ W ∧ W ≤ 16) (hl : 1 ≤ H ∧ H ≤ 16) (a b : List Sf) {p q : Nat} (hp : p < 16) :
  gridOf ((dmL a b).map fun r => isect r ⟨0, 0, W, H⟩) (q * 16 + p) = true ↔ (dmPt a b p q ∧ p < W ∧ q < H) := by
 have hok : ∀ r ∈ dmL a b, r.ok := fun r hr => by
  unfold dmL at hr
  rcases List.mem_append.1 hr with h | h
  ·obtain ⟨f, _, _, rfl⟩ := dmX_mem.1 h; exact sfRect_ok f
  ·obtain ⟨k, f, _, _, h | ⟨m, g, _, _, _, rfl⟩⟩ := dmJ_mem.1 h
   ·unfold dmN at h
    split at h
    ·cases h
    ·rw [List.mem_singleton.1 h]; exact sfRect_ok f
   ·exact isect_ok _ _ (sfRect_ok f) (sfRect_ok g)
 have hm : (∃ r ∈ dmL a b, hasB r p q = true) ↔ dmPt a b p q := by
  unfold dmL dmPt
  constructor
  ·rintro ⟨r, hr, hh⟩
   rcases List.mem_append.1 hr with h | h
   ·obtain ⟨f, h1, h2, rfl⟩ := dmX_mem.1 h; exact .inl ⟨f, h1, h2, hh⟩
   ·obtain ⟨k, f, _, hk, h | ⟨m, g, h3, h4, h5, rfl⟩⟩ := dmJ_mem.1 h
    ·by_cases hf : f ∈ a
     ·rw [dmN_yes hf] at h; cases h
     ·rw [dmN_no hf] at h
      rw [List.mem_singleton.1 h] at hh
      exact .inr (.inl ⟨f, List.mem_of_getElem? hk, hf, hh⟩)
    ·rw [isect_has (sfRect_ok f) (sfRect_ok g)] at hh
     exact .inr (.inr ⟨k, m, f, g, h3, hk, h4, h5, hh.1, hh.2⟩)
  ·rintro (⟨f, h1, h2, h3⟩ | ⟨f, h1, h2, h3⟩ | ⟨k, m, f, g, h1, h2, h3, h4, h5, h6⟩)
   ·exact ⟨_, List.mem_append.2 (.inl (dmX_mem.2 ⟨f, h1, h2, rfl⟩)), h3⟩
   ·obtain ⟨k, hk⟩ := List.getElem?_of_mem h1
    exact ⟨_, List.mem_append.2 (.inr (dmJ_mem.2 ⟨k, f, (List.getElem?_eq_some_iff.1 hk).1, hk, .inl (by rw [dmN_no h2]; exact List.mem_singleton.2 rfl)⟩)), h3⟩
   ·exact ⟨_, List.mem_append.2 (.inr (dmJ_mem.2 ⟨k, f, (List.getElem?_eq_some_iff.1 h2).1, h2, .inr ⟨m, g, h1, h3, h4, rfl⟩⟩)), (isect_has (sfRect_ok f) (sfRect_ok g) p q).2 ⟨h5, h6⟩⟩
 rw [grid_has _ hp, ← hm]
 constructor
 ·rintro ⟨r, hr, hh⟩
  obtain ⟨r0, h0, rfl⟩ := List.mem_map.1 hr
  rw [isect_has (hok r0 h0) (scr_ok wl hl), scr_has wl hl] at hh
  exact ⟨⟨r0, h0, hh.1⟩, hh.2⟩
 ·rintro ⟨⟨r, hr, hh⟩, h2⟩
  exact ⟨_, List.mem_map.2 ⟨r, hr, rfl⟩, by rw [isect_has (hok r hr) (scr_ok wl hl), scr_has wl hl]; exact ⟨hh, h2⟩⟩
def DmC (W H : Int) (a b : List Sf) (L : List Rc) : Prop := ∀ r, r ∈ L ↔ (∃ f ∈ b, f ∉ a ∧ r = ocR W H f) ∨ (∃ f ∈ a, f ∉ b ∧ r = ocR W H f)
theorem dm_impl {W H : Nat} (wl : 1 ≤ W ∧ W ≤ 16) (hl : 1 ≤ H ∧ H ≤ 16) {a b : List Sf} {L : List Rc} (hL : DmC W H a b L) {p q : Nat} (hp : p < 16) :
  gridOf (L ++ dmJ (fun _ => []) (ocR W H) a b b.length) (q * 16 + p) = true ↔ (dmPt a b p q ∧ p < W ∧ q < H) := by
 rw [grid_has _ hp]
 unfold dmPt
 constructor
 ·rintro ⟨r, hr, hh⟩
  rcases List.mem_append.1 hr with h | h
  ·rcases (hL r).1 h with ⟨f, h1, h2, rfl⟩ | ⟨f, h1, h2, rfl⟩
   ·rw [ocR_hasB wl hl] at hh; exact ⟨.inr (.inl ⟨f, h1, h2, hh.1⟩), hh.2⟩
   ·rw [ocR_hasB wl hl] at hh; exact ⟨.inl ⟨f, h1, h2, hh.1⟩, hh.2⟩
  ·obtain ⟨k, f, _, hk, h | ⟨m, g, h3, h4, h5, rfl⟩⟩ := dmJ_mem.1 h
   ·cases h
   ·rw [isect_has (ocR_ok wl hl f) (ocR_ok wl hl g), ocR_hasB wl hl, ocR_hasB wl hl] at hh
    exact ⟨.inr (.inr ⟨k, m, f, g, h3, hk, h4, h5, hh.1.1, hh.2.1⟩), hh.1.2⟩
 ·rintro ⟨⟨f, h1, h2, h3⟩ | ⟨f, h1, h2, h3⟩ | ⟨k, m, f, g, h1, h2, h3, h4, h5, h6⟩, hs⟩
  ·exact ⟨_, List.mem_append.2 (.inl ((hL _).2 (.inr ⟨f, h1, h2, rfl⟩))), (ocR_hasB wl hl f p q).2 ⟨h3, hs⟩⟩
  ·exact ⟨_, List.mem_append.2 (.inl ((hL _).2 (.inl ⟨f, h1, h2, rfl⟩))), (ocR_hasB wl hl f p q).2 ⟨h3, hs⟩⟩
  ·exact ⟨_, List.mem_append.2 (.inr (dmJ_mem.2 ⟨k, f, (List.getElem?_eq_some_iff.1 h2).1, h2, .inr ⟨m, g, h1, h3, h4, rfl⟩⟩)), (isect_has (ocR_ok wl hl f) (ocR_ok wl hl g) p q).2 ⟨(ocR_hasB wl hl f p q).2 ⟨h5, hs⟩, (ocR_hasB wl hl g p q).2 ⟨h6, hs⟩⟩⟩
theorem dm_same {s t : Sn} (h : snOk s ∧ snOk t) (h2 : s.w = t.w ∧ s.h = t.h ∧ s.back = t.back) {L : List Rc} (hL : DmC t.w t.h s.fs t.fs L) : canon (gridOf (L ++ dmJ (fun _ => []) (ocR t.w t.h) s.fs t.fs t.fs.length)) = dmgM s t := by
 rw [dmgM_yes h h2]
 obtain ⟨W, H, e1, e2, wl, wh, hl, hh⟩ := sz_nat h.2.1
 rw [e1, e2] at hL ⊢
 refine canon_congr fun k hk => ?_
 have e : k = k / 16 * 16 + k % 16 := by omega
 have i1 := dm_impl ⟨wl, wh⟩ ⟨hl, hh⟩ hL (p := k % 16) (q := k / 16) (by omega)
 have i2 := dm_spec ⟨wl, wh⟩ ⟨hl, hh⟩ s.fs t.fs (p := k % 16) (q := k / 16) (by omega)
 rw [← e] at i1 i2
 rw [Bool.eq_iff_iff, i1, i2]
theorem rise_ext {key : Sf → Int} : ∀ {L M : List Sf}, L.Pairwise (fun f g => key f < key g) → M.Pairwise (fun f g => key f < key g) → (∀ f, f ∈ L ↔ f ∈ M) → L = M
  | [], [], _, _, _ => rfl
  | [], g :: M, _, _, h => by have := (h g).2 List.mem_cons_self; cases this
  | f :: L, [], _, _, h => by have := (h f).1 List.mem_cons_self; cases this
  | f :: L, g :: M, hL, hM, h => by
    obtain ⟨a1, a2⟩ := List.pairwise_cons.1 hL
    obtain ⟨b1, b2⟩ := List.pairwise_cons.1 hM
    have e : f = g := by
      rcases List.mem_cons.1 ((h f).1 List.mem_cons_self) with e | e
      · exact e
      · rcases List.mem_cons.1 ((h g).2 List.mem_cons_self) with e' | e'
        · exact e'.symm
        · have := a1 g e'; have := b1 f e; omega
    subst e
    rw [rise_ext a2 b2 fun x => ?_]
    constructor
    · intro hx
      rcases List.mem_cons.1 ((h x).1 (List.mem_cons_of_mem _ hx)) with e | e
      · subst e; have := a1 x hx; omega
      · exact e
    · intro hx
      rcases List.mem_cons.1 ((h x).2 (List.mem_cons_of_mem _ hx)) with e | e
      · subst e; have := b1 x hx; omega
      · exact e
theorem dm_filter {a b : List Sf} (ha : IdsOk a) (hb : IdsOk b) {p q : Nat} (hn : ¬ dmPt a b p q) : a.filter (fun f => hasB (sfRect f) p q) = b.filter (fun f => hasB (sfRect f) p q) := by
 unfold dmPt at hn
 have h1 : ∀ f ∈ a, hasB (sfRect f) p q = true → f ∈ b := fun f hf hh => Classical.byContradiction fun e => hn (.inl ⟨f, hf, e, hh⟩)
 have h2 : ∀ f ∈ b, hasB (sfRect f) p q = true → f ∈ a := fun f hf hh => Classical.byContradiction fun e => hn (.inr (.inl ⟨f, hf, e, hh⟩))
 refine rise_ext (key := fun f => idxF a f.id) ((ids_nodup ha).filter _) ?_ fun f => ?_
 ·have hp : b.Pairwise (fun f g => hasB (sfRect f) p q = true → hasB (sfRect g) p q = true → idxF a f.id < idxF a g.id) := by
   rw [List.pairwise_iff_getElem]
   intro i j hi hj hij hf hg
   have ei := List.getElem?_eq_getElem hi
   have ej := List.getElem?_eq_getElem hj
   have mi := h2 _ (List.mem_of_getElem? ei) hf
   have mj := h2 _ (List.mem_of_getElem? ej) hg
   obtain ⟨x, hx⟩ := List.getElem?_of_mem mi
   obtain ⟨y, hy⟩ := List.getElem?_of_mem mj
   have kx := ha x _ hx
   have ky := ha y _ hy
   rcases Int.lt_trichotomy (idxF a b[i].id) (idxF a b[j].id) with h | h | h
   ·exact h
   ·rw [kx, ky] at h
    obtain rfl : x = y := by omega
    rw [hx] at hy
    have := hb i _ ei
    rw [Option.some.inj hy, hb j _ ej] at this
    omega
   ·exact absurd (.inr (.inr ⟨j, i, _, _, hij, ej, ei, ⟨by omega, h⟩, hg, hf⟩)) hn
  rw [List.pairwise_filter]
  exact hp.imp fun h => h
 ·rw [List.mem_filter, List.mem_filter]
  exact ⟨fun ⟨x, y⟩ => ⟨h1 f x y, y⟩, fun ⟨x, y⟩ => ⟨h2 f x y, y⟩⟩
end Go.Proofs.YtokniebejilcbaaGreat
