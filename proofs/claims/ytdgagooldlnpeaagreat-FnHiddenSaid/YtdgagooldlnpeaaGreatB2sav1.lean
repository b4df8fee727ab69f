/- Texts of mine in one file: OcH. No statement is proved here. -/
import Derived.Test.YtdgagooldlnpeaaGreatMAv013
import Derived.Test.YtdgagooldlnpeaaGreatMBv1
import Derived.Test.YtdgagooldlnpeaaGreatMBv013
import Derived.Test.YtdgagooldlnpeaaGreatMA
import Derived.Test.YtdgagooldlnpeaaGreatMB
import Derived.Test.YtdgagooldlnpeaaGreatB2sa
import Derived.Test.YtdgagooldlnpeaaGreatB2sav013
import Derived.Test.YtdgagooldlnpeaaGreatB2sav01
import Derived.Test.YtdgagooldlnpeaaGreatB2sav012
import Derived.Test.YtdgagooldlnpeaaGreatMAv01
import Derived.Test.YtdgagooldlnpeaaGreatSfR
import Derived.Test.YtdgagooldlnpeaaGreatProg
import Derived.WalkKit
import Derived.ProofKit
import Derived.OpenShut
import Derived.WalkLawsBesides
import Derived.WalkSpells
import Derived.ShutString
import Derived.ChangeOld
import Derived.Below
import Derived.Lib.Hide
import Derived.BigQuiet
import Derived.Deep.QuietTactic
import Derived.Maps.AppendAt
import Derived.Deep.OwnRows
import Derived.Handy
import Derived.Deep.Draws
import Derived.OwnWalk
import Derived.Deep.AppendLies
import Derived.Deep.LoopGhost
import Derived.Deep.Onto
import Derived.Deep.MidRow
import Derived.Deep.WholeRow
import Derived.Laws.BitsAllLaws
import Derived.Lib.QuoteBits
import Derived.Deep.RegionHeld3
import Derived.Deep.DeepCutAuto
import Derived.Test.YtdgagooldlnpeaaGreatShelf
import Derived.Laws.CopyOwn
import Derived.Deep.RegionLaw
import Derived.Great.BuildSlice
import Derived.Laws.AppendOwn
import Derived.ChangeKeysEq
import Derived.Deep.RegionWith
namespace Go.Proofs.YtdgagooldlnpeaaGreat
open Go.RowKit
noncomputable def hidL (W H : Int) : List Sf → List Sf
 | [] => []
 | f :: r => (if 0 < areaR (ocV W H f r) then [f] else []) ++ hidL W H r
noncomputable def hidK (W H : Int) (fs : List Sf) : Nat → List Sf
 | 0 => []
 | k + 1 => match fs[k]? with | some f => hidK W H fs k ++ (if 0 < areaR (ocV W H f (fs.drop (k + 1))) then [f] else []) | none => hidK W H fs k
theorem hidK_next {W H : Int} {fs : List Sf} {k : Nat} {f : Sf} (hf : fs[k]? = some f) : hidK W H fs (k + 1) = hidK W H fs k ++ (if 0 < areaR (ocV W H f (fs.drop (k + 1))) then [f] else []) := by
 show (match fs[k]? with | some f => _ | none => _) = _
 rw [hf]
theorem hidK_all (W H : Int) (fs : List Sf) (k : Nat) (hk : k ≤ fs.length) : hidK W H fs k ++ hidL W H (fs.drop k) = hidL W H fs := by
  induction k with
  | zero => rfl
  | succ k ih =>
    obtain ⟨f, hf⟩ : ∃ f, fs[k]? = some f := ⟨_, List.getElem?_eq_getElem (by omega)⟩
    have hl := List.getElem?_eq_some_iff.1 hf
    have h := ih (by omega)
    rw [List.drop_eq_getElem_cons hl.1, hl.2] at h
    rw [hidK_next hf, List.append_assoc]
    exact h
theorem hidK_end (W H : Int) (fs : List Sf) : hidK W H fs fs.length = hidL W H fs := by
 have h := hidK_all W H fs fs.length (Nat.le_refl _)
 rw [List.drop_length] at h
 rw [← h]
 exact (List.append_nil _).symm
theorem hidK_len (W H : Int) (fs : List Sf) (k : Nat) : (hidK W H fs k).length ≤ k := by
  induction k with
  | zero => exact Nat.le_refl _
  | succ k ih =>
    rcases h : fs[k]? with _ | f
    · have e : hidK W H fs (k + 1) = hidK W H fs k := by
        show (match fs[k]? with | some f => _ | none => _) = _
        rw [h]
      rw [e]; omega
    · rw [hidK_next h, List.length_append]
      have h1 : (if 0 < areaR (ocV W H f (fs.drop (k + 1))) then [f] else []).length ≤ 1 := by split <;> simp
      omega
theorem hidL_sub (W H : Int) (fs : List Sf) : (hidL W H fs).Sublist fs := by
  induction fs with
  | nil => exact List.Sublist.refl _
  | cons f r ih =>
    show ((if 0 < areaR (ocV W H f r) then [f] else []) ++ hidL W H r).Sublist (f :: r)
    split
    · exact ih.cons_cons f
    · exact ih.cons f
theorem area_none {L : List Rc} (hok : okL L = true) (h : ¬ 0 < areaR L) {q p : Nat} (hq : q < 16) (hp : p < 16) : gridOf L (q * 16 + p) = false := by
 have hb := area_bd L
 have h0 : cntRows (gridOf L) 0 = 0 := by rw [← ok_cnt hok]; omega
 exact cntRows_zero (gridOf L) 0 h0 q p (Nat.zero_le _) hq hp
theorem ocV_ok (W H : Int) (f : Sf) (r : List Sf) : okL (ocV W H f r) = true := by rw [ocV_eq]; exact ok_canon _
theorem hid_at {W H : Nat} (wl : 1 ≤ W ∧ W ≤ 16) (hl : 1 ≤ H ∧ H ≤ 16) {k : Nat} (hk : k < W * H) (fs : List Sf) {a : Int} (ha : pixOk a) : (hidL W H fs).foldl (fun x f => ptA W k f x) a = fs.foldl (fun x f => ptA W k f x) a := by
  induction fs generalizing a with
  | nil => rfl
  | cons f r ih =>
    have h1 := plc_row hk
    have h2 := Nat.mod_lt k (plc_pos hk)
    show ((if 0 < areaR (ocV W H f r) then [f] else []) ++ hidL W H r).foldl (fun x f => ptA W k f x) a = _
    rw [List.foldl_cons]
    by_cases h : 0 < areaR (ocV W H f r)
    · rw [if_pos h, List.singleton_append, List.foldl_cons]
      exact ih (ptA_ok ha)
    · rw [if_neg h, List.nil_append, ih ha]
      have hg := area_none (ocV_ok W H f r) h (q := k / W) (p := k % W) (by omega) (by omega)
      have hv := ocV_iff wl hl f r hk
      by_cases hb : hasB (sfRect f) (k % W : Nat) (k / W : Nat) = true
      · have hc : cvr W k r := Classical.byContradiction fun hn => by rw [hv.2 ⟨hb, hn⟩] at hg; cases hg
        exact fold_cvr hc ha (ptA_ok ha)
      · rw [show ptA W k f a = a from if_neg hb]
theorem ids_nodup {L : List Sf} : (∀ (k : Nat) (f : Sf), L[k]? = some f → idxF L f.id = k) ↔ (L.map Sf.id).Nodup := by
 constructor
 ·intro h
  rw [List.Nodup, List.pairwise_iff_getElem]
  intro i j hi hj hij e
  rw [List.length_map] at hi hj
  rw [List.getElem_map, List.getElem_map] at e
  have h1 := h i _ (List.getElem?_eq_getElem hi)
  have h2 := h j _ (List.getElem?_eq_getElem hj)
  rw [e] at h1
  omega
 ·intro h k f hk
  rcases idxF_is (L := L) (i := f.id) with ⟨_, h2⟩ | ⟨j, g, h1, h2, h3, h4⟩
  ·exact absurd rfl (h2 k f hk)
  ·rw [h1]
   have hk' := List.getElem?_eq_some_iff.1 hk
   have hj' := List.getElem?_eq_some_iff.1 h2
   have e : (L.map Sf.id)[j]'(by rw [List.length_map]; exact hj'.1) = (L.map Sf.id)[k]'(by rw [List.length_map]; exact hk'.1) := by
    rw [List.getElem_map, List.getElem_map, hk'.2, hj'.2, h3]
   have hp := List.pairwise_iff_getElem.1 h
   rcases Nat.lt_trichotomy j k with hjk | hjk | hjk
   ·exact absurd e (hp j k _ _ hjk)
   ·omega
   ·exact absurd e.symm (hp k j _ _ hjk)
theorem hid_ok {s : Sn} (hs : snOk s) : snOk ⟨s.w, s.h, s.back, hidL s.w s.h s.fs⟩ := by
 have hsub := hidL_sub s.w s.h s.fs
 obtain ⟨h1, h2, h3, h4⟩ := hs
 refine ⟨h1, h2, Nat.le_trans hsub.length_le h3, fun k f hf => ?_⟩
 have hn := (ids_nodup (L := s.fs)).1 fun k f h => (h4 k f h).2
 have hm : f ∈ s.fs := hsub.subset (List.mem_of_getElem? hf)
 obtain ⟨j, hj⟩ := List.getElem?_of_mem hm
 exact ⟨(h4 j f hj).1, (ids_nodup (L := hidL s.w s.h s.fs)).2 (hn.sublist (hsub.map _)) k f hf⟩
theorem hid_same {s : Sn} (hs : snOk s) : pnIm ⟨s.w, s.h, s.back, hidL s.w s.h s.fs⟩ = pnIm s := by
 rw [pnIm_yes (hid_ok hs), pnIm_yes hs]
 obtain ⟨x, y, b, fs⟩ := s
 obtain ⟨W, H, rfl, rfl, h1, h2, h3, h4⟩ := sz_nat (show szOk x y from hs.1)
 have hf := flat_ok hs.1 hs.2.1.1
 dsimp only at hf ⊢
 rw [Int.toNat_natCast]
 have hl : (flatN (W : Int) (H : Int) b).length = W * H := by have := hf.2.1; have := Int.natCast_mul W H; omega
 congr 1
 refine list_getD (by rw [pnL_len, pnL_len]) fun k hk => ?_
 rw [pnL_len, hl] at hk
 rw [pnL_at _ (by rw [hl]; exact hk), pnL_at _ (by rw [hl]; exact hk)]
 exact hid_at ⟨by omega, by omega⟩ ⟨by omega, by omega⟩ hk fs (getD_ok hf.2.2 (by rw [hl]; exact hk))
end Go.Proofs.YtdgagooldlnpeaaGreat
