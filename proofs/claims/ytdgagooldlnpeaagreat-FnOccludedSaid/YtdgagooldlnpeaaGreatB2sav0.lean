/- Texts of mine in one file: OcM, OcK, OcN. No statement is proved here. -/
import Derived.Test.YtdgagooldlnpeaaGreatMAv013
import Derived.Test.YtdgagooldlnpeaaGreatMA
import Derived.Test.YtdgagooldlnpeaaGreatB2sav013
import Derived.Test.YtdgagooldlnpeaaGreatMC
import Derived.Test.YtdgagooldlnpeaaGreatMAv023
import Derived.Test.YtdgagooldlnpeaaGreatCombIv013
import Derived.Test.YtdgagooldlnpeaaGreatMAv01
import Derived.Test.YtdgagooldlnpeaaGreatB2sav01
import Derived.Test.YtdgagooldlnpeaaGreatMBv01
import Derived.Test.YtdgagooldlnpeaaGreatMB
import Derived.Test.YtdgagooldlnpeaaGreatMAv012
import Derived.Test.YtdgagooldlnpeaaGreatB2sa
import Derived.Test.YtdgagooldlnpeaaGreatB1sav013
import Derived.Test.YtdgagooldlnpeaaGreatB1sav03
import Derived.Test.YtdgagooldlnpeaaGreatSfP
import Derived.Test.YtdgagooldlnpeaaGreatSnDv01
import Derived.Test.YtdgagooldlnpeaaGreatB0na
import Derived.Test.YtdgagooldlnpeaaGreatSnS
import Derived.Test.YtdgagooldlnpeaaGreatMBv013
import Derived.Test.YtdgagooldlnpeaaGreatB2sav03
import Derived.Test.YtdgagooldlnpeaaGreatB2sav012
import Derived.Test.YtdgagooldlnpeaaGreatMAv03
import Derived.Test.YtdgagooldlnpeaaGreatSfR
import Derived.Test.YtdgagooldlnpeaaGreatProg
import Derived.WalkKit
import Derived.ProofKit
import Derived.OpenShut
import Derived.WalkLawsBesides
import Derived.WalkSpells
import Derived.ShutString
import Derived.ChangeOld
import Derived.Below
import Derived.Lib.Hide
import Derived.BigQuiet
import Derived.Deep.QuietTactic
import Derived.Maps.AppendAt
import Derived.Deep.OwnRows
import Derived.Handy
import Derived.Deep.Draws
import Derived.OwnWalk
import Derived.Deep.AppendLies
import Derived.Deep.LoopGhost
import Derived.Deep.Onto
import Derived.Deep.MidRow
import Derived.Deep.WholeRow
import Derived.Laws.BitsAllLaws
import Derived.Lib.QuoteBits
import Derived.Deep.RegionHeld3
import Derived.Deep.DeepCutAuto
import Derived.Test.YtdgagooldlnpeaaGreatShelf
import Derived.Laws.CopyOwn
import Derived.Deep.RegionLaw
import Derived.Great.BuildSlice
import Derived.Laws.AppendOwn
import Derived.ChangeKeysEq
import Derived.Deep.RegionWith
import Derived.Shelf.RegionOpenPlain
import Derived.Lib.SliceRun
import Derived.Deep.DeepAppendRoom
namespace Go.Proofs.YtdgagooldlnpeaaGreat
open Go.RowKit
noncomputable def costL (W H : Int) (fs : List Sf) : Int := (fs.map fun f => areaR (ocP W H f)).sum
open Classical in
noncomputable def costM (s : Sn) : Int := if snOk s then s.w * s.h + costL s.w s.h s.fs else 0
theorem costM_yes {s : Sn} (h : snOk s) : costM s = s.w * s.h + costL s.w s.h s.fs := if_pos h
theorem costM_no {s : Sn} (h : ¬ snOk s) : costM s = 0 := if_neg h
theorem costL_take (W H : Int) {fs : List Sf} {k : Nat} {f : Sf} (hf : fs[k]? = some f) : costL W H (fs.take (k + 1)) = costL W H (fs.take k) + areaR (ocP W H f) := by
 unfold costL
 rw [List.take_add_one, hf, Option.toList_some, List.map_append, List.sum_append]
 simp
theorem costL_bd (W H : Int) (fs : List Sf) : 0 ≤ costL W H fs ∧ costL W H fs ≤ 256 * fs.length := by
 unfold costL
 induction fs with
 | nil => simp
 | cons f fs ih => rw [List.map_cons, List.sum_cons, List.length_cons]; have := area_bd (ocP W H f); omega
end Go.Proofs.YtdgagooldlnpeaaGreat
namespace Go.Proofs.YtdgagooldlnpeaaGreat
open Go.RowKit
def CostAns (s : Sn) (w : World) (e : Ending) (w' : World) : Prop := e = .returned (.int .i64 (costM s)) ∧ Below w.heap.size w w'
set_option maxHeartbeats 2000000 in
set_option maxRecDepth 10000 in
theorem costI (s : Sn) (v : Value) (bs : List Nat) (w : World) (h : repSfs.R w s.fs [v] bs) : Calls Tryz.prog 54 #[.agg #[.int .i64 s.w, .int .i64 s.h, .int .i64 s.back, v]] w (CostAns s w) := by
 have hA := SnA.born h
 have hB := belI_box w (.cells #[.int .i64 s.w, .int .i64 s.h, .int .i64 s.back, v] 34)
 have HS := fun W h => snI s v bs W h
 unfold SnOkAns at HS
 obtain ⟨⟨A, c, rfl⟩, hml⟩ := repSfs_form h
 obtain ⟨d0, d1, d2, d3⟩ := hA.cells
 by_cases hs : snOk s
 ·rw [snB_yes hs] at HS
  have HS := Lib.hid HS
  obtain ⟨N, hNe⟩ : ∃ N, N = s.fs.length := ⟨_, rfl⟩
  have hN6 : N ≤ 6 := by rw [hNe]; exact hs.2.2.1
  rw [← hNe] at hml hA HS hB d3 ⊢
  have HN := Lib.hid hNe
  have HA := Lib.hid (costM_yes hs)
  have HP := Lib.hid (fun W h => plsI s (.slice A N c) bs W (by rw [← hNe]; exact hN6) h)
  unfold PlsAns at HP
  rw [← hNe] at HP
  obtain ⟨_, _, _, _, a1, a2⟩ := sn_sizes hs
  obtain ⟨ar, har⟩ : ∃ a, a = s.w * s.h := ⟨_, rfl⟩
  rw [← har] at a1 a2
  have Har := Lib.hid har
  have q0 : IntKind.i64.wrap (s.w * s.h) = ar := by rw [← har]; exact wrap_in _ (by omega) (by omega)
  have HK := Lib.hid (fun k => costL_bd s.w s.h (s.fs.take k))
  clear hs hNe har
  go_enter Tryz.func54, Tryz.ntmps54
  go_wp2_with fail
  refine (HS.out _ hA.r).mono ?_
  rintro e w1 ⟨rfl, hb⟩
  replace hA := hA.call hb
  replace hB := belI_call hB hb
  clear d0 d1 d2 d3 hb
  obtain ⟨d0, d1, d2, d3⟩ := hA.cells
  go_wp2_with fail
  refine (HP.out _ hA.r).mono ?_
  rintro e w3 ⟨g, cs, rfl, hP, hcs, hg, hb⟩
  replace hB := belI_call hB hb
  have HR := Lib.hid hP.rd
  have HB := Lib.hid hB
  clear d0 d1 d2 d3 hb hP hcs hA hB
  have c0 : costL s.w s.h (s.fs.take 0) = 0 := by rw [List.take_zero]; rfl
  go_wp2_with fail
  go_loopg [3, 17] N (fun gk s3 s17 wr => ∃ (k : Nat) (x : Int) (V : World), V = wr ∧ k ≤ N ∧ gk = N - k ∧ s3 = .int .i64 x ∧ Hid (x = ar + costL s.w s.h (s.fs.take k)) ∧ s17 = .int .i64 k ∧ Hid (Below w.heap.size w V) ∧ Hid (Below w3.heap.size w3 V))
  case atStart => exact ⟨0, _, _, rfl, Nat.zero_le _, by omega, rfl, Lib.hid (by rw [c0]; omega), rfl, HB, Lib.hid (Below.refl _ _)⟩
  case round =>
   clear HB c0
   obtain ⟨k, x, V, hV, hk, rfl, rfl, Hx, rfl, HB, HB3⟩ := hrel
   subst hV
   by_cases hlt : k < N
   ·obtain ⟨gp, o, p, u, d, e1, hp, hC, hE⟩ := (HR.out.call HB3.out).at_ (k := k) (by rw [plL_len, ← HN.out]; exact hlt)
    injection e1 with e1
    injection e1 with e1 e2 _
    subst e1 e2
    obtain ⟨f, L⟩ := p
    dsimp only at hC hE
    obtain ⟨Au, cu, rfl⟩ := own_shape hE.r
    obtain ⟨Ad, cd, rfl⟩ := hE.d.form
    dsimp only at hE hC
    rw [Nat.zero_add] at hC
    obtain ⟨c0, c1, c2, c3, c4, c5, c6, c7, c8, c9, c10, c11⟩ := hC
    have hfL : ∃ hf : s.fs[k]? = some f, L = ocP s.w s.h f := by
     unfold plL at hp
     rw [List.getElem?_map] at hp
     obtain ⟨f', h1, h2⟩ := Option.map_eq_some_iff.1 hp
     injection h2 with h2 h3
     subst h2
     exact ⟨h1, h3.symm⟩
    obtain ⟨hf, hLe⟩ := hfL
    have hnx := costL_take s.w s.h hf
    obtain ⟨V1, hV1⟩ : ∃ V1, V1 = V.alloc (.cells #[.slice Au L.length cu, .int .i64 f.id, .int .i64 f.x, .int .i64 f.y, .int .i64 f.w, .int .i64 f.h, .int .i64 f.alpha, .int .i64 f.orient, .bool f.vis, .int .i64 f.bw, .int .i64 f.bh, .slice Ad f.data.length cd] 137) := ⟨_, rfl⟩
    have hbx : Below V.heap.size V V1 := by rw [hV1]; exact belI_box _ _
    obtain ⟨ak, hak⟩ : ∃ a, a = areaR L := ⟨_, rfl⟩
    have hAr := areaI (.slice Au L.length cu) L V1 ((hE.call hbx).rd)
    rw [← hak] at hAr
    have hak2 := area_bd L
    rw [← hLe] at hnx
    rw [← hak] at hak2 hnx
    have hx1 := HK.out k
    have hx2 : (s.fs.take k).length ≤ 6 := by rw [List.length_take]; omega
    obtain ⟨x, hx0⟩ : ∃ y, y = x := ⟨_, rfl⟩
    subst hx0
    have hxx := Hx.out
    have q2 : IntKind.i64.wrap (x + ak) = x + ak := wrap_in _ (by omega) (by omega)
    have HAr := Lib.hid hAr
    have HV1 := Lib.hid hV1
    have HB1 := Lib.hid (belI_call HB.out hbx)
    have HB31 := Lib.hid (belI_call HB3.out hbx)
    have Hx2 : Hid (x + ak = ar + costL s.w s.h (s.fs.take (k + 1))) := Lib.hid (by rw [hnx]; omega)
    have k0 : (0 : Int) ≤ (k : Int) := by omega
    have k1 : (k : Int) < (N : Int) := by omega
    clear hp hE hf hLe hnx hV1 hbx hak hak2 hAr hx1 hx2 hxx HB HB3 Hx
    go_wp2_with fail
    rw [← HV1.out]
    refine HAr.out.mono ?_
    rintro e w4 ⟨rfl, hb⟩
    clear c0 c1 c2 c3 c4 c5 c6 c7 c8 c9 c10 c11
    have HB4 := Lib.hid (belI_call HB1.out hb)
    have HB34 := Lib.hid (belI_call HB31.out hb)
    clear hb HB1 HB31 HAr
    go_wp2_with fail
    go_roundg (N - (k + 1))
    case measure => omega
    case rel => exact ⟨k + 1, _, _, rfl, by omega, rfl, rfl, Hx2, by go_num, HB4, HB34⟩
   ·obtain rfl : k = N := by omega
    have hni : ¬ (k : Int) < (k : Int) := by omega
    go_wp2_with fail
    go_ret
    have hx := Hx.out
    rw [List.take_of_length_le (by rw [← HN.out]; exact Nat.le_refl _), Har.out] at hx
    exact ⟨ret_int (by rw [HA.out]; exact hx), HB.out⟩
 ·rw [snB_no hs] at HS
  have HS := Lib.hid HS
  have HA := Lib.hid (costM_no hs)
  clear hs
  go_enter Tryz.func54, Tryz.ntmps54
  go_wp2_with fail
  refine (HS.out _ hA.r).mono ?_
  rintro e w1 ⟨rfl, hb⟩
  replace hB := belI_call hB hb
  clear d0 d1 d2 d3 hb hA
  go_wp2_with fail
  go_ret
  exact ⟨ret_int HA.out.symm, hB⟩
end Go.Proofs.YtdgagooldlnpeaaGreat
namespace Go.Proofs.YtdgagooldlnpeaaGreat
open Go.RowKit
theorem oc1_at {W : Nat} {D : List Int} {f : Sf} {L : List Rc} {k : Nat} (hk : k < D.length) : (oc1 W D f L).getD k 0 = if gridOf L (k / W * 16 + k % W) = true then over (pnPx W f.x f.y (sfPic f) k) (D.getD k 0) else D.getD k 0 := by
 unfold oc1
 rw [tabI_getD _ _ _ hk]
 rfl
theorem occ_at {W H : Nat} (wl : 1 ≤ W ∧ W ≤ 16) (hl : 1 ≤ H ∧ H ≤ 16) (fs : List Sf) {D : List Int} (hD : allPix D) (hDl : D.length = W * H) {k : Nat} (hk : k < W * H) (j : Nat) (hj : j ≤ fs.length) :
    pixOk ((ocK W H fs D j).getD k 0) ∧ (fs.drop j).foldl (fun x f => ptA W k f x) ((ocK W H fs D j).getD k 0) = fs.foldl (fun x f => ptA W k f x) (D.getD k 0) := by
  have hkD : k < D.length := by omega
  induction j with
  | zero => exact ⟨getD_ok hD hkD, rfl⟩
  | succ j ih =>
    obtain ⟨h1, h2⟩ := ih (by omega)
    obtain ⟨f, hf⟩ : ∃ f, fs[j]? = some f := ⟨_, List.getElem?_eq_getElem (by omega)⟩
    have hd : fs.drop j = f :: fs.drop (j + 1) := by
      have hl := (List.getElem?_eq_some_iff.1 hf)
      rw [List.drop_eq_getElem_cons hl.1, hl.2]
    have hv := ocV_iff wl hl f (fs.drop (j + 1)) hk
    rw [hd, List.foldl_cons] at h2
    rw [ocK_next hf, oc1_at (by rw [ocK_len]; exact hkD)]
    by_cases hg : gridOf (ocV W H f (fs.drop (j + 1))) (k / W * 16 + k % W) = true
    · have hb := (hv.1 hg).1
      rw [if_pos hg]
      refine ⟨over_pix (pnPx_ok hb) h1, ?_⟩
      rw [← h2]
      unfold ptA
      rw [if_pos hb]
    · rw [if_neg hg]
      refine ⟨h1, ?_⟩
      rw [← h2]
      by_cases hb : hasB (sfRect f) (k % W : Nat) (k / W : Nat) = true
      · have hc : cvr W k (fs.drop (j + 1)) := Classical.byContradiction fun hn => hg (hv.2 ⟨hb, hn⟩)
        exact fold_cvr hc h1 (ptA_ok h1)
      · rw [show ptA W k f ((ocK W H fs D j).getD k 0) = (ocK W H fs D j).getD k 0 from if_neg hb]
theorem occ_same {s : Sn} (hs : snOk s) : pvIm s = pnIm s := by
 rw [pvIm_yes hs, pnIm_yes hs]
 obtain ⟨x, y, b, fs⟩ := s
 obtain ⟨W, H, rfl, rfl, h1, h2, h3, h4⟩ := sz_nat (show szOk x y from hs.1)
 have hf := flat_ok hs.1 hs.2.1.1
 dsimp only at hf ⊢
 rw [Int.toNat_natCast, Int.toNat_natCast]
 have hl : (flatN (W : Int) (H : Int) b).length = W * H := by have := hf.2.1; have := Int.natCast_mul W H; omega
 congr 1
 refine list_getD (by rw [ocK_len, pnL_len]) fun k hk => ?_
 rw [ocK_len, hl] at hk
 have h := (occ_at ⟨by omega, by omega⟩ ⟨by omega, by omega⟩ fs hf.2.2 hl hk fs.length (Nat.le_refl _)).2
 rw [List.drop_length, List.foldl_nil] at h
 rw [h, pnL_at fs (by rw [hl]; exact hk)]
theorem ocA_le (W H : Nat) (fs : List Sf) (k : Nat) : ocA W H fs k ≤ costL W H (fs.take k) := by
  induction k with
  | zero => exact Int.le_refl _
  | succ k ih =>
    rcases h : fs[k]? with _ | f
    · have e : ocA W H fs (k + 1) = ocA W H fs k := by
        show (match fs[k]? with | some f => _ | none => _) = _
        rw [h]
      rw [e, List.take_add_one, h]
      simpa using ih
    · rw [ocA_next h, costL_take W H h]
      have := (sets_area (ocP_ok W H f) (ocC_ok W H (fs.drop (k + 1)))).2
      have h2 := area_bd (joinL (fun p q => p && q) (ocP W H f) (ocC W H (fs.drop (k + 1))))
      unfold ocV
      omega
theorem occ_work {s : Sn} (hs : snOk s) : pvN s ≤ costM s ∧ s.w * s.h - areaR (covM s (-1)) ≤ pvN s := by
 rw [pvN_yes hs, costM_yes hs, covM_yes ⟨hs, by omega, by omega⟩, show ((-1 : Int) + 1).toNat = 0 by omega, List.drop_zero]
 obtain ⟨x, y, b, fs⟩ := s
 obtain ⟨W, H, rfl, rfl, _⟩ := sz_nat (show szOk x y from hs.1)
 dsimp only
 rw [Int.toNat_natCast, Int.toNat_natCast]
 have h1 := ocA_le W H fs fs.length
 rw [List.take_length] at h1
 have h2 := (ocA_bd W H fs fs.length).1
 have h3 := area_bd (ocC (W : Int) (H : Int) fs)
 omega
end Go.Proofs.YtdgagooldlnpeaaGreat
