/- Texts of mine in one file: SfQ, OcM, OcK, OcS, OvI. No statement is proved here. -/
import Derived.Test.YtdgagooldlnpeaaGreatMA
import Derived.Test.YtdgagooldlnpeaaGreatMAv023
import Derived.Test.YtdgagooldlnpeaaGreatMB
import Derived.Test.YtdgagooldlnpeaaGreatMC
import Derived.Test.YtdgagooldlnpeaaGreatSfO
import Derived.Test.YtdgagooldlnpeaaGreatSfP
import Derived.Test.YtdgagooldlnpeaaGreatB2sav013
import Derived.Test.YtdgagooldlnpeaaGreatMAv013
import Derived.Test.YtdgagooldlnpeaaGreatB2sa
import Derived.Test.YtdgagooldlnpeaaGreatSfR
import Derived.Test.YtdgagooldlnpeaaGreatCombIv013
import Derived.Test.YtdgagooldlnpeaaGreatB1sav013
import Derived.Test.YtdgagooldlnpeaaGreatB0na
import Derived.Test.YtdgagooldlnpeaaGreatSnS
import Derived.Test.YtdgagooldlnpeaaGreatB1nav013
import Derived.Test.YtdgagooldlnpeaaGreatProg
import Derived.WalkKit
import Derived.ProofKit
import Derived.OpenShut
import Derived.WalkLawsBesides
import Derived.WalkSpells
import Derived.ShutString
import Derived.ChangeOld
import Derived.Below
import Derived.Lib.Hide
import Derived.BigQuiet
import Derived.Deep.QuietTactic
import Derived.Maps.AppendAt
import Derived.Deep.OwnRows
import Derived.Handy
import Derived.Deep.Draws
import Derived.OwnWalk
import Derived.Deep.AppendLies
import Derived.Deep.LoopGhost
import Derived.Deep.Onto
import Derived.Deep.MidRow
import Derived.Deep.WholeRow
import Derived.Laws.BitsAllLaws
import Derived.Lib.QuoteBits
import Derived.Deep.RegionHeld3
import Derived.Deep.DeepCutAuto
import Derived.Test.YtdgagooldlnpeaaGreatShelf
import Derived.Laws.CopyOwn
import Derived.Deep.RegionLaw
import Derived.Great.BuildSlice
import Derived.Laws.AppendOwn
import Derived.ChangeKeysEq
import Derived.Deep.RegionWith
import Derived.Shelf.RegionOpenPlain
import Derived.Lib.SliceRun
import Derived.Deep.DeepAppendRoom
namespace Go.Proofs.YtdgagooldlnpeaaGreat
open Go.RowKit
set_option maxHeartbeats 2000000 in
set_option maxRecDepth 10000 in
theorem isoS (f : Sf) (d : Value) (w : World) (hv : RdI w d f.data) : Calls Tryz.prog 110 #[.agg #[.int .i64 f.id, .int .i64 f.x, .int .i64 f.y, .int .i64 f.w, .int .i64 f.h, .int .i64 f.alpha, .int .i64 f.orient, .bool f.vis, .int .i64 f.bw, .int .i64 f.bh, d]] w (IsoAns f w) := by
 obtain ⟨A, c, rfl⟩ := hv.form
 have hB := belI_box w (.cells #[.int .i64 f.id, .int .i64 f.x, .int .i64 f.y, .int .i64 f.w, .int .i64 f.h, .int .i64 f.alpha, .int .i64 f.orient, .bool f.vis, .int .i64 f.bw, .int .i64 f.bh, .slice A f.data.length c] 89)
 have hX := BkAt.new w 89 #[.int .i64 f.id, .int .i64 f.x, .int .i64 f.y, .int .i64 f.w, .int .i64 f.h, .int .i64 f.alpha, .int .i64 f.orient, .bool f.vis, .int .i64 f.bw, .int .i64 f.bh, .slice A f.data.length c]
 have HV := Lib.hid (hv.call hB)
 have HC := fun (W : World) (h : RdI W (.slice A f.data.length c) f.data) => sfS f _ W h
 unfold SfOkAns at HC
 clear hv
 have HP := fun (W : World) (h : RdI W (.slice A f.data.length c) f.data) => picS f _ W h
 unfold PicAns AnsIm at HP
 obtain ⟨X, Y, L, hL⟩ : ∃ X Y L, sfPic f = ⟨X, Y, L⟩ := ⟨_, _, _, rfl⟩
 have hy : allOpq L → sfB f = sfOpq f := fun h => by
  by_cases hs : sfOk f
  ·rw [sfB_yes hs, sfOpq_yes hs (by rw [hL]; exact h)]
  ·rw [sfB_no hs, sfOpq_no fun e => hs e.1]
 have hno : ¬ allOpq L → sfOpq f = false := fun h => sfOpq_no fun e => h (by have := e.2; rwa [hL] at this)
 rw [hL] at HP
 dsimp only at HP
 obtain ⟨q, hq⟩ : ∃ q, q = sfB f := ⟨_, rfl⟩
 rw [← hq] at HC hy
 have HC := Lib.hid HC
 have HP := Lib.hid HP
 have Hy := Lib.hid hy
 have Hno := Lib.hid hno
 obtain ⟨n, hn⟩ : ∃ n, n = L.length := ⟨_, rfl⟩
 have hn2 : n ≤ 100000000 := by have := sfPic_len f; rw [hL] at this; rw [hn]; exact this
 have Hn := Lib.hid hn
 clear hL hy hno hn hq
 have e0 := hX.cell 0 rfl
 have e1 := hX.cell 1 rfl
 have e2 := hX.cell 2 rfl
 have e3 := hX.cell 3 rfl
 have e4 := hX.cell 4 rfl
 have e5 := hX.cell 5 rfl
 have e6 := hX.cell 6 rfl
 have e7 := hX.cell 7 rfl
 have e8 := hX.cell 8 rfl
 have e9 := hX.cell 9 rfl
 have e10 := hX.cell 10 rfl
 go_enter Tryz.func110, Tryz.ntmps110
 go_wp2_with fail
 refine (HP.out _ HV.out).mono ?_
 rintro e w2 ⟨u, rfl, ho, hb⟩
 have HV := Lib.hid (HV.out.call hb)
 replace hX := hX.call hb
 replace hB := belI_call hB hb
 have hrd := RdI.of_own ho
 clear e0 e1 e2 e3 e4 e5 e6 e7 e8 e9 e10
 obtain ⟨A2, c2, hu⟩ := hrd.form
 subst hu
 rw [← Hn.out] at hrd ⊢
 have hb3 := belI_box w2 (.cells #[.int .i64 X, .int .i64 Y, .slice A2 n c2] 55)
 have hI := ImAt.new w2 55 X Y (.slice A2 n c2)
 obtain ⟨i0, i1, i2⟩ := hI.cells
 obtain ⟨bi, hbi⟩ : ∃ b, b = w2.heap.size := ⟨_, rfl⟩
 obtain ⟨w3, hw3⟩ : ∃ W, W = w2.alloc (.cells #[.int .i64 X, .int .i64 Y, .slice A2 n c2] 55) := ⟨_, rfl⟩
 have Hw3 := Lib.hid hw3
 have Hbi := Lib.hid hbi
 have HI := Lib.hid (show ImAt w3 bi 55 X Y (.slice A2 n c2) by rw [hw3, hbi]; exact hI)
 have HR := Lib.hid (show RdI w3 _ _ by rw [hw3]; exact hrd.call hb3)
 have HX := Lib.hid (show BkAt w3 _ _ _ by rw [hw3]; exact hX.call hb3)
 have HV := Lib.hid (show RdI w3 _ _ by rw [hw3]; exact HV.out.call hb3)
 have HB := Lib.hid (show Below w.heap.size w w3 by rw [hw3]; exact belI_call hB hb3)
 clear hX hB hb ho hrd hb3 hI hw3 hbi
 go_wp2_with fail
 rw [← Hw3.out, ← Hbi.out]
 clear i0 i1 i2
 go_loopg [4] n (fun gg s4 wr => ∃ k : Nat, k ≤ n ∧ n - k ≤ gg ∧ s4 = .int .i64 k ∧ Hid (∀ (j : Nat) (p : Int), j < k → L[j]? = some p → chan p 0 = 255) ∧ wr = w3)
 case atStart => exact ⟨0, Nat.zero_le _, by omega, rfl, Lib.hid (fun j x h => by omega), rfl⟩
 case round =>
  obtain ⟨k, hk, hgg, rfl, Hall, rfl⟩ := hrel
  obtain ⟨_, _, i2⟩ := HI.out.cells
  by_cases hlt : k < n
  ·obtain ⟨g, x, rfl, hx, hc⟩ := HR.out.at_ (k := k) (by rw [← Hn.out]; exact hlt)
   have Hx := Lib.hid hx
   have HK := fun W => chS_any x 0 W
   have k0 : (0 : Int) ≤ (k : Int) := by omega
   have k1 : (k : Int) < (n : Int) := by omega
   clear hx
   by_cases hch : chan x 0 = 255
   ·rw [hch] at HK
    have Hch := Lib.hid hch
    have HK := Lib.hid HK
    clear hch
    go_wp2_with fail
    refine (HK.out _).mono ?_
    rintro e w4 ⟨rfl, rfl⟩
    clear hc
    go_wp2_with fail
    go_roundg (n - (k + 1))
    case measure => omega
    case rel =>
     refine ⟨k + 1, by omega, by omega, by go_num, Lib.hid (fun j y hj hy => ?_), rfl⟩
     by_cases e : j < k
     ·exact Hall.out j y e hy
     ·obtain rfl : j = k := by omega
      rw [Hx.out] at hy
      rw [← Option.some.inj hy]
      exact Hch.out
   ·have Hq := Lib.hid (Hno.out fun h => hch (h k x Hx.out))
    obtain ⟨y, hy⟩ : ∃ y, y = chan x 0 := ⟨_, rfl⟩
    rw [← hy] at HK hch
    have HK := Lib.hid HK
    clear hy
    go_wp2_with fail
    refine (HK.out _).mono ?_
    rintro e w4 ⟨rfl, rfl⟩
    clear hc
    go_wp2_with fail
    go_ret
    exact ⟨ret_bool Hq.out.symm, HB.out⟩
  ·obtain rfl : k = n := by omega
   have Hq := Lib.hid (Hy.out fun j p hj => Hall.out j p (by rw [Hn.out]; exact (List.getElem?_eq_some_iff.1 hj).1) hj)
   have hX := HX.out
   have e0 := hX.cell 0 rfl
   have e1 := hX.cell 1 rfl
   have e2 := hX.cell 2 rfl
   have e3 := hX.cell 3 rfl
   have e4 := hX.cell 4 rfl
   have e5 := hX.cell 5 rfl
   have e6 := hX.cell 6 rfl
   have e7 := hX.cell 7 rfl
   have e8 := hX.cell 8 rfl
   have e9 := hX.cell 9 rfl
   have e10 := hX.cell 10 rfl
   go_wp2_with fail
   refine (HC.out _ HV.out).mono ?_
   rintro e w5 ⟨rfl, hb⟩
   have HB2 := Lib.hid (belI_call HB.out hb)
   clear e0 e1 e2 e3 e4 e5 e6 e7 e8 e9 e10
   clear hb hX
   go_wp2_with fail
   go_ret
   exact ⟨ret_bool Hq.out, HB2.out⟩
end Go.Proofs.YtdgagooldlnpeaaGreat
namespace Go.Proofs.YtdgagooldlnpeaaGreat
open Go.RowKit
theorem ocO_len (W H : Int) (fs : List Sf) : (ocO W H fs).length ≤ fs.length := by unfold ocO; rw [List.length_map]; exact List.length_filter_le _ _
theorem ocO_one {W H : Int} {f : Sf} {fs : List Sf} : ocO W H (fs ++ [f]) = ocO W H fs ++ (if sfOpq f = true then [ocR W H f] else []) := by
 unfold ocO
 rw [List.filter_append, List.map_append]
 congr 1
 by_cases h : sfOpq f = true <;> simp [h]
open Classical in
noncomputable def covM (s : Sn) (k : Int) : List Rc := if snOk s ∧ -1 ≤ k ∧ k ≤ (s.fs.length : Int) - 1 then ocC s.w s.h (s.fs.drop (k + 1).toNat) else []
theorem covM_yes {s : Sn} {k : Int} (h : snOk s ∧ -1 ≤ k ∧ k ≤ (s.fs.length : Int) - 1) : covM s k = ocC s.w s.h (s.fs.drop (k + 1).toNat) := if_pos h
theorem covM_no {s : Sn} {k : Int} (h : ¬ (snOk s ∧ -1 ≤ k ∧ k ≤ (s.fs.length : Int) - 1)) : covM s k = [] := if_neg h
theorem oc1_len (W : Nat) (D : List Int) (f : Sf) (L : List Rc) : (oc1 W D f L).length = D.length := tabI_length _ _
noncomputable def ocK (W H : Nat) (fs : List Sf) (D : List Int) : Nat → List Int
 | 0 => D
 | k + 1 => match fs[k]? with | some f => oc1 W (ocK W H fs D k) f (ocV W H f (fs.drop (k + 1))) | none => ocK W H fs D k
theorem ocK_next {W H : Nat} {fs : List Sf} {D : List Int} {k : Nat} {f : Sf} (hf : fs[k]? = some f) : ocK W H fs D (k + 1) = oc1 W (ocK W H fs D k) f (ocV W H f (fs.drop (k + 1))) := by
 show (match fs[k]? with | some f => _ | none => _) = _
 rw [hf]
theorem ocK_len (W H : Nat) (fs : List Sf) (D : List Int) (k : Nat) : (ocK W H fs D k).length = D.length := by
  induction k with
  | zero => rfl
  | succ k ih =>
    show List.length (match fs[k]? with | some f => _ | none => _) = _
    split
    · rw [oc1_len, ih]
    · exact ih
noncomputable def ocA (W H : Nat) (fs : List Sf) : Nat → Int
 | 0 => 0
 | k + 1 => match fs[k]? with | some f => ocA W H fs k + areaR (ocV W H f (fs.drop (k + 1))) | none => ocA W H fs k
theorem ocA_next {W H : Nat} {fs : List Sf} {k : Nat} {f : Sf} (hf : fs[k]? = some f) : ocA W H fs (k + 1) = ocA W H fs k + areaR (ocV W H f (fs.drop (k + 1))) := by
 show (match fs[k]? with | some f => _ | none => _) = _
 rw [hf]
theorem ocA_bd (W H : Nat) (fs : List Sf) (k : Nat) : 0 ≤ ocA W H fs k ∧ ocA W H fs k ≤ 256 * k := by
  induction k with
  | zero => exact ⟨Int.le_refl _, Int.le_refl _⟩
  | succ k ih =>
    rcases h : fs[k]? with _ | f
    · have e : ocA W H fs (k + 1) = ocA W H fs k := by
        show (match fs[k]? with | some f => _ | none => _) = _
        rw [h]
      rw [e]
      omega
    · rw [ocA_next h]
      have := area_bd (ocV W H f (fs.drop (k + 1)))
      omega
open Classical in
noncomputable def pvIm (s : Sn) : Im := if snOk s then ⟨s.w, s.h, ocK s.w.toNat s.h.toNat s.fs (flatN s.w s.h s.back) s.fs.length⟩ else zeroIm
open Classical in
noncomputable def pvN (s : Sn) : Int := if snOk s then s.w * s.h - areaR (ocC s.w s.h s.fs) + ocA s.w.toNat s.h.toNat s.fs s.fs.length else 0
theorem pvIm_yes {s : Sn} (h : snOk s) : pvIm s = ⟨s.w, s.h, ocK s.w.toNat s.h.toNat s.fs (flatN s.w s.h s.back) s.fs.length⟩ := if_pos h
theorem pvIm_no {s : Sn} (h : ¬ snOk s) : pvIm s = zeroIm := if_neg h
theorem pvN_yes {s : Sn} (h : snOk s) : pvN s = s.w * s.h - areaR (ocC s.w s.h s.fs) + ocA s.w.toNat s.h.toNat s.fs s.fs.length := if_pos h
theorem pvN_no {s : Sn} (h : ¬ snOk s) : pvN s = 0 := if_neg h
theorem runs_apart (g : Nat → Bool) (y h x : Nat) : Apart (runs g y h x) := by
  fun_induction runs g y h x with
  | case1 x hx ih =>
    unfold Apart
    rw [List.pairwise_append]
    refine ⟨by split <;> simp, ih, fun a ha b hb p q h1 h2 => ?_⟩
    have hm := (runs_mem g y h (x + runW g y x + 1) p q).1 ⟨b, hb, h2⟩
    split at ha
    · obtain rfl := List.mem_singleton.1 ha
      have := h1.2.1
      dsimp only at this
      omega
    · cases ha
  | case2 x hx => exact List.Pairwise.nil
theorem bands_apart (g : Nat → Bool) (y : Nat) : Apart (bands g y) := by
  fun_induction bands g y with
  | case1 y hy ih =>
    unfold Apart
    rw [List.pairwise_append]
    refine ⟨runs_apart _ _ _ _, ih, fun a ha b hb p q h1 h2 => ?_⟩
    have hm := (bands_mem g (y + bandH g y) p q).1 ⟨b, hb, h2⟩
    have hn := (runs_mem g y (bandH g y) 0 p q).1 ⟨a, ha, h1⟩
    omega
  | case2 y hy => exact List.Pairwise.nil
theorem canon_apart (g : Nat → Bool) : Apart (canon g) := bands_apart g 0
theorem grid_mem {L : List Rc} {r : Rc} (hr : r ∈ L) {W H : Nat} (hi : InScr W H r) (hW : W ≤ 16) (hH : H ≤ 16) {p q : Nat} (h : inRc r p q) : gridOf L (q * 16 + p) = true := by
 obtain ⟨X, Y, w, hh, rfl, h1, h2⟩ := hi.n
 unfold inRc at h
 dsimp only at h
 rw [gridOf_iff, show (q * 16 + p) % 16 = p by omega, show (q * 16 + p) / 16 = q by omega]
 exact ⟨_, hr, by unfold Rc.ok; dsimp only; omega, h⟩
theorem parts_vis {W H : Nat} (wl : 1 ≤ W ∧ W ≤ 16) (hl : 1 ≤ H ∧ H ≤ 16) (f : Sf) (fs : List Sf) : PartsOk W H f (ocV W H f fs) := by
 have hs : ∀ r ∈ ocV W H f fs, OnScreen r := ok_on (by rw [ocV_eq]; exact ok_canon _)
 have hm : ∀ r ∈ ocV W H f fs, ∀ p q : Nat, inRc r p q → hasB (sfRect f) p q = true ∧ p < W ∧ q < H := fun r hr p q h => by
  have ho := hs r hr
  have hi : InScr 16 16 r := by
   unfold OnScreen at ho
   obtain ⟨x, y, u, v⟩ := r
   dsimp only at ho
   exact ⟨x.toNat, y.toNat, u.toNat, v.toNat, by rw [Int.toNat_of_nonneg (by omega), Int.toNat_of_nonneg (by omega), Int.toNat_of_nonneg (by omega), Int.toNat_of_nonneg (by omega)], by omega, by omega⟩
  have hg := grid_mem hr hi (by omega) (by omega) h
  unfold inRc at h
  unfold OnScreen at ho
  exact ((ocV_in wl hl f fs p q (by omega) (by omega)).1 hg).1
 refine ⟨fun r hr => ?_, fun r hr p q h => (hm r hr p q h).1, by rw [ocV_eq]; exact canon_apart _⟩
 have ho := hs r hr
 have h1 := hm r hr (r.x + r.w - 1).toNat (r.y + r.h - 1).toNat (by unfold OnScreen at ho; unfold inRc; omega)
 unfold OnScreen at ho
 obtain ⟨x, y, u, v⟩ := r
 dsimp only at ho h1
 exact ⟨x.toNat, y.toNat, u.toNat, v.toNat, by rw [Int.toNat_of_nonneg (by omega), Int.toNat_of_nonneg (by omega), Int.toNat_of_nonneg (by omega), Int.toNat_of_nonneg (by omega)], by omega, by omega⟩
end Go.Proofs.YtdgagooldlnpeaaGreat
namespace Go.Proofs.YtdgagooldlnpeaaGreat
open Go.RowKit
theorem plL_drop (W H : Int) (fs : List Sf) (j : Nat) : (plL W H fs).drop j = plL W H (fs.drop j) := by unfold plL; rw [List.map_drop]
set_option maxHeartbeats 2000000 in
set_option maxRecDepth 10000 in
theorem covI (s : Sn) (k : Int) (v : Value) (bs : List Nat) (w : World) (h : repSfs.R w s.fs [v] bs) : Calls Tryz.prog 104 #[.agg #[.int .i64 s.w, .int .i64 s.h, .int .i64 s.back, v], .int .i64 k] w (RgQ (covM s k) w) := by
 have hT := CvT.born h
 have HS := fun W h => snI s v bs W h
 unfold SnOkAns at HS
 obtain ⟨⟨A, c, rfl⟩, hml⟩ := repSfs_form h
 obtain ⟨d0, d1, d2, d3⟩ := hT.a.cells
 obtain ⟨r0, r1⟩ := hT.res
 by_cases hs : snOk s
 ·rw [snB_yes hs] at HS
  have HS := Lib.hid HS
  obtain ⟨N, hNe⟩ : ∃ N, N = s.fs.length := ⟨_, rfl⟩
  have hN6 : N ≤ 6 := by rw [hNe]; exact hs.2.2.1
  rw [← hNe] at hml hT HS d3 ⊢
  have HN := Lib.hid hNe
  have Hs := Lib.hid hs
  by_cases hk : -1 ≤ k ∧ k ≤ (N : Int) - 1
  ·obtain ⟨j, rfl⟩ : ∃ j : Nat, k = (j : Int) - 1 := ⟨(k + 1).toNat, by omega⟩
   have hj : j ≤ N := by omega
   have HA : Hid (covM s ((j : Int) - 1) = ocC s.w s.h (s.fs.drop j)) := Lib.hid (by
    rw [covM_yes ⟨hs, hk.1, by rw [← hNe]; exact hk.2⟩, show ((j : Int) - 1 + 1).toNat = j by omega])
   have Hk := Lib.hid hk
   have HP := Lib.hid (fun W h => plsI s (.slice A N c) bs W (by rw [← hNe]; exact hN6) h)
   unfold PlsAns at HP
   rw [← hNe] at HP
   have q0 : IntKind.i64.wrap ((N : Int) - 1) = (N : Int) - 1 := wrap_in _ (by omega) (by omega)
   have q1 : IntKind.i64.wrap ((j : Int) - 1 + 1) = (j : Int) := by rw [wrap_in _ (by omega) (by omega)]; omega
   clear hs hNe hk
   go_enter Tryz.func104, Tryz.ntmps104
   go_wp2_with fail
   refine (HS.out _ hT.a.r).mono ?_
   rintro e w1 ⟨rfl, hb⟩
   replace hT := hT.call hb
   clear d0 d1 d2 d3 r0 r1 hb
   obtain ⟨d0, d1, d2, d3⟩ := hT.a.cells
   go_wp2_with fail
   refine (inI_yes _ _ _ _ Hk.out.1 Hk.out.2).mono ?_
   rintro e w2 ⟨rfl, rfl⟩
   go_wp2_with fail
   refine (HP.out _ hT.a.r).mono ?_
   rintro e w3 ⟨g, cs, rfl, hP, hcs, hg, hb⟩
   replace hT := hT.call hb
   clear d0 d1 d2 d3 hb
   have j0 : (0 : Int) ≤ (j : Int) := by omega
   have j1 : (j : Int) ≤ (N : Int) := by omega
   have HF := fun (u : Value) (hu : RdP w3 u ((plL s.w s.h s.fs).drop j)) => (cbI ((plL s.w s.h s.fs).drop j) u w3 (by rw [List.length_drop, plL_len, ← HN.out]; omega) (fun p hp => plL_small _ _ _ p (List.mem_of_mem_drop hp)) hu).mono (fun e w' h => RgQ.of_rof h (Q := ocC s.w s.h (s.fs.drop j)) (by rw [plL_drop, cbQ_pl, ocQ_C]))
   obtain ⟨Q, hQ⟩ : ∃ Q, Q = ocC s.w s.h (s.fs.drop j) := ⟨_, rfl⟩
   rw [← hQ] at HF HA
   unfold RgQ at HF
   have HF := Lib.hid HF
   have HPP := Lib.hid hP
   have HT := Lib.hid hT
   clear hP hcs hQ
   rcases Nat.lt_or_ge j N with hjn | hjn
   ·have he : ¬ N = j := by omega
    have hd := Lib.hid (HPP.out.from j)
    go_wp2_with fail
    refine (HF.out _ hd.out).mono ?_
    rintro e w4 ⟨z, rfl, hown, hb⟩
    obtain ⟨Az, cz, rfl⟩ := own_shape hown
    have hl := HT.out.x.lt
    have HT2 := Lib.hid (HT.out.call hb)
    obtain ⟨r0, r1⟩ := HT2.out.res
    have Hown := Lib.hid hown
    clear hown hb hT
    go_wp2_with fail
    refine bodyPost_ret (v := .agg #[.slice Az Q.length cz]) (by simp [results, Tryz.results104, go_sem, r0]) rfl ?_
    rw [HA.out]
    exact ⟨_, rfl, own_set Hown.out (by omega) (by omega) _, HT2.out.bw.setCell (by simp) _⟩
   ·obtain rfl : j = N := by omega
    have hd := Lib.hid (fun A c => HPP.out.none A c)
    go_wp2_with fail
    refine (HF.out _ (hd.out _ _)).mono ?_
    rintro e w4 ⟨z, rfl, hown, hb⟩
    obtain ⟨Az, cz, rfl⟩ := own_shape hown
    have hl := HT.out.x.lt
    have HT2 := Lib.hid (HT.out.call hb)
    obtain ⟨r0, r1⟩ := HT2.out.res
    have Hown := Lib.hid hown
    clear hown hb hT
    go_wp2_with fail
    refine bodyPost_ret (v := .agg #[.slice Az Q.length cz]) (by simp [results, Tryz.results104, go_sem, r0]) rfl ?_
    rw [HA.out]
    exact ⟨_, rfl, own_set Hown.out (by omega) (by omega) _, HT2.out.bw.setCell (by simp) _⟩
  ·have HA := Lib.hid (covM_no (s := s) (k := k) fun h => hk ⟨h.2.1, by rw [hNe]; exact h.2.2⟩)
   have q0 : IntKind.i64.wrap ((N : Int) - 1) = (N : Int) - 1 := wrap_in _ (by omega) (by omega)
   have Hk : Hid (k < -1 ∨ (N : Int) - 1 < k) := Lib.hid (by omega)
   clear hs hNe hk
   go_enter Tryz.func104, Tryz.ntmps104
   go_wp2_with fail
   refine (HS.out _ hT.a.r).mono ?_
   rintro e w1 ⟨rfl, hb⟩
   replace hT := hT.call hb
   clear d0 d1 d2 d3 r0 r1 hb
   obtain ⟨d0, d1, d2, d3⟩ := hT.a.cells
   obtain ⟨r0, r1⟩ := hT.res
   go_wp2_with fail
   refine (inI_no _ _ _ _ Hk.out).mono ?_
   rintro e w2 ⟨rfl, rfl⟩
   go_wp2_with fail
   refine bodyPost_ret (v := .agg #[.slice none 0 0]) (by simp [results, Tryz.results104, go_sem, r0]) rfl ?_
   rw [HA.out]
   exact rg_zero hT.bw
 ·rw [snB_no hs] at HS
  have HS := Lib.hid HS
  have HA := Lib.hid (covM_no (s := s) (k := k) fun h => hs h.1)
  clear hs
  go_enter Tryz.func104, Tryz.ntmps104
  go_wp2_with fail
  refine (HS.out _ hT.a.r).mono ?_
  rintro e w1 ⟨rfl, hb⟩
  replace hT := hT.call hb
  clear d0 d1 d2 d3 r0 r1 hb
  obtain ⟨r0, r1⟩ := hT.res
  go_wp2_with fail
  refine bodyPost_ret (v := .agg #[.slice none 0 0]) (by simp [results, Tryz.results104, go_sem, r0]) rfl ?_
  rw [HA.out]
  exact rg_zero hT.bw
end Go.Proofs.YtdgagooldlnpeaaGreat
namespace Go.Proofs.YtdgagooldlnpeaaGreat
open Go.RowKit
structure CwS (w : World) (s : Sn) (v : Value) (V : World) : Prop where
 a : BkAt V w.heap.size 34 #[.int .i64 s.w, .int .i64 s.h, .int .i64 s.back, v]
 x : BxR V (w.heap.size + 1)
 bw : Below w.heap.size w V
theorem CwS.call {w : World} {s : Sn} {v : Value} {V V' : World} (h : CwS w s v V) (hb : Below V.heap.size V V') : CwS w s v V' := ⟨h.a.call hb, (hb.block _ h.x.lt).trans h.x, belI_call h.bw hb⟩
theorem CwS.grown {w : World} {s : Sn} {v u : Value} {n : Nat} {xs : List Value} {V V' : World} (h : CwS w s v V) (ho : V.ownsRow (w.heap.size + 2) 113 4 u n xs) (hg : V.grownBy V' u.ownBlock) : CwS w s v V' := by
 have hlo : ∀ k, u.ownBlock = some k → w.heap.size + 2 ≤ k := fun k hk => (own_ltB ho k (by rw [hk]; simp)).1
 refine ⟨h.a.grown hg fun e => by have := hlo _ e.symm; omega, (hg.block _ h.x.lt fun e => by have := hlo _ e.symm; omega).trans h.x, (Chg.of_grown hg).below h.bw h.bw.size fun b hb => ?_⟩
 have := hlo b (by simpa using hb)
 omega
theorem CwS.born {w : World} {s : Sn} {v : Value} : CwS w s v ((w.alloc (.cells #[.int .i64 s.w, .int .i64 s.h, .int .i64 s.back, v] 34)).alloc (.cells #[.slice none 0 0] 30)) :=
 ⟨(BkAt.new _ _ _).call (belI_box _ _), by have := heap_alloc_new (w.alloc (.cells #[.int .i64 s.w, .int .i64 s.h, .int .i64 s.back, v] 34)) (.cells #[.slice none 0 0] 30); unfold BxR; simpa using this, belI_call (belI_box _ _) (belI_box _ _)⟩
theorem CwS.res {w : World} {s : Sn} {v : Value} {V : World} (h : CwS w s v V) : V.cell? ⟨w.heap.size + 1, 0, none⟩ = some (.slice none 0 0) ∧ V.frozen? ⟨w.heap.size + 1, 0, none⟩ = false := by
 constructor
 ·simp [World.cell?, show V.heap[w.heap.size + 1]? = _ from h.x]
 ·simp [World.frozen?, show V.heap[w.heap.size + 1]? = _ from h.x]
theorem ocO_take (W H : Int) {G : List Sf} {i : Nat} {f : Sf} (h : G[i]? = some f) : ocO W H (G.take (i + 1)) = ocO W H (G.take i) ++ (if sfOpq f = true then [ocR W H f] else []) := by
 rw [List.take_add_one, h, Option.toList_some, ocO_one]
theorem ocO_taken (W H : Int) (G : List Sf) (i : Nat) : (ocO W H (G.take i)).length ≤ i := Nat.le_trans (ocO_len _ _ _) (List.length_take_le _ _)
theorem own_nil2 (V : World) (B : Nat) (hB : B ≤ V.heap.size) : (V.alloc (.cells #[] 113)).ownsRow B 113 4 (.slice (some ⟨V.heap.size, 0, none⟩) 0 0) 0 [] :=
 ⟨rfl, .inr ⟨V.heap.size, 0, #[], rfl, hB, heap_alloc_new V _, Nat.le_refl _, by unfold maxLen; omega, rfl, rfl⟩⟩
set_option maxHeartbeats 4000000 in
set_option maxRecDepth 10000 in
theorem covS (s : Sn) (k : Int) (v : Value) (bs : List Nat) (w : World) (h : repSfs.R w s.fs [v] bs) : Calls Tryz.prog 56 #[.agg #[.int .i64 s.w, .int .i64 s.h, .int .i64 s.back, v], .int .i64 k] w (RgQ (covM s k) w) := by
 have HS := fun W h => snS s v bs W h
 unfold SnOkAns at HS
 obtain ⟨⟨A, c, rfl⟩, hml⟩ := repSfs_form h
 have hT0 := (CwS.born (w := w) (s := s) (v := .slice A s.fs.length c))
 have hT : CwS w s (.slice A s.fs.length c) (((w.alloc (.cells #[.int .i64 s.w, .int .i64 s.h, .int .i64 s.back, .slice A s.fs.length c] 34)).alloc (.cells #[.slice none 0 0] 30)).alloc (.cells #[] 113)) := hT0.call (belI_box _ _)
 have hO : (((w.alloc (.cells #[.int .i64 s.w, .int .i64 s.h, .int .i64 s.back, .slice A s.fs.length c] 34)).alloc (.cells #[.slice none 0 0] 30)).alloc (.cells #[] 113)).ownsRow (w.heap.size + 2) 113 4 (.slice (some ⟨w.heap.size + 1 + 1, 0, none⟩) 0 0) 0 [] := by
  have h1 := own_nil2 ((w.alloc (.cells #[.int .i64 s.w, .int .i64 s.h, .int .i64 s.back, .slice A s.fs.length c] 34)).alloc (.cells #[.slice none 0 0] 30)) (w.heap.size + 2) (by simp)
  simpa using h1
 have hR : ∀ V, Below w.heap.size w V → repSfs.R V s.fs [.slice A s.fs.length c] bs := fun V hb => Rep.call h hb
 obtain ⟨d0, d1, d2, d3⟩ := hT.a.cells4
 by_cases hs : snOk s
 ·rw [snB_yes hs] at HS
  have HS := Lib.hid HS
  obtain ⟨N, hNe⟩ : ∃ N, N = s.fs.length := ⟨_, rfl⟩
  have hN6 : N ≤ 6 := by rw [hNe]; exact hs.2.2.1
  rw [← hNe] at hml hT HS d3 hR hO ⊢
  have HN := Lib.hid hNe
  have HR := Lib.hid hR
  have HW : Hid (repSfs.R w s.fs [.slice A N c] bs) := Lib.hid (by rw [hNe]; exact h)
  by_cases hk : -1 ≤ k ∧ k ≤ (N : Int) - 1
  ·obtain ⟨j, rfl⟩ : ∃ j : Nat, k = (j : Int) - 1 := ⟨(k + 1).toNat, by omega⟩
   have hj : j ≤ N := by omega
   obtain ⟨G, hG⟩ : ∃ G, G = s.fs.drop j := ⟨_, rfl⟩
   have HA : Hid (covM s ((j : Int) - 1) = canon (gridOf (ocO s.w s.h G))) := Lib.hid (by
    rw [covM_yes ⟨hs, hk.1, by rw [← hNe]; exact hk.2⟩, show ((j : Int) - 1 + 1).toNat = j by omega, hG]; rfl)
   have HGl : Hid (G.length = N - j) := Lib.hid (by rw [hG, List.length_drop, hNe])
   have HGi : Hid (∀ i f, s.fs[j + i]? = some f → G[i]? = some f) := Lib.hid (fun i f hf => by rw [hG, List.getElem?_drop]; exact hf)
   have Hk := Lib.hid hk
   obtain ⟨i0, hi, hz0, hz1, hz2⟩ := info2_rc
   have q0 : IntKind.i64.wrap ((N : Int) - 1) = (N : Int) - 1 := wrap_in _ (by omega) (by omega)
   have q1 : IntKind.i64.wrap ((j : Int) - 1 + 1) = (j : Int) := by rw [wrap_in _ (by omega) (by omega)]; omega
   have HI := Lib.hid (fun (W : World) (f : Sf) (d : Value) (h : RdI W d f.data) => isoS f d W h)
   unfold IsoAns at HI
   have HRR := Lib.hid (fun (W : World) (f : Sf) (d : Value) (h : RdI W d f.data) => srS f d W h)
   unfold SrAns RcAns at HRR
   have HF := Lib.hid (fun W u L h => rofS u L W h)
   unfold RofAns at HF
   clear hs hNe hk h hT0 hR hG
   go_enter Tryz.func56, Tryz.ntmps56
   go_wp2_with fail
   refine (HS.out _ (HR.out _ hT.bw)).mono ?_
   rintro e w1 ⟨rfl, hb⟩
   replace hT := hT.call hb
   replace hO := own_call2 hO hb
   clear d0 d1 d2 d3 hb
   obtain ⟨d0, d1, d2, d3⟩ := hT.a.cells4
   go_wp2_with fail
   refine (inS_yes _ _ _ _ Hk.out.1 Hk.out.2).mono ?_
   rintro e w2 ⟨rfl, rfl⟩
   go_wp2_with fail
   clear d0 d1 d2 d3
   have HT := Lib.hid hT
   have HO : Hid (w1.ownsRow (w.heap.size + 2) 113 4 (.slice (some ⟨w.heap.size + 1 + 1, 0, none⟩) 0 0) (ocO s.w s.h (G.take 0)).length (rcsCells (ocO s.w s.h (G.take 0)))) := Lib.hid hO
   clear hT hO
   go_loopg [5, 6] (N - j) (fun gk s5 s6 wr => ∃ (i : Nat) (u5 : Value) (V : World), V = wr ∧ i ≤ N - j ∧ gk = N - j - i ∧ s5 = u5 ∧ s6 = .int .i64 ((j + i : Nat) : Int) ∧ Hid (CwS w s (.slice A N c) V) ∧ Hid (V.ownsRow (w.heap.size + 2) 113 4 u5 (ocO s.w s.h (G.take i)).length (rcsCells (ocO s.w s.h (G.take i)))))
   case atStart => exact ⟨0, _, _, rfl, Nat.zero_le _, by omega, rfl, rfl, HT, HO⟩
   case round =>
    clear HT HO
    obtain ⟨i, u5, V, hV, hi2, rfl, rfl, rfl, HT, HO⟩ := hrel
    subst hV
    obtain ⟨m, hm⟩ : ∃ m, m = j + i := ⟨_, rfl⟩
    rw [← hm]
    have Hm := Lib.hid hm
    obtain ⟨d0, d1, d2, d3⟩ := HT.out.a.cells4
    by_cases hlt : m < N
    ·obtain ⟨gs, f, d, bd, rfl, hf, hC, hd, hbd⟩ := pl_d HW.out (k := m) (by rw [← HN.out]; exact hlt)
     obtain ⟨⟨Ad, cd, rfl⟩, _⟩ := ints_form hd
     have HC0 : Hid (∀ V' : World, Below w.heap.size w V' → C11 V' gs (m * 11) f (.slice Ad f.data.length cd) ∧ RdI V' (.slice Ad f.data.length cd) f.data) := Lib.hid fun V' hb => ⟨hC.call hb, repInts_rd (Rep.call hd hb)⟩
     have Hf := Lib.hid (HGi.out i f (by rw [← hm]; exact hf))
     obtain ⟨c0, c1, c2, c3, c4, c5, c6, c7, c8, c9, c10⟩ := (HC0.out _ HT.out.bw).1
     have k0 : (0 : Int) ≤ (m : Int) := by omega
     have k1 : (m : Int) < (N : Int) := by omega
     have HI1 := HI.out V f _ (HC0.out _ HT.out.bw).2
     obtain ⟨q, hq⟩ : ∃ q, q = ocR s.w s.h f := ⟨_, rfl⟩
     obtain ⟨r, hr⟩ : ∃ r, r = sfRect f := ⟨_, rfl⟩
     have hrq : isect r ⟨0, 0, s.w, s.h⟩ = q := by rw [hq, hr]; rfl
     have HQ := fun W0 => isectS_any r ⟨0, 0, s.w, s.h⟩ W0
     rw [hrq] at HQ
     dsimp only at HQ
     have HQ := Lib.hid HQ
     have HR1 := fun (W : World) h => HRR.out W f (.slice Ad f.data.length cd) h
     rw [← hr] at HR1
     have HR1 := Lib.hid HR1
     have hnx := ocO_take s.w s.h Hf.out
     rw [← hq] at hnx
     have Hnx := Lib.hid hnx
     have Hle := Lib.hid (ocO_taken s.w s.h G i)
     clear hf hd hbd hC hq hr hrq hm hnx
     rcases ho : sfOpq f with _ | _
     ·rw [ho] at HI1
      have HI1 := Lib.hid HI1
      have Ho := Lib.hid ho
      clear ho
      go_wp2_with fail
      refine HI1.out.mono ?_
      rintro e w2 ⟨rfl, hb⟩
      have HT2 := Lib.hid (HT.out.call hb)
      have HO2 : Hid (w2.ownsRow (w.heap.size + 2) 113 4 u5 (ocO s.w s.h (G.take (i + 1))).length (rcsCells (ocO s.w s.h (G.take (i + 1))))) := Lib.hid (by rw [Hnx.out, Ho.out]; simpa using own_call2 HO.out hb)
      clear c0 c1 c2 c3 c4 c5 c6 c7 c8 c9 c10 d0 d1 d2 d3 hb HT HO
      go_wp2_with fail
      go_roundg (N - j - (i + 1))
      case measure => have := Hm.out; omega
      case rel => exact ⟨i + 1, _, _, rfl, by have := Hm.out; omega, rfl, rfl, by have := Hm.out; go_num, HT2, HO2⟩
     ·rw [ho] at HI1
      have HI1 := Lib.hid HI1
      have Ho := Lib.hid ho
      clear ho
      go_wp2_with fail
      refine HI1.out.mono ?_
      rintro e w2 ⟨rfl, hb⟩
      have hT2 := HT.out.call hb
      have hO2 := own_call2 HO.out hb
      clear c0 c1 c2 c3 c4 c5 c6 c7 c8 c9 c10 d0 d1 d2 d3 hb HT HO
      go_upto_region 8 with fail
      refine wp_region_held_drew (S := fun V => CwS w s (.slice (some ⟨gs, 0, none⟩) N c) V) (by kernel_rfl) (hT2.call (belI_drew _)) (fun hS => ?_)
      replace hO2 := own_call2 hO2 (belI_drew _)
      refine tkH (i := 0) (v := u5) rfl ?_
      refine tkH (i := 1) (v := .pointer (some ⟨w.heap.size, 3, none⟩)) rfl ?_
      refine tcH (i := 2) (v := .slice (some ⟨gs, 0, none⟩) N c) rfl (by intro w' hSw; (try dsimp only at hSw); (obtain ⟨a0, a1, a2, a3⟩ := hSw.a.cells4); go_simp) ?_
      refine tkH (i := 3) (v := .int .i64 (m : Int)) rfl ?_
      refine tkH (i := 4) (v := .pointer (some ⟨gs, m * 11, none⟩)) rfl ?_
      refine tcH (i := 5) (v := .agg #[.int .i64 f.id, .int .i64 f.x, .int .i64 f.y, .int .i64 f.w, .int .i64 f.h, .int .i64 f.alpha, .int .i64 f.orient, .bool f.vis, .int .i64 f.bw, .int .i64 f.bh, .slice Ad f.data.length cd]) rfl (by intro w' hSw; (try dsimp only at hSw); (obtain ⟨c0, c1, c2, c3, c4, c5, c6, c7, c8, c9, c10⟩ := (HC0.out _ hSw.bw).1); go_simp) ?_
      refine tkH (i := 7) (v := .pointer (some ⟨w.heap.size, 0, none⟩)) rfl ?_
      refine tcH (i := 8) (v := .int .i64 s.w) rfl (by intro w' hSw; (try dsimp only at hSw); (obtain ⟨a0, a1, a2, a3⟩ := hSw.a.cells4); go_simp) ?_
      refine tkH (i := 9) (v := .pointer (some ⟨w.heap.size, 1, none⟩)) rfl ?_
      refine tcH (i := 10) (v := .int .i64 s.h) rfl (by intro w' hSw; (try dsimp only at hSw); (obtain ⟨a0, a1, a2, a3⟩ := hSw.a.cells4); go_simp) ?_
      refine tkH (i := 11) (v := .agg #[.int .i64 0, .int .i64 0, .int .i64 s.w, .int .i64 s.h]) rfl ?_
      (try simp only [Act.put]); (try simp only [zPa]); (try simp only [zPb, zPc])
      refine wpAnyH_ready (rs := [6]) (by kernel_rfl) (by simp) ?_
      refine (AllReadyH.cons rfl (fun K hK => ?_) AllReadyH.nil)
      ·rw [if_pos (by kernel_rfl)]
       (try simp only [zGa]); (try simp only [zGb]); (try simp only [zGc])
       go_simp
       with_reducible refine (HR1.out _ (HC0.out _ hS.bw).2).mono ?_
       rintro e W' ⟨rfl, hb⟩
       dsimp only
       have hO2 := own_call2 hO2 hb
       refine hK.out _ _ (hS.call hb) (fun hS => ?_)
       clear hK
       (try simp only [Act.put]); (try simp only [zPa]); (try simp only [zPb, zPc])
       refine wpAnyH_ready (rs := [12]) (by kernel_rfl) (by simp) ?_
       refine (AllReadyH.cons rfl (fun K hK => ?_) AllReadyH.nil)
       ·rw [if_pos (by kernel_rfl)]
        (try simp only [zGa]); (try simp only [zGb]); (try simp only [zGc])
        go_simp
        with_reducible refine (HQ.out _).mono ?_
        rintro e W' ⟨rfl, hb⟩
        dsimp only
        have hO2 := own_call2 hO2 hb
        refine hK.out _ _ (hS.call hb) (fun hS => ?_)
        clear hK
        (try simp only [Act.put]); (try simp only [zPa]); (try simp only [zPb, zPc])
        refine wpAnyH_ready (rs := [13]) (by kernel_rfl) (by simp) ?_
        refine (AllReadyH.cons rfl (fun K hK => ?_) AllReadyH.nil)
        ·rw [if_pos (by kernel_rfl)]
         (try simp only [zGa]); (try simp only [zGb]); (try simp only [zGc])
         refine wp_build1o 49 (.tmp 48) q rfl (by first | with_reducible rfl | (go_simp; done) | rfl) rfl ?_
         intro g1 W' hb hN1
         have hO2 := own_call2 hO2 hb
         refine hK.out _ _ (hS.call hb) (fun hS => ?_)
         clear hK
         (try simp only [Act.put]); (try simp only [zPa]); (try simp only [zPb, zPc])
         refine wpAnyH_ready (rs := [14]) (by kernel_rfl) (by simp) ?_
         refine (AllReadyH.cons rfl (fun K hK => ?_) AllReadyH.nil)
         ·rw [if_pos (by kernel_rfl)]
          (try simp only [zGa]); (try simp only [zGb]); (try simp only [zGc])
          refine wp_append_row (.tmp 36) (.tmp 49) 28 rfl (w.heap.size + 2) _ 113 i0 (.agg #[.int .i64 0, .int .i64 0, .int .i64 0, .int .i64 0]) 4 32 Tryz.underlying28 hi hz0 hz1 hz2 rfl (by decide) u5 _ _ (by first | with_reducible rfl | (go_simp; done) | rfl) hO2 _ 1 _ (by first | with_reducible rfl | (go_simp; done) | rfl) hN1 (rcs_one _) (by have := Hle.out; unfold maxLen; omega) (by have := Hle.out; omega) (by have := hS.x.lt; omega) ?_
          intro v9 W' h9 hgr _
          have hO9 := h9
          skip
          refine hK.out _ _ (hS.grown hO2 hgr) (fun hS => ?_)
          clear hK
          (try simp only [Act.put]); (try simp only [zPa]); (try simp only [zPb, zPc])
          refine tkH (i := 15) (v := v9) rfl ?_
          refine wpAnyH_done (by kernel_rfl) ?_ _
          have HT9 := Lib.hid hS
          have HO9 : Hid (W'.ownsRow (w.heap.size + 2) 113 4 v9 (ocO s.w s.h (G.take (i + 1))).length (rcsCells (ocO s.w s.h (G.take (i + 1))))) := Lib.hid (by rw [Hnx.out, Ho.out, if_pos rfl, rcsCells_append, List.length_append]; exact hO9)
          clear hO9
          go_wp2_with fail
          go_roundg (N - j - (i + 1))
          case measure => have := Hm.out; omega
          case rel => exact ⟨i + 1, _, _, rfl, by have := Hm.out; omega, rfl, rfl, by have := Hm.out; go_num, HT9, HO9⟩
    ·have hmN : m = N := by have := Hm.out; omega
     have hni : ¬ (m : Int) < (N : Int) := by omega
     have hfull : G.take i = G := List.take_of_length_le (by have := Hm.out; rw [HGl.out]; omega)
     have hO := HO.out
     rw [hfull] at hO
     obtain ⟨Q, hQ⟩ : ∃ Q, Q = canon (gridOf (ocO s.w s.h G)) := ⟨_, rfl⟩
     have HF1 := HF.out V u5 (ocO s.w s.h G) (RdR.of_own hO)
     rw [← hQ] at HF1
     have HF1 := Lib.hid HF1
     have HQ := Lib.hid hQ
     clear hO hfull hQ hm
     go_wp2_with fail
     refine HF1.out.mono ?_
     rintro e w3 ⟨z, rfl, hown, hb⟩
     obtain ⟨Az, cz, rfl⟩ := own_shape hown
     have HT2 := Lib.hid (HT.out.call hb)
     have hl := HT.out.x.lt
     obtain ⟨r0, r1⟩ := HT2.out.res
     have Hown := Lib.hid hown
     clear hown hb d0 d1 d2 d3
     go_wp2_with fail
     refine bodyPost_ret (v := .agg #[.slice Az Q.length cz]) (by simp [results, Tryz.results56, go_sem, r0]) rfl ?_
     rw [HA.out, ← HQ.out]
     exact ⟨_, rfl, own_set Hown.out (by omega) (by omega) _, HT2.out.bw.setCell (by simp) _⟩
  ·have HA := Lib.hid (covM_no (s := s) (k := k) fun h => hk ⟨h.2.1, by rw [hNe]; exact h.2.2⟩)
   have q0 : IntKind.i64.wrap ((N : Int) - 1) = (N : Int) - 1 := wrap_in _ (by omega) (by omega)
   have Hk : Hid (k < -1 ∨ (N : Int) - 1 < k) := Lib.hid (by omega)
   clear hs hNe hk h hT0 hR hO
   go_enter Tryz.func56, Tryz.ntmps56
   go_wp2_with fail
   refine (HS.out _ (HR.out _ hT.bw)).mono ?_
   rintro e w1 ⟨rfl, hb⟩
   replace hT := hT.call hb
   clear d0 d1 d2 d3 hb
   obtain ⟨d0, d1, d2, d3⟩ := hT.a.cells4
   obtain ⟨r0, r1⟩ := hT.res
   go_wp2_with fail
   refine (inS_no _ _ _ _ Hk.out).mono ?_
   rintro e w2 ⟨rfl, rfl⟩
   go_wp2_with fail
   refine bodyPost_ret (v := .agg #[.slice none 0 0]) (by simp [results, Tryz.results56, go_sem, r0]) rfl ?_
   rw [HA.out]
   exact rg_zero hT.bw
 ·rw [snB_no hs] at HS
  have HS := Lib.hid HS
  have HA := Lib.hid (covM_no (s := s) (k := k) fun h => hs h.1)
  have HR := Lib.hid hR
  clear hs h hT0 hR hO
  go_enter Tryz.func56, Tryz.ntmps56
  go_wp2_with fail
  refine (HS.out _ (HR.out _ hT.bw)).mono ?_
  rintro e w1 ⟨rfl, hb⟩
  replace hT := hT.call hb
  clear d0 d1 d2 d3 hb
  obtain ⟨r0, r1⟩ := hT.res
  go_wp2_with fail
  refine bodyPost_ret (v := .agg #[.slice none 0 0]) (by simp [results, Tryz.results56, go_sem, r0]) rfl ?_
  rw [HA.out]
  exact rg_zero hT.bw
structure CtS (w : World) (s : Sn) (v : Value) (V : World) : Prop where
 a : BkAt V w.heap.size 34 #[.int .i64 s.w, .int .i64 s.h, .int .i64 s.back, v]
 bw : Below w.heap.size w V
theorem CtS.call {w : World} {s : Sn} {v : Value} {V V' : World} (h : CtS w s v V) (hb : Below V.heap.size V V') : CtS w s v V' := ⟨h.a.call hb, belI_call h.bw hb⟩
theorem CtS.grown {w : World} {s : Sn} {v : Value} {g : Nat} {V V' : World} (h : CtS w s v V) (hlo : w.heap.size < g) (hg : V.grownBy V' (some g)) : CtS w s v V' :=
 ⟨h.a.grown hg fun e => by have := Option.some.inj e; omega, below_grownG h.bw hg (by omega)⟩
end Go.Proofs.YtdgagooldlnpeaaGreat
namespace Go.Proofs.YtdgagooldlnpeaaGreat
open Go.RowKit
theorem CwS.ct {w : World} {s : Sn} {v : Value} {V : World} (h : CwS w s v V) : CtS w s v V := ⟨h.a, h.bw⟩
end Go.Proofs.YtdgagooldlnpeaaGreat
