/- The contract of PaintVisible of the model. No statement is proved here. -/
import Derived.Test.YtdgagooldlnpeaaGreatMA
import Derived.Test.YtdgagooldlnpeaaGreatMAv23
import Derived.Test.YtdgagooldlnpeaaGreatMB
import Derived.Test.YtdgagooldlnpeaaGreatMAv023
import Derived.Test.YtdgagooldlnpeaaGreatMAv013
import Derived.Test.YtdgagooldlnpeaaGreatMAv03
import Derived.Test.YtdgagooldlnpeaaGreatMC
import Derived.Test.YtdgagooldlnpeaaGreatB1sav23
import Derived.Test.YtdgagooldlnpeaaGreatB0na
import Derived.Test.YtdgagooldlnpeaaGreatSnS
import Derived.Test.YtdgagooldlnpeaaGreatCombIv013
import Derived.Test.YtdgagooldlnpeaaGreatB1nav013
import Derived.Test.YtdgagooldlnpeaaGreatB1sav013
import Derived.Test.YtdgagooldlnpeaaGreatSfR
import Derived.Test.YtdgagooldlnpeaaGreatSfP
import Derived.Test.YtdgagooldlnpeaaGreatB2sa
import Derived.Test.YtdgagooldlnpeaaGreatB2sav013
import Derived.Test.YtdgagooldlnpeaaGreatB2sav03
import Derived.Test.YtdgagooldlnpeaaGreatB2sav13
import Derived.Test.YtdgagooldlnpeaaGreatB2sav3
import Derived.Test.YtdgagooldlnpeaaGreatB1nav3
import Derived.Test.YtdgagooldlnpeaaGreatSeIv013
import Derived.Test.YtdgagooldlnpeaaGreatB3sav3
import Derived.Test.YtdgagooldlnpeaaGreatPnI
import Derived.Test.YtdgagooldlnpeaaGreatB3sa
import Derived.Test.YtdgagooldlnpeaaGreatPvIv03
import Derived.Test.YtdgagooldlnpeaaGreatProg
import Derived.WalkKit
import Derived.ProofKit
import Derived.OpenShut
import Derived.WalkLawsBesides
import Derived.WalkSpells
import Derived.ShutString
import Derived.ChangeOld
import Derived.Below
import Derived.Lib.Hide
import Derived.BigQuiet
import Derived.Deep.QuietTactic
import Derived.Maps.AppendAt
import Derived.Deep.OwnRows
import Derived.Handy
import Derived.Deep.Draws
import Derived.OwnWalk
import Derived.Deep.AppendLies
import Derived.Deep.LoopGhost
import Derived.Deep.Onto
import Derived.Deep.MidRow
import Derived.Deep.WholeRow
import Derived.Laws.BitsAllLaws
import Derived.Lib.QuoteBits
import Derived.Deep.RegionHeld3
import Derived.Deep.DeepCutAuto
import Derived.Test.YtdgagooldlnpeaaGreatShelf
import Derived.Laws.CopyOwn
import Derived.Deep.RegionLaw
import Derived.Great.BuildSlice
import Derived.Shelf.RegionOpenPlain
import Derived.Lib.SliceRun
import Derived.Deep.RegionWith
import Derived.Laws.AppendOwn
import Derived.ChangeKeysEq
import Derived.Deep.DeepAppendRoom
namespace Go.Proofs.YtdgagooldlnpeaaGreat
open Go.RowKit
set_option maxHeartbeats 8000000 in
set_option maxRecDepth 100000 in
theorem pvS_ok (W H : Nat) (sb : Int) (fs : List Sf) (v : Value) (bs : List Nat) (w : World) (hs : snOk ⟨W, H, sb, fs⟩) (h : repSfs.R w fs [v] bs) :
  Calls Tryz.prog 59 #[.agg #[.int .i64 W, .int .i64 H, .int .i64 sb, v]] w (PvAns (pvIm ⟨W, H, sb, fs⟩) (pvN ⟨W, H, sb, fs⟩) w) := by
 obtain ⟨D0, hD0⟩ : ∃ D, D = flatN W H sb := ⟨_, rfl⟩
 have HA : Hid (pvIm ⟨W, H, sb, fs⟩ = ⟨W, H, ocK W H fs D0 fs.length⟩) := Lib.hid (by rw [pvIm_yes hs, hD0]; rfl)
 have HC := fun V => newS W H sb V
 unfold AnsIm at HC
 rw [new_yes hs.1 hs.2.1.1, ← hD0] at HC
 dsimp only at HC
 have HC := Lib.hid HC
 obtain ⟨m, hm⟩ : ∃ m, m = D0.length := ⟨_, rfl⟩
 have hmW : m = W * H := by rw [hm, hD0]; unfold flatN; rw [tabI_length, ← Int.natCast_mul, Int.toNat_natCast]
 obtain ⟨wl, wh, hl, hh⟩ : 1 ≤ W ∧ W ≤ 16 ∧ 1 ≤ H ∧ H ≤ 16 := by have := hs.1; unfold szOk at this; dsimp only at this; omega
 have hm1 : 1 ≤ m := by rw [hmW]; exact Nat.mul_pos wl hl
 have hm2 : m ≤ 256 := by rw [hmW]; exact mul_256 wh hh
 have HSO := fun V h => snS ⟨W, H, sb, fs⟩ v bs V h
 unfold SnOkAns at HSO
 rw [snB_yes hs] at HSO
 dsimp only at HSO
 have Hs := Lib.hid hs
 have hold : ∀ b ∈ bs, b < w.heap.size := fun b hb => repSfs.ex h b hb
 obtain ⟨⟨A, c, rfl⟩, hml⟩ := repSfs_form h
 obtain ⟨N, hN⟩ : ∃ N, N = fs.length := ⟨_, rfl⟩
 have hZ := PnZ.born (s := ⟨W, H, sb, fs⟩) h
 dsimp only at hZ
 have hN6 : N ≤ 6 := by rw [hN]; exact hs.2.2.1
 have hcv := covM_yes (s := ⟨W, H, sb, fs⟩) (k := -1) ⟨hs, by omega, by omega⟩
 rw [show ((-1 : Int) + 1).toNat = 0 by omega, List.drop_zero] at hcv
 obtain ⟨Q, hQ⟩ : ∃ Q, Q = ocC W H fs := ⟨_, rfl⟩
 dsimp only at hcv
 rw [← hQ] at hcv
 have HCV := fun (W' : World) h => covS ⟨W, H, sb, fs⟩ (-1) (.slice A fs.length c) bs W' h
 unfold RgQ at HCV
 rw [hcv] at HCV
 dsimp only at HCV
 obtain ⟨Y, hY⟩ : ∃ Y, Y = canon (gridOf [⟨0, 0, (W : Int), (H : Int)⟩]) := ⟨_, rfl⟩
 have HSC := fun (W' : World) => scrS ⟨W, H, sb, fs⟩ (.slice A fs.length c) W'
 unfold RofAns at HSC
 dsimp only at HSC
 rw [← hY] at HSC
 obtain ⟨J, hJ⟩ : ∃ J, J = joinL (fun p q => p && !q) Y Q := ⟨_, rfl⟩
 have HJN := fun (V' : World) (va vb : Value) (ha : RdR V' va Y) (hb : RdR V' vb Q) => (jnS2 va vb Y Q V' ha hb)
 unfold JoinAns at HJN
 rw [← hJ] at HJN
 obtain ⟨n0, hn0⟩ : ∃ a, a = areaR J := ⟨_, rfl⟩
 have hn02 := area_bd J
 have HAR := fun (u : Value) (W' : World) h => areaS u J W' h
 rw [← hn0] at HAR hn02
 have HX : Hid (pvN ⟨W, H, sb, fs⟩ = n0 + ocA W H fs fs.length) := Lib.hid (by
  rw [pvN_yes hs, hn0, hJ, hY, hQ]
  dsimp only
  rw [scr_less ⟨wl, wh⟩ ⟨hl, hh⟩ fs, Int.toNat_natCast, Int.toNat_natCast])
 have HVS := fun (W' : World) (k : Int) h => visS ⟨W, H, sb, fs⟩ k (.slice A fs.length c) bs W' h
 unfold RgQ at HVS
 dsimp only at HVS
 rw [← hN] at hml HSO hZ HCV HSC HVS HA HX ⊢
 have HSO := Lib.hid HSO
 have HCV := Lib.hid HCV
 have HSC := Lib.hid HSC
 have HJN := Lib.hid HJN
 have HAR := Lib.hid HAR
 have HVS := Lib.hid HVS
 have HN := Lib.hid hN
 have Hm := Lib.hid hm
 have HmW := Lib.hid hmW
 have Hold := Lib.hid hold
 have HOA := Lib.hid (fun k => ocA_bd W H fs k)
 obtain ⟨d0, d1, d2, d3⟩ := hZ.a.cells
 dsimp only at d0 d1 d2 d3
 clear hs hD0 hm hmW hN h hold hml hQ hcv hY hJ hn0
 go_enter Tryz.func59, Tryz.ntmps59
 go_wp2_with fail
 refine (HSO.out _ hZ.a.r).mono ?_
 rintro e w0 ⟨rfl, hb⟩
 replace hZ := hZ.call hb
 clear d0 d1 d2 d3 hb
 obtain ⟨d0, d1, d2, d3⟩ := hZ.a.cells
 dsimp only at d0 d1 d2 d3
 go_wp2_with fail
 refine (HC.out _).mono ?_
 rintro e w1 ⟨u, rfl, hown, hb⟩
 rw [← Hm.out] at hown
 obtain ⟨gq, cq, hu, hg1, hg2⟩ := hown.form (by omega)
 subst hu
 have hz0 := hZ.r.lt
 have hz := hb.size
 obtain ⟨bo, hbo⟩ : ∃ b, b = w1.heap.size := ⟨_, rfl⟩
 have hbx := belI_box w1 (.cells #[.int .i64 W, .int .i64 H, .slice (some ⟨gq, 0, none⟩) m cq] 55)
 obtain ⟨V0, hV0⟩ : ∃ V, V = w1.alloc (.cells #[.int .i64 W, .int .i64 H, .slice (some ⟨gq, 0, none⟩) m cq] 55) := ⟨_, rfl⟩
 have hA0 : PnA w W H sb fs (.slice A N c) bs bo (.slice (some ⟨gq, 0, none⟩) m cq) V0 := by
  rw [hV0]; exact ⟨(hZ.a.call hb).call hbx, (hZ.r.call hb).call hbx, ImAt.newAt hbo.symm _ _ _ _, belI_call (belI_call hZ.bw hb) hbx⟩
 have hO0 : V0.ownsRow (w.heap.size + 2) 3 1 (.slice (some ⟨gq, 0, none⟩) m cq) m (intCells D0) := by
  rw [hV0]; exact (hown.mono (by omega)).alloc _
 have Hsep : Hid ((∀ b ∈ bs, b < w.heap.size) ∧ w.heap.size + 1 < gq ∧ bo ≠ gq ∧ gq < V0.heap.size) := Lib.hid ⟨Hold.out, by omega, by omega, by rw [hV0]; simp; omega⟩
 have HV0 := Lib.hid hV0
 have Hbo := Lib.hid hbo
 clear d0 d1 d2 d3 hZ hb hown hbx hV0 hbo hg1 hg2 hz hz0
 go_upto_region 4 with fail
 rw [← HV0.out, ← Hbo.out]
 go_cut [5] (fun s5 wx => ∃ V, V = wx ∧ s5 = .int .i64 n0 ∧ PnA w W H sb fs (.slice A N c) bs bo (.slice (some ⟨gq, 0, none⟩) m cq) V ∧ V.ownsRow (w.heap.size + 2) 3 1 (.slice (some ⟨gq, 0, none⟩) m cq) m (intCells D0) ∧ V0.heap.size ≤ V.heap.size)
 case first =>
  refine wp_region_held_drew (S := fun V => PnA w W H sb fs (.slice A N c) bs bo (.slice (some ⟨gq, 0, none⟩) m cq) V ∧ V0.heap.size ≤ V.heap.size) (by kernel_rfl) ⟨hA0.call (belI_drew _), Nat.le_refl _⟩ (fun hS => ?_)
  replace hO0 := ownI_call hO0 (belI_drew _)
  refine tcH (i := 0) (v := .agg #[.int .i64 W, .int .i64 H, .int .i64 sb, .slice A N c]) rfl (by intro w' hSw; (try dsimp only at hSw); (obtain ⟨d0, d1, d2, d3⟩ := hSw.1.cells); ((try dsimp only at d0 d1 d2 d3)); go_simp) ?_
  refine tcH (i := 2) (v := .agg #[.int .i64 W, .int .i64 H, .int .i64 sb, .slice A N c]) rfl (by intro w' hSw; (try dsimp only at hSw); (obtain ⟨d0, d1, d2, d3⟩ := hSw.1.cells); ((try dsimp only at d0 d1 d2 d3)); go_simp) ?_
  (try simp only [Act.put]); (try simp only [zPa]); (try simp only [zPb, zPc])
  refine wpAnyH_ready (rs := [1]) (by kernel_rfl) (by simp) ?_
  refine (AllReadyH.cons rfl (fun K hK => ?_) AllReadyH.nil)
  ·rw [if_pos (by kernel_rfl)]
   (try simp only [zGa]); (try simp only [zGb]); (try simp only [zGc])
   go_simp
   with_reducible refine (HSC.out _).mono ?_
   rintro e W' ⟨y, rfl, hy, hb⟩
   dsimp only
   obtain ⟨Ay, cy, rfl⟩ := own_shape hy
   have hO0 := ownI_call hO0 hb
   refine hK.out _ _ (⟨hS.1.call hb, Nat.le_trans hS.2 hb.size⟩) (fun hS => ?_)
   clear hK
   (try simp only [Act.put]); (try simp only [zPa]); (try simp only [zPb, zPc])
   refine wpAnyH_ready (rs := [3]) (by kernel_rfl) (by simp) ?_
   refine (AllReadyH.cons rfl (fun K hK => ?_) AllReadyH.nil)
   ·rw [if_pos (by kernel_rfl)]
    (try simp only [zGa]); (try simp only [zGb]); (try simp only [zGc])
    go_simp
    with_reducible refine (HCV.out _ hS.1.a.r).mono ?_
    rintro e W' ⟨z, rfl, hz, hb⟩
    dsimp only
    obtain ⟨Az, cz, rfl⟩ := own_shape hz
    have hO0 := ownI_call hO0 hb
    have hy := own_call2 hy hb
    refine hK.out _ _ (⟨hS.1.call hb, Nat.le_trans hS.2 hb.size⟩) (fun hS => ?_)
    clear hK
    (try simp only [Act.put]); (try simp only [zPa]); (try simp only [zPb, zPc])
    refine wpAnyH_ready (rs := [4]) (by kernel_rfl) (by simp) ?_
    refine (AllReadyH.cons rfl (fun K hK => ?_) AllReadyH.nil)
    ·rw [if_pos (by kernel_rfl)]
     (try simp only [zGa]); (try simp only [zGb]); (try simp only [zGc])
     go_simp
     with_reducible refine (HJN.out _ _ _ (RdR.of_own hy) (RdR.of_own hz)).mono ?_
     rintro e W' ⟨p, rfl, hp, hb⟩
     dsimp only
     obtain ⟨Ap, cp, rfl⟩ := own_shape hp
     have hO0 := ownI_call hO0 hb
     have hy := own_call2 hy hb
     have hz := own_call2 hz hb
     refine hK.out _ _ (⟨hS.1.call hb, Nat.le_trans hS.2 hb.size⟩) (fun hS => ?_)
     clear hK
     (try simp only [Act.put]); (try simp only [zPa]); (try simp only [zPb, zPc])
     refine wpAnyH_ready (rs := [5]) (by kernel_rfl) (by simp) ?_
     refine (AllReadyH.cons rfl (fun K hK => ?_) AllReadyH.nil)
     ·rw [if_pos (by kernel_rfl)]
      (try simp only [zGa]); (try simp only [zGb]); (try simp only [zGc])
      go_simp
      with_reducible refine (HAR.out _ _ (RdR.of_own hp)).mono ?_
      rintro e W' ⟨rfl, hb⟩
      dsimp only
      have hO0 := ownI_call hO0 hb
      have hy := own_call2 hy hb
      have hz := own_call2 hz hb
      have hp := own_call2 hp hb
      refine hK.out _ _ (⟨hS.1.call hb, Nat.le_trans hS.2 hb.size⟩) (fun hS => ?_)
      clear hK
      (try simp only [Act.put]); (try simp only [zPa]); (try simp only [zPb, zPc])
      refine tkH (i := 6) (v := .int .i64 n0) rfl ?_
      refine wpAnyH_done (by kernel_rfl) ?_ _
      go_wp2_with fail
      go_meet
      case rel => exact ⟨_, rfl, rfl, hS.1, hO0, hS.2⟩
 case rest =>
  obtain ⟨V8, hV8, rfl, hA8, hO8, hsz8⟩ := hcut
  subst hV8
  have HP0 := Lib.hid hA8
  have HO0 : Hid (V8.ownsRow (w.heap.size + 2) 3 1 (.slice (some ⟨gq, 0, none⟩) m cq) m (intCells (ocK W H fs D0 0))) := Lib.hid hO8
  have HS0 := Lib.hid hsz8
  clear hA0 hO0 hA8 hO8 hsz8
  go_wp2_with fail
  go_loopg [5, 6] N (fun gk s5 s6 wr => ∃ (k : Nat) (x : Int) (V : World), V = wr ∧ k ≤ N ∧ gk = N - k ∧ s5 = .int .i64 x ∧ Hid (x = n0 + ocA W H fs k) ∧ s6 = .int .i64 k ∧ Hid (PnA w W H sb fs (.slice A N c) bs bo (.slice (some ⟨gq, 0, none⟩) m cq) V) ∧ Hid (V.ownsRow (w.heap.size + 2) 3 1 (.slice (some ⟨gq, 0, none⟩) m cq) m (intCells (ocK W H fs D0 k))) ∧ Hid (V0.heap.size ≤ V.heap.size))
  case atStart => exact ⟨0, _, _, rfl, Nat.zero_le _, by omega, rfl, Lib.hid (by show n0 = n0 + 0; omega), rfl, HP0, HO0, HS0⟩
  case round =>
   clear HP0 HO0 HS0
   obtain ⟨k, x, V, hV, hk, rfl, rfl, Hx, rfl, HP, HO, Hsz⟩ := hrel
   subst hV
   obtain ⟨d0, d1, d2, d3⟩ := HP.out.cells
   by_cases hlt : k < N
   ·obtain ⟨g, f, d, bd, hA1, hf, hC, hd, hbd⟩ := pl_d HP.out.a.r (k := k) (by dsimp only; rw [← HN.out]; exact hlt)
    dsimp only at hf
    subst hA1
    obtain ⟨⟨Ad, cd, rfl⟩, _⟩ := ints_form hd
    have HCe : Hid (∀ V', Below V.heap.size V V' → C11 V' g (k * 11) f (.slice Ad f.data.length cd) ∧ RdI V' (.slice Ad f.data.length cd) f.data) := Lib.hid fun V' hb => ⟨hC.call hb, repInts_rd (Rep.call hd hb)⟩
    have hsf := (Hs.out.2.2.2 k f hf).1
    have hvm := visM_yes (s := ⟨W, H, sb, fs⟩) Hs.out hf
    obtain ⟨L, hL⟩ : ∃ L, L = ocV W H f (fs.drop (k + 1)) := ⟨_, rfl⟩
    dsimp only at hvm
    rw [← hL] at hvm
    have HV := HVS.out V k HP.out.a.r
    rw [hvm] at HV
    have HV := Lib.hid HV
    have hPo := parts_vis ⟨wl, wh⟩ ⟨hl, hh⟩ f (fs.drop (k + 1))
    have hin : ∀ p q : Nat, p < 16 → q < 16 → gridOf L (q * 16 + p) = true → hasB (sfRect f) p q = true := fun p q hp hq hg => by
     rw [hL] at hg
     exact ((ocV_in ⟨wl, wh⟩ ⟨hl, hh⟩ f (fs.drop (k + 1)) p q hp hq).1 hg).1.1
    have Hin := Lib.hid hin
    have hAn := ocA_next (W := W) (H := H) hf
    have Hon : Hid (ocK W H fs D0 (k + 1) = oc1 W (ocK W H fs D0 k) f L) := Lib.hid (by rw [hL]; exact ocK_next hf)
    rw [← hL] at hAn
    obtain ⟨ak, hak⟩ : ∃ a, a = areaR L := ⟨_, rfl⟩
    have hab := area_bd L
    have HAL := fun (u : Value) (W' : World) h => areaS u L W' h
    rw [← hak] at hab HAL hAn
    have HAL := Lib.hid HAL
    have hoa := HOA.out k
    obtain ⟨x, hx0⟩ : ∃ y, y = x := ⟨_, rfl⟩
    subst hx0
    have hxx := Hx.out
    have q2 : IntKind.i64.wrap (x + ak) = x + ak := wrap_in _ (by omega) (by omega)
    have Hx2 : Hid (x + ak = n0 + ocA W H fs (k + 1)) := Lib.hid (by rw [hAn]; omega)
    have HG := Lib.hid (fun (u : Value) (W' : World) h => gridS u L W' h)
    unfold GridAns at HG
    obtain ⟨r, hr⟩ : ∃ r, r = sfRect f := ⟨_, rfl⟩
    obtain ⟨P, hP⟩ : ∃ P, P = sfPic f := ⟨_, rfl⟩
    have hPk := (sfPic_ok hsf).2.2
    have HR := fun W0 (h : RdI W0 (.slice Ad f.data.length cd) f.data) => srS f _ W0 h
    unfold SrAns RcAns at HR
    have HQ := fun W0 (h : RdI W0 (.slice Ad f.data.length cd) f.data) => picS f _ W0 h
    unfold PicAns AnsIm at HQ
    rw [← hr] at HR
    rw [← hP] at HQ hPk
    obtain ⟨pn, hpn⟩ : ∃ q, q = P.d.length := ⟨_, rfl⟩
    have hpn1 : 1 ≤ pn := by have := sz_pos hPk.1; have := hPk.2.1; omega
    unfold ImAns at HQ
    rw [← hpn] at HQ
    have HR := Lib.hid HR
    have HQ := Lib.hid HQ
    have Hr := Lib.hid hr
    have HPf := Lib.hid hP
    have Hpn := Lib.hid hpn
    have HPk := Lib.hid hPk
    have k0 : (0 : Int) ≤ (k : Int) := by omega
    have k1 : (k : Int) < (N : Int) := by omega
    clear hf hsf hr hP hPk hpn hd hC hbd hvm hL hPo hin hAn hak hab hoa hxx Hx
    go_wp2_with fail
    refine HV.out.mono ?_
    rintro e w2 ⟨z, rfl, hz, hb⟩
    obtain ⟨Az, cz, rfl⟩ := own_shape hz
    have HP1 := Lib.hid (HP.out.call hb)
    have HO1 := Lib.hid (ownI_call HO.out hb)
    have hbV := hb
    have hsz1 := Nat.le_trans Hsz.out hb.size
    have Hz := Lib.hid (RdR.of_own hz)
    clear d0 d1 d2 d3 HP HO hb hz HV
    obtain ⟨V1, hV1⟩ : ∃ V, V = w2.alloc (.cells #[.slice Az L.length cz] 30) := ⟨_, rfl⟩
    have hbx : Below w2.heap.size w2 V1 := by rw [hV1]; exact belI_box _ _
    obtain ⟨bv, hbv⟩ : ∃ b, b = w2.heap.size := ⟨_, rfl⟩
    have hv0 : V1.cell? ⟨bv, 0, none⟩ = some (.slice Az L.length cz) := by rw [hV1, hbv]; exact new_cell _ _ _
    have HP2 := Lib.hid (HP1.out.call hbx)
    have HO2 := Lib.hid (ownI_call HO1.out hbx)
    have Hz2 := Lib.hid (Hz.out.call hbx)
    have hbV := belI_call hbV hbx
    have hbv2 : bv < V1.heap.size := World.block_lt_of_cell? _ _ hv0
    have HV1 := Lib.hid hV1
    have Hbv := Lib.hid hbv
    clear HP1 HO1 Hz hbx hV1 hbv
    go_wp2_with fail
    rw [← HV1.out, ← Hbv.out]
    refine (HAL.out _ _ Hz2.out).mono ?_
    rintro e w3 ⟨rfl, hb⟩
    have HP3 := Lib.hid (HP2.out.call hb)
    have HO3 := Lib.hid (ownI_call HO2.out hb)
    have Hz3 := Lib.hid (Hz2.out.call hb)
    have hbV := belI_call hbV hb
    have hv1 : w3.cell? ⟨bv, 0, none⟩ = some (.slice Az L.length cz) := (World.cell?_of_block (hb.block _ hbv2)).trans hv0
    have hs3 := Nat.le_trans Hsz.out hbV.size
    clear HP2 HO2 Hz2 hb hv0
    go_wp2_with fail
    refine (HG.out _ _ Hz3.out).mono ?_
    rintro e w4 ⟨bg, rfl, hbg, hGr, hb⟩
    have HP4 := Lib.hid (HP3.out.call hb)
    have HO4 := Lib.hid (ownI_call HO3.out hb)
    have hbV := belI_call hbV hb
    have hsz4 : V0.heap.size ≤ bg ∧ bg < w4.heap.size := ⟨Nat.le_trans hs3 hbg, hGr.lt⟩
    have HGr := Lib.hid hGr
    clear HP3 HO3 Hz3 hb hv1 hbg hGr
    obtain ⟨c0, c1, c2, c3, c4, c5, c6, c7, c8, c9, c10⟩ := (HCe.out _ hbV).1
    obtain ⟨d0, d1, d2, d3⟩ := HP4.out.cells
    go_wp2_with fail
    refine (HR.out _ (HCe.out _ hbV).2).mono ?_
    rintro e w5 ⟨rfl, hb⟩
    have hbx := belI_box w5 (.cells #[.int .i64 r.x, .int .i64 r.y, .int .i64 r.w, .int .i64 r.h] 113)
    obtain ⟨br, hbr⟩ : ∃ b, b = w5.heap.size := ⟨_, rfl⟩
    have hRr := RcAt.newAt (w := w5) hbr.symm r
    obtain ⟨V2, hV2⟩ : ∃ V, V = w5.alloc (.cells #[.int .i64 r.x, .int .i64 r.y, .int .i64 r.w, .int .i64 r.h] 113) := ⟨_, rfl⟩
    rw [← hV2] at hbx hRr
    have hsz5 := hb.size
    have HP5 := Lib.hid ((HP4.out.call hb).call hbx)
    have HO5 := Lib.hid (ownI_call (ownI_call HO4.out hb) hbx)
    have HGr5 := Lib.hid ((HGr.out.below hb HGr.out.lt).below hbx (by have := HGr.out.lt; omega))
    have hbV := belI_call (belI_call hbV hb) hbx
    have HRr := Lib.hid hRr
    clear c0 c1 c2 c3 c4 c5 c6 c7 c8 c9 c10 d0 d1 d2 d3 HP4 HO4 HGr hb hbx hRr
    obtain ⟨c0, c1, c2, c3, c4, c5, c6, c7, c8, c9, c10⟩ := (HCe.out _ hbV).1
    obtain ⟨d0, d1, d2, d3⟩ := HP5.out.cells
    rw [hV2] at c0 c1 c2 c3 c4 c5 c6 c7 c8 c9 c10 d0 d1 d2 d3
    have HV2 := Lib.hid hV2
    have Hbr := Lib.hid hbr
    have Hbr2 := Lib.hid (show V0.heap.size ≤ br ∧ br < V2.heap.size from ⟨by omega, by rw [hV2]; simp; omega⟩)
    clear hV2 hbr
    go_wp2_with fail
    rw [← HV2.out, ← Hbr.out]
    clear c0 c1 c2 c3 c4 c5 c6 c7 c8 c9 c10 d0 d1 d2 d3
    refine (HQ.out V2 (HCe.out _ hbV).2).mono ?_
    rintro e w6 ⟨u, rfl, howP, hb⟩
    obtain ⟨gp, cp, hu, hp1, hp2⟩ := howP.form (by omega)
    subst hu
    have hRP : RdI w6 (.slice (some ⟨gp, 0, none⟩) pn cp) P.d := by have := RdI.of_own howP; rwa [Hpn.out] at this ⊢
    have hbx := belI_box w6 (.cells #[.int .i64 P.w, .int .i64 P.h, .slice (some ⟨gp, 0, none⟩) pn cp] 55)
    obtain ⟨bp, hbp⟩ : ∃ b, b = w6.heap.size := ⟨_, rfl⟩
    have hI := ImAt.newAt (w := w6) hbp.symm 55 P.w P.h (.slice (some ⟨gp, 0, none⟩) pn cp)
    obtain ⟨V3, hV3⟩ : ∃ V, V = w6.alloc (.cells #[.int .i64 P.w, .int .i64 P.h, .slice (some ⟨gp, 0, none⟩) pn cp] 55) := ⟨_, rfl⟩
    rw [← hV3] at hbx hI
    have hsz6 := hb.size
    have hgl := HGr5.out.lt
    have Hcc : Hid (PvC w W H sb fs (.slice (some ⟨g, 0, none⟩) N c) bs bo (.slice (some ⟨gq, 0, none⟩) m cq) br r bp P (.slice (some ⟨gp, 0, none⟩) pn cp) bg L V3) := Lib.hid ⟨(HP5.out.call hb).call hbx, (HRr.out.below hb HRr.out.lt).below hbx (by have := HRr.out.lt; omega), hI, hRP.call hbx, (HGr5.out.below hb HGr5.out.lt).below hbx (by omega)⟩
    have Hoo : Hid (PvO w bs bo gq br bp gp bg) := Lib.hid ⟨⟨Hsep.out.1, Hsep.out.2.1, Hsep.out.2.2.1⟩, by have := Hsep.out; have := Hbr2.out; omega, by have := Hsep.out; have := Hbr2.out; omega, by have := Hsep.out; omega, by have := Hsep.out; have := Hbr2.out; omega⟩
    obtain ⟨D, hD⟩ : ∃ D : Nat → Int, D = fun j => (ocK W H fs D0 k).getD j 0 := ⟨_, rfl⟩
    have hDl : (ocK W H fs D0 k).length = m := by rw [ocK_len, ← Hm.out]
    have HDl : Hid (ocK W H fs D0 (k + 1) = tabI m (ocF W f L D)) := Lib.hid (by rw [Hon.out]; unfold oc1; rw [hDl, hD])
    have HOO : Hid (V3.ownsRow (w.heap.size + 2) 3 1 (.slice (some ⟨gq, 0, none⟩) m cq) m (intCells (tabI m (pref (0) (ocF W f L D) D)))) := Lib.hid (by
     rw [tabI_congr m (fun j _ => pref_zero _ D j), hD, ← hDl, ← tabI_self, hDl]
     exact ownI_call (ownI_call HO5.out hb) hbx)
    have Hsz3 : Hid (V0.heap.size ≤ V3.heap.size) := Lib.hid (by have := Hbr2.out; have := hbx.size; omega)
    have HV3 := Lib.hid hV3
    have Hbp := Lib.hid hbp
    clear HP5 HO5 HRr HGr5 hb hbx hI hV3 hbp hD hDl hRP howP hp1 hp2 hbV hs3 hsz4 hsz5 hsz6 hgl hsz1 Hsz hbv2
    go_wp2_with fail
    rw [← HV3.out, ← Hbp.out]
    go_loopg [11] H (fun g8 s8 wr => ∃ (y : Nat) (V : World), V = wr ∧ y ≤ H ∧ g8 = H - y ∧ s8 = .int .i64 y ∧ Hid (PvC w W H sb fs (.slice (some ⟨g, 0, none⟩) N c) bs bo (.slice (some ⟨gq, 0, none⟩) m cq) br r bp P (.slice (some ⟨gp, 0, none⟩) pn cp) bg L V) ∧ Hid (V.ownsRow (w.heap.size + 2) 3 1 (.slice (some ⟨gq, 0, none⟩) m cq) m (intCells (tabI m (pref (y * W) (ocF W f L D) D)))) ∧ Hid (V0.heap.size ≤ V.heap.size))
    case atStart => exact ⟨0, _, rfl, Nat.zero_le _, by omega, rfl, Hcc, by rw [Nat.zero_mul]; exact HOO, Hsz3⟩
    case round =>
     clear Hcc HOO Hsz3
     obtain ⟨y, V, hV, hy1, rfl, rfl, Hcc, HOO, Hsz4⟩ := hrel
     subst hV
     obtain ⟨d0, d1, d2, d3⟩ := Hcc.out.p.cells
     by_cases hyl : y < H
     ·have hyi : (y : Int) < (H : Int) := by omega
      go_wp2_with fail
      clear d0 d1 d2 d3
      go_loopg [12] W (fun g9 s9 wz => ∃ (x : Nat) (V : World), V = wz ∧ x ≤ W ∧ g9 = W - x ∧ s9 = .int .i64 x ∧ Hid (PvC w W H sb fs (.slice (some ⟨g, 0, none⟩) N c) bs bo (.slice (some ⟨gq, 0, none⟩) m cq) br r bp P (.slice (some ⟨gp, 0, none⟩) pn cp) bg L V) ∧ Hid (V.ownsRow (w.heap.size + 2) 3 1 (.slice (some ⟨gq, 0, none⟩) m cq) m (intCells (tabI m (pref (y * W + x) (ocF W f L D) D)))) ∧ Hid (V0.heap.size ≤ V.heap.size))
      case atStart => exact ⟨0, _, rfl, Nat.zero_le _, by omega, rfl, Hcc, by rw [Nat.add_zero]; exact HOO, Hsz4⟩
      case round =>
       clear Hcc HOO Hsz4
       obtain ⟨x, V, hV, hx1, rfl, rfl, Hcc, HOO, Hsz4⟩ := hrel
       subst hV
       obtain ⟨d0, d1, d2, d3⟩ := Hcc.out.p.cells
       by_cases hxl : x < W
       ·have hxi : (x : Int) < (W : Int) := by omega
        obtain ⟨pl, hpl⟩ : ∃ q, q = y * 16 + x := ⟨_, rfl⟩
        have hpl2 : pl < 256 := by omega
        have hgc := Hcc.out.g.cell pl hpl2
        have g1 : IntKind.i64.wrap ((y : Int) * 16) = (y : Int) * 16 := wrap_in _ (by omega) (by omega)
        have g2 : IntKind.i64.wrap ((y : Int) * 16 + (x : Int)) = (pl : Int) := by rw [wrap_in _ (by omega) (by omega)]; omega
        have g3 : (0 : Int) ≤ (pl : Int) := by omega
        have g4 : (pl : Int) < 256 := by omega
        obtain ⟨mm, hmm⟩ : ∃ q, q = y * W := ⟨_, rfl⟩
        have l1 : mm + x < m := by rw [hmm, HmW.out]; exact plc_lt hxl hyl
        have hFn : ocF W f L D (y * W + x) = if gridOf L pl = true then over (pnPx W f.x f.y (sfPic f) (y * W + x)) (D (y * W + x)) else D (y * W + x) := by
         unfold ocF
         rw [plc_div y hxl, plc_mod y hxl, ← hpl]
        rcases hgv : gridOf L pl with _ | _
        ·rw [hgv] at hgc hFn
         have Hsk : Hid (∀ j, pref (y * W + x) (ocF W f L D) D j = pref (y * W + (x + 1)) (ocF W f L D) D j) := Lib.hid fun j => by rw [← Nat.add_assoc]; exact pref_skip _ j _ _ (by rw [hFn]; rfl)
         clear hpl hmm hFn hgv
         go_wp2_with fail
         go_roundg (W - (x + 1))
         case measure => omega
         case rel => exact ⟨x + 1, _, rfl, by omega, rfl, by go_num, Hcc, by rw [← tabI_congr m (fun j _ => Hsk.out j)]; exact HOO, Hsz4⟩
        ·rw [hgv] at hgc hFn
         have hin := Hin.out x y (by omega) (by omega) (by rw [← hpl]; exact hgv)
         obtain ⟨_, hpx, hpy, hre⟩ := has_pic hin
         rw [← HPf.out] at hpx hpy hre
         rw [← Hr.out] at hre
         have hrx : r.x = f.x := by rw [hre]
         have hry : r.y = f.y := by rw [hre]
         obtain ⟨p0, p1, p2, p3, p4⟩ := px_place HPk.out hpx hpy
         have hPs := HPk.out.1
         unfold szOk at hPs
         obtain ⟨iy, hiy⟩ := Int.eq_ofNat_of_zero_le hpy.1
         obtain ⟨m2, hm2⟩ := Int.eq_ofNat_of_zero_le p0
         obtain ⟨j, hj⟩ := Int.eq_ofNat_of_zero_le p2
         rw [← Hpn.out] at p3 p4
         have hjl : j < pn := by omega
         obtain ⟨gp', z, hg', hz, hcz⟩ := (show RdI V (.slice (some ⟨gp, 0, none⟩) pn cp) P.d from Hcc.out.d).at_ (k := j) (by rw [← Hpn.out]; exact hjl)
         obtain rfl : gp = gp' := by injection hg' with e; injection e
         have hZ : pnPx W f.x f.y P (y * W + x) = z := by
          unfold pnPx
          rw [plc_div y hxl, plc_mod y hxl, hj, Int.toNat_natCast, List.getD_eq_getElem?_getD, hz]; rfl
         have q1 : IntKind.i64.wrap ((y : Int) * (W : Int)) = (mm : Int) := by rw [hmm, wrap_in _ (by have := Int.natCast_mul y W; omega) (by have := Int.natCast_mul y W; omega)]; simp
         have q3 := wrap_in ((mm : Int) + (x : Int)) (by omega) (by omega)
         have q4 : IntKind.i64.wrap ((y : Int) - r.y) = (iy : Int) := by rw [hry, hiy, wrap_in _ (by omega) (by omega)]
         have q5 : IntKind.i64.wrap ((iy : Int) * P.w) = (m2 : Int) := by rw [← hiy, hm2, wrap_in _ (by omega) (by omega)]
         have q6 := wrap_in ((m2 : Int) + (x : Int)) (by omega) (by omega)
         have q7 : IntKind.i64.wrap ((m2 : Int) + (x : Int) - r.x) = (j : Int) := by rw [hrx, ← hj, ← hm2, wrap_in _ (by omega) (by omega)]; omega
         have t1 : ((mm : Int) + (x : Int)).toNat = mm + x := by omega
         have u1 : (mm : Int) + (x : Int) < (m : Int) := by omega
         have v1 : (0 : Int) ≤ (mm : Int) + (x : Int) := by omega
         have u2 : (j : Int) < (pn : Int) := by omega
         have hcD := (own_at_put HOO.out (j := mm + x) l1 (tabI_length _ _)).1
         have hfD := (own_at_put HOO.out (j := mm + x) l1 (tabI_length _ _)).2
         rw [tabI_getD _ _ _ l1, hmm, pref_at, ← hmm] at hcD
         obtain ⟨t, ht⟩ : ∃ t, t = D (mm + x) := ⟨_, rfl⟩
         rw [← ht] at hcD
         have Hse : Hid (∀ i, (if i = mm + x then over z t else pref (y * W + x) (ocF W f L D) D i) = pref (y * W + (x + 1)) (ocF W f L D) D i) := Lib.hid fun i => by
          rw [hmm, ← Nat.add_assoc]
          exact pref_set _ i _ _ (by rw [hFn, if_pos rfl, ← HPf.out, hZ, ht, hmm])
         have Hmm := Lib.hid hmm
         have hT : PvC w W H sb fs (.slice (some ⟨g, 0, none⟩) N c) bs bo (.slice (some ⟨gq, 0, none⟩) m cq) br r bp P (.slice (some ⟨gp, 0, none⟩) pn cp) bg L V ∧ V.cell? ⟨gp, j, none⟩ = some (.int .i64 z) := ⟨Hcc.out, hcz⟩
         clear hin hpx hpy hre hrx hry p0 p1 p2 p3 p4 hiy hm2 hj hmm hz hcz ht hg' hPs hpl hFn hgv hZ Hcc
         go_upto_region 20 with fail
         clear d0 d1 d2 d3 hgc
         refine wp_region_held_drew (S := fun V => PvC w W H sb fs (.slice (some ⟨g, 0, none⟩) N c) bs bo (.slice (some ⟨gq, 0, none⟩) m cq) br r bp P (.slice (some ⟨gp, 0, none⟩) pn cp) bg L V ∧ V.cell? ⟨gp, j, none⟩ = some (.int .i64 z)) (by kernel_rfl) ⟨hT.1.call (belI_drew _), hT.2⟩ (fun hS => ?_)
         have cS : V.drew.cell? ⟨gq, mm + x, none⟩ = some (.int .i64 t) := hcD
         have fS : V.drew.frozen? ⟨gq, mm + x, none⟩ = false := hfD
         clear hcD hfD
         refine tkH (i := 0) (v := .pointer (some ⟨bo, 2, none⟩)) rfl ?_
         refine tcH (i := 1) (v := .slice (some ⟨gq, 0, none⟩) m cq) rfl (by intro w' hSw; (try dsimp only at hSw); (have o2 := hSw.1.p.o.cells.2.2); go_simp) ?_
         refine tkH (i := 2) (v := .int .i64 (y : Int)) rfl ?_
         refine tkH (i := 3) (v := .pointer (some ⟨w.heap.size, 0, none⟩)) rfl ?_
         refine tcH (i := 4) (v := .int .i64 (W : Int)) rfl (by intro w' hSw; (try dsimp only at hSw); (have d0 := hSw.1.p.cells.1); go_simp) ?_
         refine tkH (i := 5) (v := .int .i64 (mm : Int)) rfl ?_
         refine tkH (i := 6) (v := .int .i64 (x : Int)) rfl ?_
         refine tkH (i := 7) (v := .int .i64 ((mm : Int) + (x : Int))) rfl ?_
         refine tkH (i := 8) (v := .pointer (some ⟨bp, 2, none⟩)) rfl ?_
         refine tcH (i := 9) (v := .slice (some ⟨gp, 0, none⟩) pn cp) rfl (by intro w' hSw; (try dsimp only at hSw); (have i2 := hSw.1.i.cells.2.2); go_simp) ?_
         refine tkH (i := 10) (v := .int .i64 (y : Int)) rfl ?_
         refine tkH (i := 11) (v := .pointer (some ⟨br, 1, none⟩)) rfl ?_
         refine tcH (i := 12) (v := .int .i64 r.y) rfl (by intro w' hSw; (try dsimp only at hSw); (have r1 := hSw.1.r.cells.2.1); go_simp) ?_
         refine tkH (i := 13) (v := .int .i64 (iy : Int)) rfl ?_
         refine tkH (i := 14) (v := .pointer (some ⟨bp, 0, none⟩)) rfl ?_
         refine tcH (i := 15) (v := .int .i64 P.w) rfl (by intro w' hSw; (try dsimp only at hSw); (have i0 := hSw.1.i.cells.1); go_simp) ?_
         refine tkH (i := 16) (v := .int .i64 (m2 : Int)) rfl ?_
         refine tkH (i := 17) (v := .int .i64 (x : Int)) rfl ?_
         refine tkH (i := 18) (v := .int .i64 ((m2 : Int) + (x : Int))) rfl ?_
         refine tkH (i := 19) (v := .pointer (some ⟨br, 0, none⟩)) rfl ?_
         refine tcH (i := 20) (v := .int .i64 r.x) rfl (by intro w' hSw; (try dsimp only at hSw); (have r0 := hSw.1.r.cells.1); go_simp) ?_
         refine tkH (i := 21) (v := .int .i64 (j : Int)) rfl ?_
         refine tkH (i := 22) (v := .pointer (some ⟨gp, j, none⟩)) rfl ?_
         refine tcH (i := 23) (v := .int .i64 z) rfl (by intro w' hSw; (try dsimp only at hSw); (have zc := hSw.2); go_simp) ?_
         refine tkH (i := 24) (v := .pointer (some ⟨bo, 2, none⟩)) rfl ?_
         refine tcH (i := 25) (v := .slice (some ⟨gq, 0, none⟩) m cq) rfl (by intro w' hSw; (try dsimp only at hSw); (have o2 := hSw.1.p.o.cells.2.2); go_simp) ?_
         refine tkH (i := 26) (v := .int .i64 (y : Int)) rfl ?_
         refine tkH (i := 27) (v := .pointer (some ⟨w.heap.size, 0, none⟩)) rfl ?_
         refine tcH (i := 28) (v := .int .i64 (W : Int)) rfl (by intro w' hSw; (try dsimp only at hSw); (have d0 := hSw.1.p.cells.1); go_simp) ?_
         refine tkH (i := 29) (v := .int .i64 (mm : Int)) rfl ?_
         refine tkH (i := 30) (v := .int .i64 (x : Int)) rfl ?_
         refine tkH (i := 31) (v := .int .i64 ((mm : Int) + (x : Int))) rfl ?_
         refine tkH (i := 32) (v := .pointer (some ⟨gq, mm + x, none⟩)) rfl ?_
         (try simp only [Act.put]); (try simp only [zPa]); (try simp only [zPb, zPc])
         refine wpAnyH_ready (rs := [33]) (by kernel_rfl) (by simp) ?_
         refine (AllReadyH.cons rfl (fun K hK => ?_) AllReadyH.nil)
         ·rw [if_pos (by kernel_rfl)]
          (try simp only [zGa]); (try simp only [zGb]); (try simp only [zGc])
          go_simp
          refine hK.out _ _ (hS) (fun hS => ?_)
          clear hK
          (try simp only [Act.put]); (try simp only [zPa]); (try simp only [zPb, zPc])
          refine wpAnyH_ready (rs := [34]) (by kernel_rfl) (by simp) ?_
          refine (AllReadyH.cons rfl (fun K hK => ?_) AllReadyH.nil)
          ·rw [if_pos (by kernel_rfl)]
           (try simp only [zGa]); (try simp only [zGb]); (try simp only [zGc])
           go_simp
           with_reducible refine (overS_any z t _).mono ?_
           rintro e W' ⟨rfl, rfl⟩
           dsimp only
           refine hK.out _ _ (hS) (fun hS => ?_)
           clear hK
           (try simp only [Act.put]); (try simp only [zPa]); (try simp only [zPb, zPc])
           refine tkH (i := 35) (v := .pointer (some ⟨gq, mm + x, none⟩)) rfl ?_
           (try simp only [Act.put]); (try simp only [zPa]); (try simp only [zPb, zPc])
           refine wpAnyH_ready (rs := [36]) (by kernel_rfl) (by simp) ?_
           refine (AllReadyH.cons rfl (fun K hK => ?_) AllReadyH.nil)
           ·rw [if_pos (by kernel_rfl)]
            (try simp only [zGa]); (try simp only [zGb]); (try simp only [zGc])
            go_simp
            refine hK.out _ _ (⟨hS.1.set Hoo.out (grown_setI _ gq (mm + x) _), cell_grown hS.2 (grown_setI _ gq (mm + x) _) (fun e => Hoo.out.2.2.2.2 (Option.some.inj e))⟩) (fun hS => ?_)
            clear hK
            (try simp only [Act.put]); (try simp only [zPa]); (try simp only [zPb, zPc])
            refine wpAnyH_done (by kernel_rfl) ?_ _
            go_wp2_with fail
            go_roundg (W - (x + 1))
            case measure => omega
            case rel =>
             have h := (ownI_put (show World.ownsRow V.drew _ _ _ _ _ _ from HOO.out) (mm + x) (over z t)).1
             rw [tabI_set, tabI_congr m (fun i _ => Hse.out i)] at h
             exact ⟨x + 1, _, rfl, by omega, rfl, by go_num, Lib.hid hS.1, Lib.hid (show World.ownsRow (V.drew.setCell _ _) _ _ _ _ _ _ from h), Lib.hid (by have := Hsz4.out; simpa using this)⟩
       ·obtain rfl : x = W := by omega
        have hxi : ¬ (x : Int) < (x : Int) := by omega
        go_wp2_with fail
        go_roundg (H - (y + 1))
        case measure => omega
        case rel => exact ⟨y + 1, _, rfl, by omega, rfl, by go_num, Hcc, by rw [Nat.succ_mul]; exact HOO, Hsz4⟩
     ·obtain rfl : y = H := by omega
      have hyi : ¬ (y : Int) < (y : Int) := by omega
      go_wp2_with fail
      go_roundg (N - (k + 1))
      case measure => omega
      case rel =>
       refine ⟨k + 1, _, _, rfl, by omega, rfl, rfl, Hx2, by go_num, Lib.hid Hcc.out.p, ?_, Hsz4⟩
       rw [HDl.out, ← tabI_congr m (fun j hj => pref_all (n := y * W) (ocF W f L D) D (by rw [Nat.mul_comm, ← HmW.out]; exact hj))]
       exact HOO
   ·obtain rfl : k = N := by omega
    obtain ⟨o0, o1, o2⟩ := HP.out.o.cells
    obtain ⟨r0, r1, r2⟩ := HP.out.r.cells
    have f0 := HP.out.r.frozen 0
    have f1 := HP.out.r.frozen 1
    have f2 := HP.out.r.frozen 2
    have HJ := Lib.hid (HP.out.r.set3 W H (.slice (some ⟨gq, 0, none⟩) m cq))
    have HB := Lib.hid HP.out.bw
    have hni : ¬ (k : Int) < (k : Int) := by omega
    clear HP
    go_wp2_with fail
    obtain ⟨s0, s1, s2⟩ := HJ.out.cells
    refine bodyPost_ret (v := .tuple #[.agg #[.int .i64 W, .int .i64 H, .slice (some ⟨gq, 0, none⟩) m cq], .int .i64 x]) (by simp [results, Tryz.results59, go_sem, s0, s1, s2]) rfl ?_
    rw [HA.out, HX.out, HN.out, ← HN.out, ← Hx.out]
    exact pv_set HO.out (by rw [ocK_len, Hm.out]) (by omega) (by omega) HB.out
theorem pvS_no (s : Sn) (v : Value) (bs : List Nat) (w : World) (hs : ¬ snOk s) (h : repSfs.R w s.fs [v] bs) : Calls Tryz.prog 59 #[.agg #[.int .i64 s.w, .int .i64 s.h, .int .i64 s.back, v]] w (PvAns (pvIm s) (pvN s) w) := by
 have hZ := PnZ.born h
 have HS := fun W h => snS s v bs W h
 unfold SnOkAns at HS
 obtain ⟨d0, d1, d2, d3⟩ := hZ.a.cells
 rw [snB_no hs] at HS
 have HA := Lib.hid (pvIm_no hs)
 have HX := Lib.hid (pvN_no hs)
 have HS := Lib.hid HS
 clear h hs
 go_enter Tryz.func59, Tryz.ntmps59
 go_wp2_with fail
 refine (HS.out _ hZ.a.r).mono ?_
 rintro e w1 ⟨rfl, hb⟩
 replace hZ := hZ.call hb
 clear d0 d1 d2 d3 hb
 obtain ⟨r0, r1, r2⟩ := hZ.r.cells
 have f0 := hZ.r.frozen 0
 have f1 := hZ.r.frozen 1
 have f2 := hZ.r.frozen 2
 have HJ := Lib.hid (hZ.r.set3 0 0 (.slice none 0 0))
 have HB := Lib.hid hZ.bw
 clear hZ
 go_wp2_with fail
 obtain ⟨s0, s1, s2⟩ := HJ.out.cells
 exact bodyPost_ret (v := .tuple #[.agg #[.int .i64 0, .int .i64 0, .slice none 0 0], .int .i64 0]) (by simp [results, Tryz.results59, go_sem, s0, s1, s2]) rfl (by rw [HA.out, HX.out]; exact pv_zero HB.out)
theorem pvS (s : Sn) (v : Value) (bs : List Nat) (w : World) (h : repSfs.R w s.fs [v] bs) : Calls Tryz.prog 59 #[.agg #[.int .i64 s.w, .int .i64 s.h, .int .i64 s.back, v]] w (PvAns (pvIm s) (pvN s) w) := by
 by_cases hs : snOk s
 ·obtain ⟨x, y, b, fs⟩ := s
  obtain ⟨p, q, rfl, rfl, _⟩ := sz_nat (show szOk x y from hs.1)
  exact pvS_ok p q b fs v bs w hs h
 ·exact pvS_no s v bs w hs h
end Go.Proofs.YtdgagooldlnpeaaGreat
