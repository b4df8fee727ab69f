/- The walk of the law FnOccluded: it returns true for every code. -/
import Derived.Test.YtdgagooldlnpeaaGreatMA
import Derived.Test.YtdgagooldlnpeaaGreatMAv01
import Derived.Test.YtdgagooldlnpeaaGreatMB
import Derived.Test.YtdgagooldlnpeaaGreatMAv023
import Derived.Test.YtdgagooldlnpeaaGreatMAv012
import Derived.Test.YtdgagooldlnpeaaGreatMBv01
import Derived.Test.YtdgagooldlnpeaaGreatMAv013
import Derived.Test.YtdgagooldlnpeaaGreatMAv03
import Derived.Test.YtdgagooldlnpeaaGreatDrwIv01
import Derived.Test.YtdgagooldlnpeaaGreatB1sav01
import Derived.Test.YtdgagooldlnpeaaGreatMC
import Derived.Test.YtdgagooldlnpeaaGreatSnS
import Derived.Test.YtdgagooldlnpeaaGreatCombIv013
import Derived.Test.YtdgagooldlnpeaaGreatB1nav013
import Derived.Test.YtdgagooldlnpeaaGreatSnDv01
import Derived.Test.YtdgagooldlnpeaaGreatB2sav01
import Derived.Test.YtdgagooldlnpeaaGreatDrSv01
import Derived.Test.YtdgagooldlnpeaaGreatB4sav01
import Derived.Test.YtdgagooldlnpeaaGreatB1sav013
import Derived.Test.YtdgagooldlnpeaaGreatSfP
import Derived.Test.YtdgagooldlnpeaaGreatB2sav012
import Derived.Test.YtdgagooldlnpeaaGreatB2sav03
import Derived.Test.YtdgagooldlnpeaaGreatB2sav0
import Derived.Test.YtdgagooldlnpeaaGreatB2sav013
import Derived.Test.YtdgagooldlnpeaaGreatB2sa
import Derived.Test.YtdgagooldlnpeaaGreatSeIv013
import Derived.Test.YtdgagooldlnpeaaGreatPnSv012
import Derived.Test.YtdgagooldlnpeaaGreatPnI
import Derived.Test.YtdgagooldlnpeaaGreatB3sa
import Derived.Test.YtdgagooldlnpeaaGreatB3sav01
import Derived.Test.YtdgagooldlnpeaaGreatPvIv03
import Derived.Test.YtdgagooldlnpeaaGreatProg
import Derived.WalkKit
import Derived.ProofKit
import Derived.OpenShut
import Derived.WalkLawsBesides
import Derived.WalkSpells
import Derived.ShutString
import Derived.ChangeOld
import Derived.Below
import Derived.Lib.Hide
import Derived.BigQuiet
import Derived.Deep.QuietTactic
import Derived.Maps.AppendAt
import Derived.Deep.OwnRows
import Derived.Handy
import Derived.Deep.Draws
import Derived.OwnWalk
import Derived.Deep.AppendLies
import Derived.Deep.LoopGhost
import Derived.Deep.Onto
import Derived.Deep.MidRow
import Derived.Deep.WholeRow
import Derived.Laws.BitsAllLaws
import Derived.Lib.QuoteBits
import Derived.Test.YtdgagooldlnpeaaGreatShelf
import Derived.Laws.CopyOwn
import Derived.Deep.RegionLaw
import Derived.Deep.RegionHeld3
import Derived.Deep.DeepCutAuto
import Derived.Great.BuildSlice
import Derived.Laws.AppendOwn
import Derived.Deep.CutBlock
import Derived.Shelf.RegionOpenPlain
import Derived.Lib.SliceRun
import Derived.Deep.RegionWith
import Derived.ChangeKeysEq
import Derived.Deep.DeepAppendRoom
namespace Go.Proofs.YtdgagooldlnpeaaGreat
open Go.RowKit
structure OcW (w : World) (s : Sn) (v : Value) (bs : List Nat) (b3 : Nat) (I : Im) (u : Value) (b5 : Nat) (V : World) : Prop where
 a : SnA b3 s v bs V
 i : BkAt V b5 55 #[.int .i64 I.w, .int .i64 I.h, u]
 d : RdI V u I.d
 bw : Below w.heap.size w V
theorem OcW.call {w : World} {s : Sn} {v : Value} {bs : List Nat} {b3 : Nat} {I : Im} {u : Value} {b5 : Nat} {V V' : World} (h : OcW w s v bs b3 I u b5 V) (hb : Below V.heap.size V V') : OcW w s v bs b3 I u b5 V' := ⟨h.a.call hb, h.i.call hb, h.d.call hb, belI_call h.bw hb⟩
set_option maxHeartbeats 4000000 in
set_option maxRecDepth 100000 in
theorem walk_FnOccluded (a0 : Option Addr) (len cap : Nat) (zs : List Int) (w : World) (hrow : IsRow .u8 w a0 len cap zs) :
  Calls Tryz.prog 8 #[.slice a0 len cap] w fun e w' => e = .returned (.bool true) ∧ Below w.heap.size w w' := by
 by_cases hbig : len ≤ 1048576
 rotate_left
 ·go_enter Tryz.func8, Tryz.ntmps8
  go_wp2_with fail
  refine (big_yes _ _ _ _ (by omega)).mono ?_
  rintro e w1 ⟨rfl, rfl⟩
  go_wp2_with fail
  go_ret
  exact ⟨rfl, Below.refl _ _⟩
 go_enter Tryz.func8, Tryz.ntmps8
 go_wp2_with fail
 refine (big_no _ _ _ _ hbig).mono ?_
 rintro e w1 ⟨rfl, rfl⟩
 go_wp2_with fail
 refine (drawScene_any _ _ _ _ zs hrow).mono ?_
 rintro e w1 ⟨s, v, bs, L, ue, cs, rfl, hs, hO, _, _, hE, _, K⟩
 obtain ⟨⟨A, c, rfl⟩, _⟩ := repSfs_form hO.r
 clear hE hrow
 obtain ⟨w2, hw2⟩ : ∃ V, V = w1.alloc (.cells #[.int .i64 s.w, .int .i64 s.h, .int .i64 s.back, .slice A s.fs.length c] 34) := ⟨_, rfl⟩
 obtain ⟨b3, hb3⟩ : ∃ b, b = w1.heap.size := ⟨_, rfl⟩
 have hA : SnA b3 s (.slice A s.fs.length c) bs w2 := by rw [hw2, hb3]; exact SnA.born hO.r
 have hK : Below w.heap.size w w2 := by rw [hw2]; exact belI_call K (belI_box _ _)
 obtain ⟨I, hI⟩ : ∃ I, I = pnIm s := ⟨_, rfl⟩
 obtain ⟨n, hn⟩ : ∃ n, n = pvN s := ⟨_, rfl⟩
 obtain ⟨ct, hct⟩ : ∃ n, n = costM s := ⟨_, rfl⟩
 obtain ⟨Q, hQ⟩ : ∃ Q, Q = covM s (-1) := ⟨_, rfl⟩
 obtain ⟨ac, hac⟩ : ∃ a, a = areaR Q := ⟨_, rfl⟩
 have hw := occ_work hs
 rw [← hn, ← hct, ← hQ, ← hac] at hw
 have hPV := pvI s (.slice A s.fs.length c) bs w2 hA.r
 rw [occ_same hs, ← hI, ← hn] at hPV
 unfold PvAns at hPV
 have HPV := Lib.hid hPV
 have HPA := fun W h => paS s (.slice A s.fs.length c) bs W h
 unfold AnsIm ImAns at HPA
 rw [← hI] at HPA
 have HPA := Lib.hid HPA
 have HCT := fun W h => costI s (.slice A s.fs.length c) bs W h
 unfold CostAns at HCT
 rw [← hct] at HCT
 have HCT := Lib.hid HCT
 have HCV := fun W h => covS s (-1) (.slice A s.fs.length c) bs W h
 unfold RgQ at HCV
 rw [← hQ] at HCV
 have HCV := Lib.hid HCV
 have HAR := fun (u : Value) (W : World) h => areaS u Q W h
 rw [← hac] at HAR
 have HAR := Lib.hid HAR
 have HSM := Lib.hid (fun (u z : Value) (W : World) (h1 : RdI W u I.d) (h2 : RdI W z I.d) => sameIL I.w I.h u I.d I.w I.h z I.d W h1 h2)
 unfold SameMAns at HSM
 have hse : sameM I.w I.h I.d I.w I.h I.d = true := sameM_yes I.w I.h I.d
 rw [hse] at HSM
 obtain ⟨_, _, _, _, a1, a2⟩ := sn_sizes hs
 obtain ⟨ar, har⟩ : ∃ a, a = s.w * s.h := ⟨_, rfl⟩
 rw [← har] at hw a1 a2
 have hab := area_bd Q
 rw [← hac] at hab
 have q0 : IntKind.i64.wrap (s.w * s.h) = ar := by rw [← har]; exact wrap_in _ (by omega) (by omega)
 have q1 : IntKind.i64.wrap (ar - ac) = ar - ac := wrap_in _ (by omega) (by omega)
 obtain ⟨l1, l2⟩ := hw
 have HA := Lib.hid hA
 have HK := Lib.hid hK
 have HW2 := Lib.hid hw2
 have HB3 := Lib.hid hb3
 obtain ⟨d0, d1, d2, d3⟩ := hA.cells
 rw [hw2, hb3] at d0 d1 d2 d3
 clear hs hO K hA hK hI hn hct hQ hac hPV hse har hab hw2 hb3
 go_wp2_with fail
 rw [← HW2.out]
 refine HPV.out.mono ?_
 rintro e w3 ⟨u, rfl, hown, hb⟩
 obtain ⟨Ai, ci, rfl⟩ := ownI_shape hown
 clear d0 d1 d2 d3 HPV
 obtain ⟨w4, hw4⟩ : ∃ V, V = w3.alloc (.cells #[.int .i64 I.w, .int .i64 I.h, .slice Ai I.d.length ci] 55) := ⟨_, rfl⟩
 obtain ⟨b5, hb5⟩ : ∃ b, b = w3.heap.size := ⟨_, rfl⟩
 have hbx : Below w3.heap.size w3 w4 := by rw [hw4]; exact belI_box _ _
 have hS : OcW w s (.slice A s.fs.length c) bs b3 I (.slice Ai I.d.length ci) b5 w4 :=
  ⟨(HA.out.call hb).call hbx, by rw [hw4, hb5]; exact BkAt.new _ _ _, (RdI.of_own hown).call hbx, belI_call (belI_call HK.out hb) hbx⟩
 have HW4 := Lib.hid hw4
 have HB5 := Lib.hid hb5
 clear hbx hown hb hw4 hb5
 go_upto_region 5 with fail
 rw [← HW4.out, ← HB5.out, ← HB3.out]
 refine wp_region_held_drew (S := fun V => OcW w s (.slice A s.fs.length c) bs b3 I (.slice Ai I.d.length ci) b5 V) (by kernel_rfl) (hS.call (belI_drew _)) (fun hS => ?_)
 refine tcH (i := 0) (v := .agg #[.int .i64 I.w, .int .i64 I.h, .slice Ai I.d.length ci]) rfl (by intro w' hSw; (try dsimp only at hSw); (have i0 := hSw.i.cell 0 rfl); (have i1 := hSw.i.cell 1 rfl); (have i2 := hSw.i.cell 2 rfl); go_simp) ?_
 refine tcH (i := 1) (v := .agg #[.int .i64 s.w, .int .i64 s.h, .int .i64 s.back, .slice A s.fs.length c]) rfl (by intro w' hSw; (try dsimp only at hSw); (obtain ⟨d0, d1, d2, d3⟩ := hSw.a.cells); go_simp) ?_
 (try simp only [Act.put]); (try simp only [zPa]); (try simp only [zPb, zPc])
 refine wpAnyH_ready (rs := [2]) (by kernel_rfl) (by simp) ?_
 refine (AllReadyH.cons rfl (fun K hK => ?_) AllReadyH.nil)
 ·rw [if_pos (by kernel_rfl)]
  (try simp only [zGa]); (try simp only [zGb]); (try simp only [zGc])
  go_simp
  with_reducible refine (HPA.out _ hS.a.r).mono ?_
  rintro e W' ⟨z, rfl, hz, hb⟩
  dsimp only
  obtain ⟨Az, cz, rfl⟩ := ownI_shape hz
  refine hK.out _ _ (hS.call hb) (fun hS => ?_)
  clear hK
  (try simp only [Act.put]); (try simp only [zPa]); (try simp only [zPb, zPc])
  refine wpAnyH_ready (rs := [3]) (by kernel_rfl) (by simp) ?_
  refine (AllReadyH.cons rfl (fun K hK => ?_) AllReadyH.nil)
  ·rw [if_pos (by kernel_rfl)]
   (try simp only [zGa]); (try simp only [zGb]); (try simp only [zGc])
   go_simp
   with_reducible refine (HSM.out _ _ _ hS.d (RdI.of_own hz)).mono ?_
   rintro e W' ⟨rfl, hb⟩
   dsimp only
   have hz := ownI_call hz hb
   refine hK.out _ _ (hS.call hb) (fun hS => ?_)
   clear hK
   (try simp only [Act.put]); (try simp only [zPa]); (try simp only [zPb, zPc])
   refine tkH (i := 4) (v := .bool true) rfl ?_
   refine tkH (i := 5) (v := .int .i64 n) rfl ?_
   refine tcH (i := 6) (v := .agg #[.int .i64 s.w, .int .i64 s.h, .int .i64 s.back, .slice A s.fs.length c]) rfl (by intro w' hSw; (try dsimp only at hSw); (obtain ⟨d0, d1, d2, d3⟩ := hSw.a.cells); go_simp) ?_
   (try simp only [Act.put]); (try simp only [zPa]); (try simp only [zPb, zPc])
   refine wpAnyH_ready (rs := [7]) (by kernel_rfl) (by simp) ?_
   refine (AllReadyH.cons rfl (fun K hK => ?_) AllReadyH.nil)
   ·rw [if_pos (by kernel_rfl)]
    (try simp only [zGa]); (try simp only [zGb]); (try simp only [zGc])
    go_simp
    with_reducible refine (HCT.out _ hS.a.r).mono ?_
    rintro e W' ⟨rfl, hb⟩
    dsimp only
    have hz := ownI_call hz hb
    refine hK.out _ _ (hS.call hb) (fun hS => ?_)
    clear hK
    (try simp only [Act.put]); (try simp only [zPa]); (try simp only [zPb, zPc])
    refine tkH (i := 8) (v := .bool true) rfl ?_
    refine tkH (i := 9) (v := .bool true) rfl ?_
    refine tkH (i := 10) (v := .bool true) rfl ?_
    refine tkH (i := 11) (v := .int .i64 n) rfl ?_
    refine tkH (i := 12) (v := .pointer (some ⟨b3, 0, none⟩)) rfl ?_
    refine tcH (i := 13) (v := .int .i64 s.w) rfl (by intro w' hSw; (try dsimp only at hSw); (obtain ⟨d0, d1, d2, d3⟩ := hSw.a.cells); go_simp) ?_
    refine tkH (i := 14) (v := .pointer (some ⟨b3, 1, none⟩)) rfl ?_
    refine tcH (i := 15) (v := .int .i64 s.h) rfl (by intro w' hSw; (try dsimp only at hSw); (obtain ⟨d0, d1, d2, d3⟩ := hSw.a.cells); go_simp) ?_
    refine tkH (i := 16) (v := .int .i64 ar) rfl ?_
    refine tcH (i := 17) (v := .agg #[.int .i64 s.w, .int .i64 s.h, .int .i64 s.back, .slice A s.fs.length c]) rfl (by intro w' hSw; (try dsimp only at hSw); (obtain ⟨d0, d1, d2, d3⟩ := hSw.a.cells); go_simp) ?_
    (try simp only [Act.put]); (try simp only [zPa]); (try simp only [zPb, zPc])
    refine wpAnyH_ready (rs := [18]) (by kernel_rfl) (by simp) ?_
    refine (AllReadyH.cons rfl (fun K hK => ?_) AllReadyH.nil)
    ·rw [if_pos (by kernel_rfl)]
     (try simp only [zGa]); (try simp only [zGb]); (try simp only [zGc])
     go_simp
     with_reducible refine (HCV.out _ hS.a.r).mono ?_
     rintro e W' ⟨y, rfl, hy, hb⟩
     dsimp only
     obtain ⟨Ay, cy, rfl⟩ := own_shape hy
     have hz := ownI_call hz hb
     refine hK.out _ _ (hS.call hb) (fun hS => ?_)
     clear hK
     (try simp only [Act.put]); (try simp only [zPa]); (try simp only [zPb, zPc])
     refine wpAnyH_ready (rs := [19]) (by kernel_rfl) (by simp) ?_
     refine (AllReadyH.cons rfl (fun K hK => ?_) AllReadyH.nil)
     ·rw [if_pos (by kernel_rfl)]
      (try simp only [zGa]); (try simp only [zGb]); (try simp only [zGc])
      go_simp
      with_reducible refine (HAR.out _ _ (RdR.of_own hy)).mono ?_
      rintro e W' ⟨rfl, hb⟩
      dsimp only
      have hz := ownI_call hz hb
      have hy := own_call2 hy hb
      refine hK.out _ _ (hS.call hb) (fun hS => ?_)
      clear hK
      (try simp only [Act.put]); (try simp only [zPa]); (try simp only [zPb, zPc])
      refine tkH (i := 20) (v := .int .i64 (ar - ac)) rfl ?_
      refine tkH (i := 21) (v := .bool true) rfl ?_
      refine tkH (i := 22) (v := .bool true) rfl ?_
      refine tkH (i := 23) (v := .bool true) rfl ?_
      refine wpAnyH_done (by kernel_rfl) ?_ _
      have HK9 := Lib.hid hS.bw
      go_wp2_with fail
      go_ret
      exact ⟨rfl, HK9.out⟩
end Go.Proofs.YtdgagooldlnpeaaGreat
