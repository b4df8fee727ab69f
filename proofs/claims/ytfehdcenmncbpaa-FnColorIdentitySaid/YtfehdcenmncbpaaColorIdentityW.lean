/- The walk of the law FnColorIdentity: it returns true for every code. -/
import Derived.Test.YtfehdcenmncbpaaBase
import Derived.Test.YtfehdcenmncbpaaRd
import Derived.Test.YtfehdcenmncbpaaIntR
import Derived.Test.YtfehdcenmncbpaaImR
import Derived.Test.YtfehdcenmncbpaaPixM
import Derived.Test.YtfehdcenmncbpaaPixS
import Derived.Test.YtfehdcenmncbpaaPixI
import Derived.Test.YtfehdcenmncbpaaPixA
import Derived.Test.YtfehdcenmncbpaaColM
import Derived.Test.YtfehdcenmncbpaaImV
import Derived.Test.YtfehdcenmncbpaaBk
import Derived.Test.YtfehdcenmncbpaaCmB
import Derived.Test.YtfehdcenmncbpaaBlk4
import Derived.Test.YtfehdcenmncbpaaHasC
import Derived.Test.YtfehdcenmncbpaaRectEq
import Derived.Test.YtfehdcenmncbpaaRds
import Derived.Test.YtfehdcenmncbpaaCmG
import Derived.Test.YtfehdcenmncbpaaCmP
import Derived.Test.YtfehdcenmncbpaaCmQ
import Derived.Test.YtfehdcenmncbpaaFilB
import Derived.Test.YtfehdcenmncbpaaCrpB
import Derived.Test.YtfehdcenmncbpaaCurC
import Derived.Test.YtfehdcenmncbpaaBig
import Derived.Test.YtfehdcenmncbpaaCmJ
import Derived.Test.YtfehdcenmncbpaaCmD
import Derived.Test.YtfehdcenmncbpaaCmH
import Derived.Test.YtfehdcenmncbpaaAtV
import Derived.Test.YtfehdcenmncbpaaProg
import Derived.WalkKit
import Derived.ProofKit
import Derived.OpenShut
import Derived.WalkLawsBesides
import Derived.WalkSpells
import Derived.ShutString
import Derived.ChangeOld
import Derived.Below
import Derived.Lib.Hide
import Derived.BigQuiet
import Derived.Deep.QuietTactic
import Derived.Maps.AppendAt
import Derived.Deep.OwnRows
import Derived.Handy
import Derived.Deep.Draws
import Derived.OwnWalk
import Derived.Deep.AppendLies
import Derived.Deep.LoopGhost
import Derived.Deep.Onto
import Derived.Laws.BitsAllLaws
import Derived.Lib.QuoteBits
import Derived.Test.YtfehdcenmncbpaaShelf
import Derived.Laws.CopyOwn
import Derived.Deep.RegionLaw
import Derived.Deep.RegionHeld3
import Derived.Deep.DeepCutAuto
import Derived.Great.BuildSlice
import Derived.Deep.MidRow
import Derived.Deep.WholeRow
import Derived.Laws.AppendOwn
import Derived.ChangeKeysEq
namespace Go.Proofs.Ytfehdcenmncbpaa
open Go.RowKit
/-- What the law keeps in memory: the drawn map and the identity. -/
structure CiW (w : World) (bm bi : Nat) (u v x y : Value) (M C : List Int) (W : World) : Prop where
  m : CmB bm u v M C W
  i : CmB bi x y idM idC W
  bw : Below w.heap.size w W
theorem CiW.call {w : World} {bm bi : Nat} {u v x y : Value} {M C : List Int} {W W' : World} (h : CiW w bm bi u v x y M C W) (hb : Below W.heap.size W W') : CiW w bm bi u v x y M C W' := ⟨h.m.call hb, h.i.call hb, belI_call h.bw hb⟩
theorem CiW.drew {w : World} {bm bi : Nat} {u v x y : Value} {M C : List Int} {W : World} (h : CiW w bm bi u v x y M C W) : CiW w bm bi u v x y M C W.drew := h.call (belI_drew _)
set_option maxHeartbeats 4000000 in
set_option maxRecDepth 10000 in
theorem walk_FnColorIdentity (a0 : Option Addr) (len cap : Nat) (zs : List Int) (w : World) (hrow : IsRow .u8 w a0 len cap zs) :
    Calls Try.prog 3 #[.slice a0 len cap] w fun e w' => e = .returned (.bool true) ∧ Below w.heap.size w w' := by
  by_cases hbig : len ≤ 1048576
  · go_enter Try.func3, Try.ntmps3
    go_wp2_with fail
    refine (big_no _ _ _ _ hbig).mono ?_
    rintro e w1 ⟨rfl, rfl⟩
    go_wp2_with fail
    refine (drawCol_any _ _ _ _ zs hrow).mono ?_
    rintro e w1 ⟨u, v, M, C, p, q, rfl, hok, hasc, hp, hq, h1, h2, K⟩
    obtain ⟨Au, cu, hu⟩ := ownI_shape h1
    obtain ⟨Av, cv, hv⟩ := ownI_shape h2
    subst hu
    subst hv
    obtain ⟨bm, hbm⟩ : ∃ b, b = w1.heap.size := ⟨_, rfl⟩
    have hm := CmB.bornAt hbm.symm (RdI.of_own h1) (RdI.of_own h2)
    have K1 := belI_call K (belI_box w1 (.cells #[.slice Au M.length cu, .slice Av C.length cv] 26))
    have ha := atV_bd rfl hrow 0
    have hb := atV_bd rfl hrow 1
    have R1 := row_call hrow K1
    have HBM := Lib.hid hbm
    have HM := Lib.hid hm
    have HK := Lib.hid K1
    have HR := Lib.hid R1
    have Hok := Lib.hid hok
    have Hasc := Lib.hid hasc
    have Hp := Lib.hid hp
    have Hq := Lib.hid hq
    obtain ⟨i0, hi0⟩ : ∃ x, x = atV len zs 0 := ⟨_, rfl⟩
    obtain ⟨i1, hi1⟩ : ∃ x, x = atV len zs 1 := ⟨_, rfl⟩
    rw [← hi0] at ha
    rw [← hi1] at hb
    have HI0 := Lib.hid hi0
    have HI1 := Lib.hid hi1
    clear hrow hbig hok hasc hp hq h1 h2 K K1 R1 hbm hm hi0 hi1
    go_wp2_with fail
    rw [← HBM.out]
    refine (idI _).mono ?_
    rintro e w2 ⟨x, y, rfl, h1, h2, _, hb2⟩
    rw [show idM.length = 9 from rfl] at h1
    rw [show idC.length = 17 from rfl] at h2
    obtain ⟨Ax, cx, hx⟩ := ownI_shape h1
    obtain ⟨Ay, cy, hy⟩ := ownI_shape h2
    subst hx
    subst hy
    obtain ⟨bi, hbi⟩ : ∃ b, b = w2.heap.size := ⟨_, rfl⟩
    have hi := CmB.bornAt (M := idM) (C := idC) hbi.symm (RdI.of_own (L := idM) h1) (RdI.of_own (L := idC) h2)
    have hb3 := belI_call hb2 (belI_box w2 (.cells #[.slice Ax 9 cx, .slice Ay 17 cy] 26))
    have hS : CiW w bm bi (.slice Au M.length cu) (.slice Av C.length cv) (.slice Ax 9 cx) (.slice Ay 17 cy) M C (w2.alloc (.cells #[.slice Ax 9 cx, .slice Ay 17 cy] 26)) := ⟨HM.out.call hb3, hi, belI_call HK.out hb3⟩
    have hR := row_call HR.out hb3
    obtain ⟨w3, hw3⟩ : ∃ W, W = w2.alloc (.cells #[.slice Ax 9 cx, .slice Ay 17 cy] 26) := ⟨_, rfl⟩
    rw [← hw3] at hS hR
    have HW := Lib.hid hw3
    have HBI := Lib.hid hbi
    have HA0 := fun (W : World) (h : IsRow .u8 W a0 len cap zs) => at_val W a0 len cap zs h 0 (by omega) (by omega)
    have HA1 := fun (W : World) (h : IsRow .u8 W a0 len cap zs) => at_val W a0 len cap zs h 1 (by omega) (by omega)
    rw [← HI0.out] at HA0
    rw [← HI1.out] at HA1
    replace HA0 := Lib.hid HA0
    replace HA1 := Lib.hid HA1
    have HS := Lib.hid hS
    have HR3 := Lib.hid hR
    clear h1 h2 hb2 hb3 hi hS hR hw3 hbi HM HK HR
    go_wp2_with fail
    rw [← HW.out, ← HBI.out]
    refine (HA0.out _ HR3.out).mono ?_
    rintro e wj ⟨rfl, rfl⟩
    go_wp2_with fail
    refine (HA1.out _ HR3.out).mono ?_
    rintro e wj ⟨rfl, rfl⟩
    go_upto_if 25 with fail
    go_cut [7, 8] (fun s7 s8 wx => ∃ a b : Nat, s7 = .int .i64 a ∧ s8 = .int .i64 b ∧ a ≤ b ∧ b ≤ 255 ∧ wx = w3)
    case first =>
      by_cases hab : i0 > i1
      · go_wp2_with fail
        refine (HA1.out _ HR3.out).mono ?_
        rintro e wj ⟨rfl, rfl⟩
        go_wp2_with fail
        refine (HA0.out _ HR3.out).mono ?_
        rintro e wj ⟨rfl, rfl⟩
        go_wp2_with fail
        go_meet
        case rel => exact ⟨i1.toNat, i0.toNat, by rw [Int.toNat_of_nonneg hb.1], by rw [Int.toNat_of_nonneg ha.1], by omega, by omega, by first | rfl | trivial⟩
      · go_wp2_with fail
        go_meet
        case rel => exact ⟨i0.toNat, i1.toNat, by rw [Int.toNat_of_nonneg ha.1], by rw [Int.toNat_of_nonneg hb.1], by omega, by omega, by first | rfl | trivial⟩
    case rest =>
      obtain ⟨a, b, rfl, rfl, hab, hb255, rfl⟩ := hcut
      have HCA := fun (W : World) (h1 : RdI W (.slice Au M.length cu) M) (h2 : RdI W (.slice Av C.length cv) C) => curatI _ _ M C (a : Int) W h1 h2
      have HCB := fun (W : World) (h1 : RdI W (.slice Au M.length cu) M) (h2 : RdI W (.slice Av C.length cv) C) => curatI _ _ M C (b : Int) W h1 h2
      rw [curA_yes Hok.out (show a ≤ 255 by omega)] at HCA
      rw [curA_yes Hok.out hb255] at HCB
      have hle := cur_mono Hasc.out hab hb255
      obtain ⟨ca, hca⟩ : ∃ x, x = curV C a := ⟨_, rfl⟩
      obtain ⟨cb, hcb⟩ : ∃ x, x = curV C b := ⟨_, rfl⟩
      rw [← hca] at HCA hle
      rw [← hcb] at HCB hle
      have HX := fun (W : World) (h1 : RdI W (.slice Au M.length cu) M) (h2 : RdI W (.slice Av C.length cv) C) => cpixI _ _ M C p W h1 h2
      rw [corA_yes Hok.out Hp.out] at HX
      obtain ⟨z, hz⟩ : ∃ z, z = corK M C p := ⟨_, rfl⟩
      rw [← hz] at HX
      have hzp : pixOk z := by rw [hz]; exact corK_ok Hok.out Hp.out
      have HP1 := fun (W : World) (h1 : RdI W (.slice Ax 9 cx) idM) (h2 : RdI W (.slice Ay 17 cy) idC) => cpixI _ _ idM idC p W h1 h2
      have HP2 := fun (W : World) (h1 : RdI W (.slice Ax 9 cx) idM) (h2 : RdI W (.slice Ay 17 cy) idC) => cpixI _ _ idM idC q W h1 h2
      rw [corA_yes id_ok Hp.out, id_cor] at HP1
      rw [corA_yes id_ok Hq.out, id_cor] at HP2
      have HOK := fun (W : World) (h1 : RdI W (.slice Ax 9 cx) idM) (h2 : RdI W (.slice Ay 17 cy) idC) => colI _ _ idM idC W h1 h2
      rw [colB_yes id_ok] at HOK
      have HC1 := fun (W : World) => chI_any z 0 W
      have HC2 := fun (W : World) => chI_any p 0 W
      rw [chan_0 hzp, hz, corK_alpha Hok.out, ← hz] at HC1
      rw [chan_0 Hp.out] at HC2
      obtain ⟨t, ht⟩ : ∃ t, t = p / 16777216 := ⟨_, rfl⟩
      rw [← ht] at HC1 HC2
      replace HCA := Lib.hid HCA
      replace HCB := Lib.hid HCB
      replace HX := Lib.hid HX
      replace HP1 := Lib.hid HP1
      replace HP2 := Lib.hid HP2
      replace HOK := Lib.hid HOK
      replace HC1 := Lib.hid HC1
      replace HC2 := Lib.hid HC2
      have hS := HS.out
      clear HS HR3 HA0 HA1 ha hb hca hcb hz ht hzp hab hb255
      obtain ⟨d0, d1⟩ := hS.m.cells
      go_wp2_with fail
      refine (HX.out _ hS.m.rm hS.m.rc).mono ?_
      rintro e wq ⟨rfl, hbq⟩
      replace hS := hS.call hbq
      clear d0 d1 hbq
      go_upto_region 11 with fail
      refine wp_region_held_drew (S := fun V => CiW w bm bi (.slice Au M.length cu) (.slice Av C.length cv) (.slice Ax 9 cx) (.slice Ay 17 cy) M C V) (by kernel_rfl) hS.drew (fun hS => ?_)
      refine wpAnyH_take (i := 0) (v := .agg #[.slice Ax 9 cx, .slice Ay 17 cy]) rfl (by kernel_rfl) (by kernel_rfl) (by kernel_rfl) (fun _ _ _ h => h) (Or.inl ⟨by kernel_rfl, by intro w' hSw; (try dsimp only at hSw); (obtain ⟨d0, d1⟩ := hSw.m.cells); (obtain ⟨e0, e1⟩ := hSw.i.cells); go_simp⟩) (by assumption) ?_
      (try simp only [Act.put]); (try simp only [List.setIfInBounds_toArray]); (try simp only [List.set_cons_zero, List.set_cons_succ])
      refine wpAnyH_ready (rs := [1]) (by kernel_rfl) (by simp) ?_
      refine (AllReadyH.cons rfl (fun K hK => ?_) AllReadyH.nil)
      · rw [if_pos (by kernel_rfl)]
        (try simp only [List.getElem_toArray]); (try simp only [List.getElem_cons_succ]); (try simp only [List.getElem_cons_zero])
        go_simp
        with_reducible refine (HOK.out _ hS.i.rm hS.i.rc).mono ?_
        rintro e W' ⟨rfl, hb⟩
        dsimp only
        refine hK.out _ _ (hS.call hb) (fun hS => ?_)
        clear hK
        (try simp only [Act.put]); (try simp only [List.setIfInBounds_toArray]); (try simp only [List.set_cons_zero, List.set_cons_succ])
        refine wpAnyH_take (i := 2) (v := .bool true) rfl (by kernel_rfl) (by kernel_rfl) (by kernel_rfl) (fun _ _ _ h => h) (Or.inl ⟨by kernel_rfl, by intro w' hSw; (try dsimp only at hSw); (obtain ⟨d0, d1⟩ := hSw.m.cells); (obtain ⟨e0, e1⟩ := hSw.i.cells); go_simp⟩) (by assumption) ?_
        refine wpAnyH_take (i := 3) (v := .agg #[.slice Ax 9 cx, .slice Ay 17 cy]) rfl (by kernel_rfl) (by kernel_rfl) (by kernel_rfl) (fun _ _ _ h => h) (Or.inl ⟨by kernel_rfl, by intro w' hSw; (try dsimp only at hSw); (obtain ⟨d0, d1⟩ := hSw.m.cells); (obtain ⟨e0, e1⟩ := hSw.i.cells); go_simp⟩) (by assumption) ?_
        refine wpAnyH_take (i := 4) (v := .int .i64 p) rfl (by kernel_rfl) (by kernel_rfl) (by kernel_rfl) (fun _ _ _ h => h) (Or.inl ⟨by kernel_rfl, by intro w' hSw; (try dsimp only at hSw); (obtain ⟨d0, d1⟩ := hSw.m.cells); (obtain ⟨e0, e1⟩ := hSw.i.cells); go_simp⟩) (by assumption) ?_
        refine wpAnyH_take (i := 6) (v := .int .i64 p) rfl (by kernel_rfl) (by kernel_rfl) (by kernel_rfl) (fun _ _ _ h => h) (Or.inl ⟨by kernel_rfl, by intro w' hSw; (try dsimp only at hSw); (obtain ⟨d0, d1⟩ := hSw.m.cells); (obtain ⟨e0, e1⟩ := hSw.i.cells); go_simp⟩) (by assumption) ?_
        (try simp only [Act.put]); (try simp only [List.setIfInBounds_toArray]); (try simp only [List.set_cons_zero, List.set_cons_succ])
        refine wpAnyH_ready (rs := [5]) (by kernel_rfl) (by simp) ?_
        refine (AllReadyH.cons rfl (fun K hK => ?_) AllReadyH.nil)
        · rw [if_pos (by kernel_rfl)]
          (try simp only [List.getElem_toArray]); (try simp only [List.getElem_cons_succ]); (try simp only [List.getElem_cons_zero])
          go_simp
          with_reducible refine (HP1.out _ hS.i.rm hS.i.rc).mono ?_
          rintro e W' ⟨rfl, hb⟩
          dsimp only
          refine hK.out _ _ (hS.call hb) (fun hS => ?_)
          clear hK
          (try simp only [Act.put]); (try simp only [List.setIfInBounds_toArray]); (try simp only [List.set_cons_zero, List.set_cons_succ])
          refine wpAnyH_take (i := 7) (v := .bool true) rfl (by kernel_rfl) (by kernel_rfl) (by kernel_rfl) (fun _ _ _ h => h) (Or.inl ⟨by kernel_rfl, by intro w' hSw; (try dsimp only at hSw); (obtain ⟨d0, d1⟩ := hSw.m.cells); (obtain ⟨e0, e1⟩ := hSw.i.cells); go_simp⟩) (by assumption) ?_
          refine wpAnyH_take (i := 8) (v := .bool true) rfl (by kernel_rfl) (by kernel_rfl) (by kernel_rfl) (fun _ _ _ h => h) (Or.inl ⟨by kernel_rfl, by intro w' hSw; (try dsimp only at hSw); (obtain ⟨d0, d1⟩ := hSw.m.cells); (obtain ⟨e0, e1⟩ := hSw.i.cells); go_simp⟩) (by assumption) ?_
          refine wpAnyH_take (i := 9) (v := .bool true) rfl (by kernel_rfl) (by kernel_rfl) (by kernel_rfl) (fun _ _ _ h => h) (Or.inl ⟨by kernel_rfl, by intro w' hSw; (try dsimp only at hSw); (obtain ⟨d0, d1⟩ := hSw.m.cells); (obtain ⟨e0, e1⟩ := hSw.i.cells); go_simp⟩) (by assumption) ?_
          refine wpAnyH_take (i := 10) (v := .agg #[.slice Ax 9 cx, .slice Ay 17 cy]) rfl (by kernel_rfl) (by kernel_rfl) (by kernel_rfl) (fun _ _ _ h => h) (Or.inl ⟨by kernel_rfl, by intro w' hSw; (try dsimp only at hSw); (obtain ⟨d0, d1⟩ := hSw.m.cells); (obtain ⟨e0, e1⟩ := hSw.i.cells); go_simp⟩) (by assumption) ?_
          refine wpAnyH_take (i := 11) (v := .int .i64 q) rfl (by kernel_rfl) (by kernel_rfl) (by kernel_rfl) (fun _ _ _ h => h) (Or.inl ⟨by kernel_rfl, by intro w' hSw; (try dsimp only at hSw); (obtain ⟨d0, d1⟩ := hSw.m.cells); (obtain ⟨e0, e1⟩ := hSw.i.cells); go_simp⟩) (by assumption) ?_
          refine wpAnyH_take (i := 13) (v := .int .i64 q) rfl (by kernel_rfl) (by kernel_rfl) (by kernel_rfl) (fun _ _ _ h => h) (Or.inl ⟨by kernel_rfl, by intro w' hSw; (try dsimp only at hSw); (obtain ⟨d0, d1⟩ := hSw.m.cells); (obtain ⟨e0, e1⟩ := hSw.i.cells); go_simp⟩) (by assumption) ?_
          (try simp only [Act.put]); (try simp only [List.setIfInBounds_toArray]); (try simp only [List.set_cons_zero, List.set_cons_succ])
          refine wpAnyH_ready (rs := [12]) (by kernel_rfl) (by simp) ?_
          refine (AllReadyH.cons rfl (fun K hK => ?_) AllReadyH.nil)
          · rw [if_pos (by kernel_rfl)]
            (try simp only [List.getElem_toArray]); (try simp only [List.getElem_cons_succ]); (try simp only [List.getElem_cons_zero])
            go_simp
            with_reducible refine (HP2.out _ hS.i.rm hS.i.rc).mono ?_
            rintro e W' ⟨rfl, hb⟩
            dsimp only
            refine hK.out _ _ (hS.call hb) (fun hS => ?_)
            clear hK
            (try simp only [Act.put]); (try simp only [List.setIfInBounds_toArray]); (try simp only [List.set_cons_zero, List.set_cons_succ])
            refine wpAnyH_take (i := 14) (v := .bool true) rfl (by kernel_rfl) (by kernel_rfl) (by kernel_rfl) (fun _ _ _ h => h) (Or.inl ⟨by kernel_rfl, by intro w' hSw; (try dsimp only at hSw); (obtain ⟨d0, d1⟩ := hSw.m.cells); (obtain ⟨e0, e1⟩ := hSw.i.cells); go_simp⟩) (by assumption) ?_
            refine wpAnyH_take (i := 15) (v := .bool true) rfl (by kernel_rfl) (by kernel_rfl) (by kernel_rfl) (fun _ _ _ h => h) (Or.inl ⟨by kernel_rfl, by intro w' hSw; (try dsimp only at hSw); (obtain ⟨d0, d1⟩ := hSw.m.cells); (obtain ⟨e0, e1⟩ := hSw.i.cells); go_simp⟩) (by assumption) ?_
            refine wpAnyH_take (i := 16) (v := .bool true) rfl (by kernel_rfl) (by kernel_rfl) (by kernel_rfl) (fun _ _ _ h => h) (Or.inl ⟨by kernel_rfl, by intro w' hSw; (try dsimp only at hSw); (obtain ⟨d0, d1⟩ := hSw.m.cells); (obtain ⟨e0, e1⟩ := hSw.i.cells); go_simp⟩) (by assumption) ?_
            refine wpAnyH_take (i := 17) (v := .agg #[.slice Au M.length cu, .slice Av C.length cv]) rfl (by kernel_rfl) (by kernel_rfl) (by kernel_rfl) (fun _ _ _ h => h) (Or.inl ⟨by kernel_rfl, by intro w' hSw; (try dsimp only at hSw); (obtain ⟨d0, d1⟩ := hSw.m.cells); (obtain ⟨e0, e1⟩ := hSw.i.cells); go_simp⟩) (by assumption) ?_
            refine wpAnyH_take (i := 18) (v := .int .i64 (a : Int)) rfl (by kernel_rfl) (by kernel_rfl) (by kernel_rfl) (fun _ _ _ h => h) (Or.inl ⟨by kernel_rfl, by intro w' hSw; (try dsimp only at hSw); (obtain ⟨d0, d1⟩ := hSw.m.cells); (obtain ⟨e0, e1⟩ := hSw.i.cells); go_simp⟩) (by assumption) ?_
            refine wpAnyH_take (i := 20) (v := .agg #[.slice Au M.length cu, .slice Av C.length cv]) rfl (by kernel_rfl) (by kernel_rfl) (by kernel_rfl) (fun _ _ _ h => h) (Or.inl ⟨by kernel_rfl, by intro w' hSw; (try dsimp only at hSw); (obtain ⟨d0, d1⟩ := hSw.m.cells); (obtain ⟨e0, e1⟩ := hSw.i.cells); go_simp⟩) (by assumption) ?_
            refine wpAnyH_take (i := 21) (v := .int .i64 (b : Int)) rfl (by kernel_rfl) (by kernel_rfl) (by kernel_rfl) (fun _ _ _ h => h) (Or.inl ⟨by kernel_rfl, by intro w' hSw; (try dsimp only at hSw); (obtain ⟨d0, d1⟩ := hSw.m.cells); (obtain ⟨e0, e1⟩ := hSw.i.cells); go_simp⟩) (by assumption) ?_
            (try simp only [Act.put]); (try simp only [List.setIfInBounds_toArray]); (try simp only [List.set_cons_zero, List.set_cons_succ])
            refine wpAnyH_ready (rs := [19]) (by kernel_rfl) (by simp) ?_
            refine (AllReadyH.cons rfl (fun K hK => ?_) AllReadyH.nil)
            · rw [if_pos (by kernel_rfl)]
              (try simp only [List.getElem_toArray]); (try simp only [List.getElem_cons_succ]); (try simp only [List.getElem_cons_zero])
              go_simp
              with_reducible refine (HCA.out _ hS.m.rm hS.m.rc).mono ?_
              rintro e W' ⟨rfl, hb⟩
              dsimp only
              refine hK.out _ _ (hS.call hb) (fun hS => ?_)
              clear hK
              (try simp only [Act.put]); (try simp only [List.setIfInBounds_toArray]); (try simp only [List.set_cons_zero, List.set_cons_succ])
              refine wpAnyH_ready (rs := [22]) (by kernel_rfl) (by simp) ?_
              refine (AllReadyH.cons rfl (fun K hK => ?_) AllReadyH.nil)
              · rw [if_pos (by kernel_rfl)]
                (try simp only [List.getElem_toArray]); (try simp only [List.getElem_cons_succ]); (try simp only [List.getElem_cons_zero])
                go_simp
                with_reducible refine (HCB.out _ hS.m.rm hS.m.rc).mono ?_
                rintro e W' ⟨rfl, hb⟩
                dsimp only
                refine hK.out _ _ (hS.call hb) (fun hS => ?_)
                clear hK
                (try simp only [Act.put]); (try simp only [List.setIfInBounds_toArray]); (try simp only [List.set_cons_zero, List.set_cons_succ])
                refine wpAnyH_take (i := 23) (v := .bool true) rfl (by kernel_rfl) (by kernel_rfl) (by kernel_rfl) (fun _ _ _ h => h) (Or.inl ⟨by kernel_rfl, by intro w' hSw; (try dsimp only at hSw); (obtain ⟨d0, d1⟩ := hSw.m.cells); (obtain ⟨e0, e1⟩ := hSw.i.cells); go_simp⟩) (by assumption) ?_
                refine wpAnyH_take (i := 24) (v := .bool true) rfl (by kernel_rfl) (by kernel_rfl) (by kernel_rfl) (fun _ _ _ h => h) (Or.inl ⟨by kernel_rfl, by intro w' hSw; (try dsimp only at hSw); (obtain ⟨d0, d1⟩ := hSw.m.cells); (obtain ⟨e0, e1⟩ := hSw.i.cells); go_simp⟩) (by assumption) ?_
                refine wpAnyH_take (i := 25) (v := .bool true) rfl (by kernel_rfl) (by kernel_rfl) (by kernel_rfl) (fun _ _ _ h => h) (Or.inl ⟨by kernel_rfl, by intro w' hSw; (try dsimp only at hSw); (obtain ⟨d0, d1⟩ := hSw.m.cells); (obtain ⟨e0, e1⟩ := hSw.i.cells); go_simp⟩) (by assumption) ?_
                refine wpAnyH_take (i := 26) (v := .int .i64 z) rfl (by kernel_rfl) (by kernel_rfl) (by kernel_rfl) (fun _ _ _ h => h) (Or.inl ⟨by kernel_rfl, by intro w' hSw; (try dsimp only at hSw); (obtain ⟨d0, d1⟩ := hSw.m.cells); (obtain ⟨e0, e1⟩ := hSw.i.cells); go_simp⟩) (by assumption) ?_
                refine wpAnyH_take (i := 28) (v := .int .i64 p) rfl (by kernel_rfl) (by kernel_rfl) (by kernel_rfl) (fun _ _ _ h => h) (Or.inl ⟨by kernel_rfl, by intro w' hSw; (try dsimp only at hSw); (obtain ⟨d0, d1⟩ := hSw.m.cells); (obtain ⟨e0, e1⟩ := hSw.i.cells); go_simp⟩) (by assumption) ?_
                (try simp only [Act.put]); (try simp only [List.setIfInBounds_toArray]); (try simp only [List.set_cons_zero, List.set_cons_succ])
                refine wpAnyH_ready (rs := [27]) (by kernel_rfl) (by simp) ?_
                refine (AllReadyH.cons rfl (fun K hK => ?_) AllReadyH.nil)
                · rw [if_pos (by kernel_rfl)]
                  (try simp only [List.getElem_toArray]); (try simp only [List.getElem_cons_succ]); (try simp only [List.getElem_cons_zero])
                  go_simp
                  with_reducible refine (HC1.out _).mono ?_
                  rintro e W' ⟨rfl, hb⟩
                  dsimp only
                  refine hK.out _ _ (hS.call hb) (fun hS => ?_)
                  clear hK
                  (try simp only [Act.put]); (try simp only [List.setIfInBounds_toArray]); (try simp only [List.set_cons_zero, List.set_cons_succ])
                  refine wpAnyH_ready (rs := [29]) (by kernel_rfl) (by simp) ?_
                  refine (AllReadyH.cons rfl (fun K hK => ?_) AllReadyH.nil)
                  · rw [if_pos (by kernel_rfl)]
                    (try simp only [List.getElem_toArray]); (try simp only [List.getElem_cons_succ]); (try simp only [List.getElem_cons_zero])
                    go_simp
                    with_reducible refine (HC2.out _).mono ?_
                    rintro e W' ⟨rfl, hb⟩
                    dsimp only
                    refine hK.out _ _ (hS.call hb) (fun hS => ?_)
                    clear hK
                    (try simp only [Act.put]); (try simp only [List.setIfInBounds_toArray]); (try simp only [List.set_cons_zero, List.set_cons_succ])
                    refine wpAnyH_take (i := 30) (v := .bool true) rfl (by kernel_rfl) (by kernel_rfl) (by kernel_rfl) (fun _ _ _ h => h) (Or.inl ⟨by kernel_rfl, by intro w' hSw; (try dsimp only at hSw); (obtain ⟨d0, d1⟩ := hSw.m.cells); (obtain ⟨e0, e1⟩ := hSw.i.cells); go_simp⟩) (by assumption) ?_
                    refine wpAnyH_take (i := 31) (v := .bool true) rfl (by kernel_rfl) (by kernel_rfl) (by kernel_rfl) (fun _ _ _ h => h) (Or.inl ⟨by kernel_rfl, by intro w' hSw; (try dsimp only at hSw); (obtain ⟨d0, d1⟩ := hSw.m.cells); (obtain ⟨e0, e1⟩ := hSw.i.cells); go_simp⟩) (by assumption) ?_
                    refine wpAnyH_take (i := 32) (v := .bool true) rfl (by kernel_rfl) (by kernel_rfl) (by kernel_rfl) (fun _ _ _ h => h) (Or.inl ⟨by kernel_rfl, by intro w' hSw; (try dsimp only at hSw); (obtain ⟨d0, d1⟩ := hSw.m.cells); (obtain ⟨e0, e1⟩ := hSw.i.cells); go_simp⟩) (by assumption) ?_
                    refine wpAnyH_done (by kernel_rfl) ?_ _
                    have HSS := Lib.hid hS
                    clear hS
                    go_wp2_with fail
                    go_ret
                    exact ⟨rfl, HSS.out.bw⟩
  · have hno : 1048576 < len := by omega
    have Hno := Lib.hid hno
    clear hbig hno
    go_enter Try.func3, Try.ntmps3
    go_wp2_with fail
    refine (big_yes _ _ _ _ Hno.out).mono ?_
    rintro e w1 ⟨rfl, rfl⟩
    go_wp2_with fail
    go_ret
    exact ⟨rfl, Below.refl _ _⟩
end Go.Proofs.Ytfehdcenmncbpaa
