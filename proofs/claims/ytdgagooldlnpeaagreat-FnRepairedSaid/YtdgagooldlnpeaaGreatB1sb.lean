/- Texts of mine in one file: OrdI, OrdA, SclB, SclI, SclL, CmI. No statement is proved here. -/
import Derived.Test.YtdgagooldlnpeaaGreatMA
import Derived.Test.YtdgagooldlnpeaaGreatMB
import Derived.Test.YtdgagooldlnpeaaGreatCpyI
import Derived.Test.YtdgagooldlnpeaaGreatB1sa
import Derived.Test.YtdgagooldlnpeaaGreatMC
import Derived.Test.YtdgagooldlnpeaaGreatProg
import Derived.WalkKit
import Derived.ProofKit
import Derived.OpenShut
import Derived.WalkLawsBesides
import Derived.WalkSpells
import Derived.ShutString
import Derived.ChangeOld
import Derived.Below
import Derived.Lib.Hide
import Derived.Deep.MidRow
import Derived.Deep.WholeRow
import Derived.Maps.AppendAt
import Derived.BigQuiet
import Derived.Deep.QuietTactic
import Derived.Deep.OwnRows
import Derived.Handy
import Derived.Deep.Draws
import Derived.OwnWalk
import Derived.Deep.AppendLies
import Derived.Deep.LoopGhost
import Derived.Deep.Onto
import Derived.Laws.BitsAllLaws
import Derived.Lib.QuoteBits
import Derived.Deep.RegionHeld3
import Derived.Deep.DeepCutAuto
import Derived.Test.YtdgagooldlnpeaaGreatShelf
import Derived.Laws.CopyOwn
import Derived.Deep.RegionLaw
import Derived.Great.BuildSlice
import Derived.Laws.AppendOwn
import Derived.ChangeKeysEq
namespace Go.Proofs.YtdgagooldlnpeaaGreat
open Go.RowKit
structure OrI (w : World) (W H gi n c P Q i j : Nat) (L : List Int) (bp gq : Nat) (V : World) : Prop where
 a : ImAt V w.heap.size 55 W H (.slice (some ⟨gi, 0, none⟩) n c)
 p : BkAt V bp 229 #[.int .i64 P, .int .i64 Q, .int .i64 i, .int .i64 j]
 rd : RdI V (.slice (some ⟨gi, 0, none⟩) n c) L
theorem OrI.drew {w : World} {W H gi n c P Q i j : Nat} {L : List Int} {bp gq : Nat} {V : World} (h : OrI w W H gi n c P Q i j L bp gq V) : OrI w W H gi n c P Q i j L bp gq V.drew := ⟨h.a, h.p, h.rd.drew⟩
theorem OrI.call {w : World} {W H gi n c P Q i j : Nat} {L : List Int} {bp gq : Nat} {V V' : World} (h : OrI w W H gi n c P Q i j L bp gq V) (hb : Below V.heap.size V V') : OrI w W H gi n c P Q i j L bp gq V' := ⟨h.a.call hb, h.p.call hb, h.rd.call hb⟩
theorem OrI.set {w : World} {W H gi n c P Q i j : Nat} {L : List Int} {bp gq : Nat} {V V' : World} (h : OrI w W H gi n c P Q i j L bp gq V) (hn : w.heap.size ≠ gq ∧ bp ≠ gq ∧ gi ≠ gq) (hg : V.grownBy V' (some gq)) : OrI w W H gi n c P Q i j L bp gq V' :=
 ⟨h.a.grown hg (fun e => hn.1 (Option.some.inj e)), h.p.grown hg (fun e => hn.2.1 (Option.some.inj e)), h.rd.grown hg (fun g hg e => hn.2.2 (by injection hg with hg; injection e with e; exact hg.trans e))⟩
set_option maxHeartbeats 2000000 in
set_option maxRecDepth 10000 in
theorem ordI_ok (W H : Nat) (v : Value) (L : List Int) (o : Int) (w : World) (h1 : imOk W H L) (ho : orOk o) (hv : RdI w v L) :
  Calls Tryz.prog 209 #[.agg #[.int .i64 W, .int .i64 H, v], .int .i64 o] w (AnsIm (orIm W H L o) w) := by
 have HA := Lib.hid (orIm_yes h1 ho)
 obtain ⟨W2, H2, e1, e2, wl, wh, hl, hh, hL⟩ := im_nat h1
 obtain rfl : W = W2 := by exact_mod_cast e1
 obtain rfl : H = H2 := by exact_mod_cast e2
 have hsm : 1 ≤ W ∧ W ≤ 16 ∧ 1 ≤ H ∧ H ≤ 16 := ⟨wl, wh, hl, hh⟩
 have hor := or_small o hsm
 have har := or_area W H o
 have SZ := fun W0 => osI W H o W0
 unfold TwoAns at SZ
 rw [os_yes (by unfold szOk; omega) ho, orW_nat, orH_nat] at SZ
 dsimp only at SZ
 obtain ⟨P, hP⟩ : ∃ P, P = orWn W H o := ⟨_, rfl⟩
 obtain ⟨Q, hQ⟩ : ∃ Q, Q = orHn W H o := ⟨_, rfl⟩
 obtain ⟨n, hn⟩ : ∃ n, n = W * H := ⟨_, rfl⟩
 rw [← hP, ← hQ] at hor har SZ
 rw [← hn] at har hL
 have n2 : n ≤ 256 := by rw [hn]; exact mul_256 wh hh
 have n1 : 1 ≤ n := by rw [hn]; exact Nat.mul_pos wl hl
 have e0 : (P : Int) * (Q : Int) = (n : Int) := by rw [← har]; simp
 obtain ⟨P1, P2, Q1, Q2⟩ := hor
 obtain ⟨A, c, rfl⟩ := hv.form
 rw [hL] at hv ⊢
 obtain ⟨gi, z0, hA, _, hc0⟩ := hv.at_ (k := 0) (by omega)
 have hgi : gi < w.heap.size := World.block_lt_of_cell? w _ hc0
 subst hA
 have hS : OrA w W H (.slice (some ⟨gi, 0, none⟩) n c) L ((w.alloc (.cells #[.int .i64 W, .int .i64 H, .slice (some ⟨gi, 0, none⟩) n c] 55)).alloc (.cells #[.int .i64 0, .int .i64 0, .slice none 0 0] 55)) :=
  ⟨(ImAt.new _ _ _ _ _).alloc _, ImAt.newAt (by simp) _ _ _ _, (hv.alloc _).alloc _, belI_call (belI_box _ _) (belI_box _ _)⟩
 have HZ := Lib.hid SZ
 have HP := Lib.hid hP
 have HQ := Lib.hid hQ
 have HL := Lib.hid hL
 have HM := Lib.hid hn
 have Ho := Lib.hid ho
 have Hi := Lib.hid h1
 have HG := Lib.hid hgi
 obtain ⟨o1, o2⟩ := ho
 clear SZ hP hQ hL hn h1 hv hc0 har hgi
 obtain ⟨a0, a1, a2⟩ := hS.a.cells
 go_enter Tryz.func209, Tryz.ntmps209
 go_wp2_with fail
 refine (imI W H _ L _ hS.rd).mono ?_
 rintro e w2 ⟨rfl, hb⟩
 replace hS := hS.call hb
 clear hb a0 a1 a2
 rw [imB_yes Hi.out]
 go_wp2_with fail
 refine (isOrI_yes o Ho.out _).mono ?_
 rintro e w' ⟨rfl, rfl⟩
 obtain ⟨a0, a1, a2⟩ := hS.a.cells
 go_wp2_with fail
 refine (HZ.out _).mono ?_
 rintro e w3 ⟨rfl, hb⟩
 replace hS := hS.call hb
 clear hb a0 a1 a2
 have hmk := fun W0 => run_make_row' (P := Tryz.prog) 53 3 (.int .i64 0) 8 Tryz.underlying53 infoInt rfl .i64 .i64 n (by omega) (by omega) W0
 obtain ⟨gq, hgq⟩ : ∃ g, g = w3.heap.size := ⟨_, rfl⟩
 have hown : (w3.alloc (.cells (madeCells #[.int .i64 0] n) 3)).ownsRow gq 3 1 (.slice (some ⟨gq, 0, none⟩) n n) n (intCells (tabI n (orF W H L o 0))) := by
  subst hgq
  exact own_of_rowIs (World.rowIs_made _ _ _ _) (Nat.le_refl _) (by unfold maxLen; omega) (tabI_length _ _) (fun j x hx => by
   have hj : j < n := by have := (List.getElem?_eq_some_iff.1 hx).1; rwa [tabI_length] at this
   rw [tabI_get n _ j hj] at hx
   injection hx with hx
   rw [← hx]; unfold orF; rw [if_neg (by omega)])
 obtain ⟨V0, hV0⟩ : ∃ V, V = w3.alloc (.cells (madeCells #[.int .i64 0] n) 3) := ⟨_, rfl⟩
 have hsz := hS.r.lt
 have HB := Lib.hid (show w.heap.size ≠ gq ∧ gq < V0.heap.size ∧ gi ≠ gq ∧ w.heap.size + 1 < gq from by have := HG.out; have h9 : V0.heap.size = w3.heap.size + 1 := (by rw [hV0]; simp); omega)
 have HV := Lib.hid hV0
 have Hq := Lib.hid hgq
 replace hS := hS.call (belI_box w3 (.cells (madeCells #[.int .i64 0] n) 3))
 rw [← hV0] at hown hS
 have Hown := Lib.hid hown
 have HS := Lib.hid hS
 have Hgr : Hid (V0.grownBy V0 (some gq)) := Lib.hid (World.grownBy.refl _ _)
 obtain ⟨a0, a1, a2⟩ := hS.a.cells
 rw [hV0] at a0 a1 a2
 clear hV0 hgq hown hS hsz
 go_wp2_with fail
 rw [← HV.out, ← Hq.out]
 clear hmk a0 a1 a2
 go_loopg [35] H (fun g8 s8 wr => ∃ (y : Nat) (V : World), V = wr ∧ y ≤ H ∧ g8 = H - y ∧ s8 = .int .i64 y ∧ Hid (V.ownsRow gq 3 1 (.slice (some ⟨gq, 0, none⟩) n n) n (intCells (tabI n (orF W H L o (y * W + 0))))) ∧ Hid (V0.grownBy V (some gq)))
 case atStart => exact ⟨0, _, rfl, Nat.zero_le _, by omega, rfl, by rw [Nat.zero_mul]; exact Hown, Hgr⟩
 case round =>
  clear Hown Hgr
  obtain ⟨y, wy, hV, hy2, rfl, rfl, Hown, Hgr⟩ := hrel
  subst hV
  obtain ⟨a0, a1, a2⟩ := (HS.out.a.grown Hgr.out (fun e => HB.out.1 (Option.some.inj e))).cells
  by_cases hyl : y < H
  ·have hyi : (y : Int) < (H : Int) := by omega
   go_wp2_with fail
   go_loopg [40] W (fun g9 s9 wz => ∃ (x : Nat) (V : World), V = wz ∧ x ≤ W ∧ g9 = W - x ∧ s9 = .int .i64 x ∧ Hid (V.ownsRow gq 3 1 (.slice (some ⟨gq, 0, none⟩) n n) n (intCells (tabI n (orF W H L o (y * W + x))))) ∧ Hid (V0.grownBy V (some gq)))
   case atStart => exact ⟨0, _, rfl, Nat.zero_le _, by omega, rfl, Hown, Hgr⟩
   case round =>
    clear Hown Hgr a0 a1 a2
    obtain ⟨x, wx, hV, hx2, rfl, rfl, Hown, Hgr⟩ := hrel
    subst hV
    obtain ⟨a0, a1, a2⟩ := (HS.out.a.grown Hgr.out (fun e => HB.out.1 (Option.some.inj e))).cells
    by_cases hxl : x < W
    ·have hxi : (x : Int) < (W : Int) := by omega
     obtain ⟨a, b, e, ha, hb⟩ := or_pt (x := x) (y := y) ⟨wl, wh, hl, hh⟩ Ho.out hxl hyl
     have R := fun W0 => orPt_any (ptN W H x y) o Ho.out (ptN_ok ⟨wl, wh, hl, hh⟩ hxl hyl) W0
     have hpl := plc_is e
     unfold PpAns at R
     rw [e, ← HP.out, ← HQ.out] at R
     dsimp only [ptN] at R
     rw [← HP.out] at ha
     rw [← HQ.out] at hb
     have HR := Lib.hid R
     have HE := Lib.hid hpl
     clear R e hpl
     go_wp2_with fail
     refine (HR.out _).mono ?_
     rintro e wu ⟨rfl, hbv⟩
     obtain ⟨bp, hbp⟩ : ∃ b, b = wu.heap.size := ⟨_, rfl⟩
     obtain ⟨wv, hwv⟩ : ∃ V, V = wu.alloc (.cells #[.int .i64 P, .int .i64 Q, .int .i64 a, .int .i64 b] 229) := ⟨_, rfl⟩
     have hpt : BkAt wv bp 229 #[.int .i64 P, .int .i64 Q, .int .i64 a, .int .i64 b] := by rw [hwv]; exact BkAt.newAt hbp.symm _ _
     have hbp2 : bp ≠ gq := by have := hbv.size; have := Hgr.out.size; have := HB.out.2.1; omega
     have hbw : Below wx.heap.size wx wv := by rw [hwv]; exact belI_call hbv (belI_box _ _)
     have hOw := ownI_call Hown.out hbw
     have Hgr2 := Lib.hid (grown_below Hgr.out hbw)
     obtain ⟨m, hm⟩ : ∃ m, m = y * W := ⟨_, rfl⟩
     obtain ⟨mb, hmb⟩ : ∃ m, m = b * P := ⟨_, rfl⟩
     have l1 : m + x < n := by rw [hm, HM.out]; exact plc_lt hxl hyl
     have l2 : mb + a < n := by rw [hmb, HM.out, ← or_area W H o, ← HP.out, ← HQ.out]; exact plc_lt ha hb
     have hrd := HS.out.rd.grown Hgr2.out (fun g hg e => HB.out.2.2.1 (by injection hg with hg; injection e with e; exact hg.trans e))
     obtain ⟨z, hz⟩ : ∃ z, L.getD (m + x) 0 = z := ⟨_, rfl⟩
     have HM3 := Lib.hid hz
     have HX : Hid (∀ (V : World), RdI V (.slice (some ⟨gi, 0, none⟩) n c) L → Calls Tryz.prog 83 #[.agg #[.int .i64 W, .int .i64 H, .slice (some ⟨gi, 0, none⟩) n c], .int .i64 (x : Int), .int .i64 (y : Int)] V fun e w' => e = .returned (.int .i64 z) ∧ Below V.heap.size V w') := Lib.hid (fun V h => by
      have h2 := pixelI W H x y _ L V Hi.out (by omega) (by omega) h
      rw [show ((y : Int) * (W : Int) + (x : Int)).toNat = m + x by rw [hm]; exact_mod_cast Int.toNat_natCast (y * W + x), hz] at h2
      exact h2)
     have HM2 : Hid ((m = y * W ∧ mb = b * P) ∧ plcN W H o x y = b * orWn W H o + a) := Lib.hid ⟨⟨hm, hmb⟩, HE.out⟩
     have q2 : IntKind.i64.wrap ((b : Int) * (P : Int)) = (mb : Int) := by rw [hmb, wrap_in _ (by omega) (by omega)]; simp
     have q4 := wrap_in ((mb : Int) + (a : Int)) (by omega) (by omega)
     have t2 : ((mb : Int) + (a : Int)).toNat = mb + a := by omega
     have u2 : (mb : Int) + (a : Int) < (n : Int) := by omega
     have v2 : (0 : Int) ≤ (mb : Int) + (a : Int) := by omega
     have hT : OrI w W H gi n c P Q a b L bp gq wv := ⟨HS.out.a.grown Hgr2.out (fun e => HB.out.1 (Option.some.inj e)), hpt, hrd⟩
     have hsep : w.heap.size ≠ gq ∧ bp ≠ gq ∧ gi ≠ gq := ⟨HB.out.1, hbp2, HB.out.2.2.1⟩
     clear hbv hm hmb hz a0 a1 a2 hpt hbp2 hbw hrd
     go_upto_region 12 with fail
     rw [← hwv, ← hbp]
     clear hwv hbp
     refine wp_region_held_drew (S := fun V => OrI w W H gi n c P Q a b L bp gq V) (by kernel_rfl) hT.drew (fun hS => ?_)
     replace hOw := show World.ownsRow wv.drew _ _ _ _ _ _ from hOw
     have hGr := show World.grownBy V0 wv.drew _ from Hgr2.out.trans (grown_dr _ _)
     refine tcH (i := 0) (v := .slice (some ⟨gq, 0, none⟩) n n) rfl (by intro w' hSw; (try dsimp only at hSw); (obtain ⟨a0, a1, a2⟩ := hSw.a.cells); (obtain ⟨p0, p1, p2, p3⟩ := hSw.p.cells4); go_simp) ?_
     refine tcH (i := 1) (v := .pointer (some ⟨bp, 3, none⟩)) rfl (by intro w' hSw; (try dsimp only at hSw); (obtain ⟨a0, a1, a2⟩ := hSw.a.cells); (obtain ⟨p0, p1, p2, p3⟩ := hSw.p.cells4); go_simp) ?_
     refine tcH (i := 2) (v := .int .i64 (b : Int)) rfl (by intro w' hSw; (try dsimp only at hSw); (obtain ⟨a0, a1, a2⟩ := hSw.a.cells); (obtain ⟨p0, p1, p2, p3⟩ := hSw.p.cells4); go_simp) ?_
     refine tcH (i := 3) (v := .int .i64 (P : Int)) rfl (by intro w' hSw; (try dsimp only at hSw); (obtain ⟨a0, a1, a2⟩ := hSw.a.cells); (obtain ⟨p0, p1, p2, p3⟩ := hSw.p.cells4); go_simp) ?_
     refine tcH (i := 4) (v := .int .i64 (mb : Int)) rfl (by intro w' hSw; (try dsimp only at hSw); (obtain ⟨a0, a1, a2⟩ := hSw.a.cells); (obtain ⟨p0, p1, p2, p3⟩ := hSw.p.cells4); go_simp) ?_
     refine tcH (i := 5) (v := .pointer (some ⟨bp, 2, none⟩)) rfl (by intro w' hSw; (try dsimp only at hSw); (obtain ⟨a0, a1, a2⟩ := hSw.a.cells); (obtain ⟨p0, p1, p2, p3⟩ := hSw.p.cells4); go_simp) ?_
     refine tcH (i := 6) (v := .int .i64 (a : Int)) rfl (by intro w' hSw; (try dsimp only at hSw); (obtain ⟨a0, a1, a2⟩ := hSw.a.cells); (obtain ⟨p0, p1, p2, p3⟩ := hSw.p.cells4); go_simp) ?_
     refine tcH (i := 7) (v := .int .i64 ((mb : Int) + (a : Int))) rfl (by intro w' hSw; (try dsimp only at hSw); (obtain ⟨a0, a1, a2⟩ := hSw.a.cells); (obtain ⟨p0, p1, p2, p3⟩ := hSw.p.cells4); go_simp) ?_
     refine tcH (i := 8) (v := .agg #[.int .i64 W, .int .i64 H, .slice (some ⟨gi, 0, none⟩) n c]) rfl (by intro w' hSw; (try dsimp only at hSw); (obtain ⟨a0, a1, a2⟩ := hSw.a.cells); (obtain ⟨p0, p1, p2, p3⟩ := hSw.p.cells4); go_simp) ?_
     refine tcH (i := 9) (v := .int .i64 (x : Int)) rfl (by intro w' hSw; (try dsimp only at hSw); (obtain ⟨a0, a1, a2⟩ := hSw.a.cells); (obtain ⟨p0, p1, p2, p3⟩ := hSw.p.cells4); go_simp) ?_
     refine tcH (i := 10) (v := .int .i64 (y : Int)) rfl (by intro w' hSw; (try dsimp only at hSw); (obtain ⟨a0, a1, a2⟩ := hSw.a.cells); (obtain ⟨p0, p1, p2, p3⟩ := hSw.p.cells4); go_simp) ?_
     (try simp only [Act.put]); (try simp only [zPa]); (try simp only [zPb, zPc])
     refine wpAnyH_ready (rs := [11]) (by kernel_rfl) (by simp) ?_
     refine (AllReadyH.cons rfl (fun K hK => ?_) AllReadyH.nil)
     ·rw [if_pos (by kernel_rfl)]
      (try simp only [zGa]); (try simp only [zGb]); (try simp only [zGc])
      go_simp
      with_reducible refine (HX.out _ hS.rd).mono ?_
      rintro e W' ⟨rfl, hb⟩
      dsimp only
      have cS := (own_at_put (ownI_call hOw hb) (j := mb + a) (by omega) (tabI_length _ _)).1
      have fS := (own_at_put (ownI_call hOw hb) (j := mb + a) (by omega) (tabI_length _ _)).2
      have hOw := ownI_call hOw hb
      have hGr := grown_below hGr hb
      refine hK.out _ _ (hS.call hb) (fun hS => ?_)
      clear hK
      (try simp only [Act.put]); (try simp only [zPa]); (try simp only [zPb, zPc])
      refine tcH (i := 12) (v := .pointer (some ⟨gq, mb + a, none⟩)) rfl (by intro w' hSw; (try dsimp only at hSw); (obtain ⟨a0, a1, a2⟩ := hSw.a.cells); (obtain ⟨p0, p1, p2, p3⟩ := hSw.p.cells4); go_simp) ?_
      (try simp only [Act.put]); (try simp only [zPa]); (try simp only [zPb, zPc])
      refine wpAnyH_ready (rs := [13]) (by kernel_rfl) (by simp) ?_
      refine (AllReadyH.cons rfl (fun K hK => ?_) AllReadyH.nil)
      ·rw [if_pos (by kernel_rfl)]
       (try simp only [zGa]); (try simp only [zGb]); (try simp only [zGc])
       go_simp
       skip
       skip
       refine hK.out _ _ (hS.set hsep (grown_setI _ gq (mb + a) _)) (fun hS => ?_)
       clear hK
       (try simp only [Act.put]); (try simp only [zPa]); (try simp only [zPb, zPc])
       refine wpAnyH_done (by kernel_rfl) ?_ _
       go_wp2_with fail
       go_roundg (W - (x + 1))
       case measure => omega
       case rel =>
        have h := (ownI_put hOw (mb + a) z).1
        have hset : (tabI n (orF W H L o (y * W + x))).set (mb + a) z = tabI n (orF W H L o (y * W + (x + 1))) := by
         rw [show mb + a = plcN W H o x y by rw [HM2.out.2, ← HP.out, HM2.out.1.2], HM.out]
         exact orF_set ⟨wl, wh, hl, hh⟩ Ho.out hxl hyl (by rw [← HM2.out.1.1]; exact HM3.out)
        rw [hset] at h
        exact ⟨x + 1, _, rfl, by omega, by omega, by go_num, Lib.hid h, Lib.hid (hGr.trans (grown_setI _ gq (mb + a) _))⟩
    ·obtain rfl : x = W := by omega
     go_wp2_with fail
     go_roundg (H - (y + 1))
     case measure => omega
     case rel => exact ⟨y + 1, _, rfl, by omega, by omega, by go_num, by rw [Nat.add_mul, Nat.one_mul]; exact Hown, Hgr⟩
  ·obtain rfl : y = H := by omega
   have hr := HS.out.r.grown Hgr.out (fun e => by have := HB.out.2.2.2; injection e with e; omega)
   have f0 := hr.frozen 0
   have f1 := hr.frozen 1
   have f2 := hr.frozen 2
   obtain ⟨r0, r1, r2⟩ := hr.cells
   have HJ := Lib.hid (hr.set3 P Q (.slice (some ⟨gq, 0, none⟩) n n))
   have HK := Lib.hid (HS.out.bw.grown Hgr.out HS.out.bw.size (fun k hk => by injection hk with hk; have := HB.out.2.2.2; omega))
   clear hr
   go_wp2_with fail
   obtain ⟨s0, s1, s2⟩ := HJ.out.cells
   exact bodyPost_ret (v := .agg #[.int .i64 P, .int .i64 Q, .slice (some ⟨gq, 0, none⟩) n n]) (by simp [results, Tryz.results209, go_sem, s0, s1, s2]) rfl (by
    rw [HA.out, ← HP.out, ← HQ.out]
    have h := Hown.out
    rw [Nat.add_zero, HM.out, orF_end ⟨wl, wh, hl, hh⟩ Ho.out, ← HM.out] at h
    exact ans_set h (by rw [orL_length, HM.out]) (by omega) HB.out.2.2.2 HK.out)
end Go.Proofs.YtdgagooldlnpeaaGreat
namespace Go.Proofs.YtdgagooldlnpeaaGreat
open Go.RowKit
theorem OrA.born (w : World) (X Y : Int) {v : Value} {L : List Int} (hv : RdI w v L) : OrA w X Y v L ((w.alloc (.cells #[.int .i64 X, .int .i64 Y, v] 55)).alloc (.cells #[.int .i64 0, .int .i64 0, .slice none 0 0] 55)) :=
 ⟨(ImAt.new _ _ _ _ _).alloc _, ImAt.newAt (by simp) _ _ _ _, (hv.alloc _).alloc _, belI_call (belI_box _ _) (belI_box _ _)⟩
theorem or_zero {w W : World} {X Y : Int} {v : Value} {L : List Int} (h : OrA w X Y v L W) : AnsIm zeroIm w (.returned (.agg #[.int .i64 0, .int .i64 0, .slice none 0 0])) (((W.setCell ⟨w.heap.size + 1, 0, none⟩ (.int .i64 0)).setCell ⟨w.heap.size + 1, 1, none⟩ (.int .i64 0)).setCell ⟨w.heap.size + 1, 2, none⟩ (.slice none 0 0)) :=
 zeroIm_ans (((h.bw.setCell (by simp) _).setCell (by simp) _).setCell (by simp) _)
set_option maxHeartbeats 600000 in
theorem ordS_bad1 (X Y : Int) (v : Value) (L : List Int) (o : Int) (w : World) (hv : RdI w v L) (h1 : ¬ imOk X Y L) :
  Calls Tryz.prog 174 #[.agg #[.int .i64 X, .int .i64 Y, v], .int .i64 o] w (AnsIm (orIm X Y L o) w) := by
 have HA := Lib.hid (orIm_no (o := o) fun h => h1 h.1)
 have hS := OrA.born w X Y hv
 have H1 := Lib.hid h1
 obtain ⟨A, c, rfl⟩ := hv.form
 clear hv h1
 obtain ⟨a0, a1, a2⟩ := hS.a.cells
 go_enter Tryz.func174, Tryz.ntmps174
 go_wp2_with fail
 refine (imS X Y _ L _ hS.rd).mono ?_
 rintro e w2 ⟨rfl, hb⟩
 replace hS := hS.call hb
 clear hb a0 a1 a2
 rw [imB_no H1.out]
 have hr := hS.r
 obtain ⟨r0, r1, r2⟩ := hr.cells
 have f0 := hr.frozen 0
 have f1 := hr.frozen 1
 have f2 := hr.frozen 2
 have HJ := Lib.hid (hr.set3 0 0 (.slice none 0 0))
 have HS := Lib.hid hS
 clear hr hS
 go_wp2_with fail
 obtain ⟨s0, s1, s2⟩ := HJ.out.cells
 exact bodyPost_ret (v := .agg #[.int .i64 0, .int .i64 0, .slice none 0 0]) (by simp [results, Tryz.results174, go_sem, s0, s1, s2]) rfl (by rw [HA.out]; exact or_zero HS.out)
set_option maxHeartbeats 600000 in
theorem ordS_bad2 (X Y : Int) (v : Value) (L : List Int) (o : Int) (w : World) (hv : RdI w v L) (h1 : imOk X Y L) (ho : ¬ orOk o) :
  Calls Tryz.prog 174 #[.agg #[.int .i64 X, .int .i64 Y, v], .int .i64 o] w (AnsIm (orIm X Y L o) w) := by
 have HA := Lib.hid (orIm_no (X := X) (Y := Y) (L := L) fun h => ho h.2)
 have hS := OrA.born w X Y hv
 have H1 := Lib.hid h1
 have Ho := Lib.hid ho
 have H7 := Lib.hid (or_no ho)
 obtain ⟨A, c, rfl⟩ := hv.form
 clear hv h1 ho
 obtain ⟨a0, a1, a2⟩ := hS.a.cells
 go_enter Tryz.func174, Tryz.ntmps174
 go_wp2_with fail
 refine (imS X Y _ L _ hS.rd).mono ?_
 rintro e w2 ⟨rfl, hb⟩
 replace hS := hS.call hb
 clear hb a0 a1 a2
 rw [imB_yes H1.out]
 go_wp2_with fail
 refine (inS_no o 0 7 _ H7.out).mono ?_
 rintro e w' ⟨rfl, rfl⟩
 have hr := hS.r
 obtain ⟨r0, r1, r2⟩ := hr.cells
 have f0 := hr.frozen 0
 have f1 := hr.frozen 1
 have f2 := hr.frozen 2
 have HJ := Lib.hid (hr.set3 0 0 (.slice none 0 0))
 have HS := Lib.hid hS
 clear hr hS
 go_wp2_with fail
 obtain ⟨s0, s1, s2⟩ := HJ.out.cells
 exact bodyPost_ret (v := .agg #[.int .i64 0, .int .i64 0, .slice none 0 0]) (by simp [results, Tryz.results174, go_sem, s0, s1, s2]) rfl (by rw [HA.out]; exact or_zero HS.out)
theorem ordS_any (X Y : Int) (v : Value) (L : List Int) (o : Int) (w : World) (hv : RdI w v L) :
  Calls Tryz.prog 174 #[.agg #[.int .i64 X, .int .i64 Y, v], .int .i64 o] w (AnsIm (orIm X Y L o) w) := by
 by_cases h1 : imOk X Y L
 ·by_cases ho : orOk o
  ·obtain ⟨W, H, rfl, rfl, _⟩ := im_nat h1
   exact ordS_ok W H v L o w h1 ho hv
  ·exact ordS_bad2 X Y v L o w hv h1 ho
 ·exact ordS_bad1 X Y v L o w hv h1
set_option maxHeartbeats 600000 in
theorem ordI_bad1 (X Y : Int) (v : Value) (L : List Int) (o : Int) (w : World) (hv : RdI w v L) (h1 : ¬ imOk X Y L) :
  Calls Tryz.prog 209 #[.agg #[.int .i64 X, .int .i64 Y, v], .int .i64 o] w (AnsIm (orIm X Y L o) w) := by
 have HA := Lib.hid (orIm_no (o := o) fun h => h1 h.1)
 have hS := OrA.born w X Y hv
 have H1 := Lib.hid h1
 obtain ⟨A, c, rfl⟩ := hv.form
 clear hv h1
 obtain ⟨a0, a1, a2⟩ := hS.a.cells
 go_enter Tryz.func209, Tryz.ntmps209
 go_wp2_with fail
 refine (imI X Y _ L _ hS.rd).mono ?_
 rintro e w2 ⟨rfl, hb⟩
 replace hS := hS.call hb
 clear hb a0 a1 a2
 rw [imB_no H1.out]
 have hr := hS.r
 obtain ⟨r0, r1, r2⟩ := hr.cells
 have f0 := hr.frozen 0
 have f1 := hr.frozen 1
 have f2 := hr.frozen 2
 have HJ := Lib.hid (hr.set3 0 0 (.slice none 0 0))
 have HS := Lib.hid hS
 clear hr hS
 go_wp2_with fail
 obtain ⟨s0, s1, s2⟩ := HJ.out.cells
 exact bodyPost_ret (v := .agg #[.int .i64 0, .int .i64 0, .slice none 0 0]) (by simp [results, Tryz.results209, go_sem, s0, s1, s2]) rfl (by rw [HA.out]; exact or_zero HS.out)
set_option maxHeartbeats 600000 in
theorem ordI_bad2 (X Y : Int) (v : Value) (L : List Int) (o : Int) (w : World) (hv : RdI w v L) (h1 : imOk X Y L) (ho : ¬ orOk o) :
  Calls Tryz.prog 209 #[.agg #[.int .i64 X, .int .i64 Y, v], .int .i64 o] w (AnsIm (orIm X Y L o) w) := by
 have HA := Lib.hid (orIm_no (X := X) (Y := Y) (L := L) fun h => ho h.2)
 have hS := OrA.born w X Y hv
 have H1 := Lib.hid h1
 have Ho := Lib.hid ho
 have H7 := Lib.hid (or_no ho)
 obtain ⟨A, c, rfl⟩ := hv.form
 clear hv h1 ho
 obtain ⟨a0, a1, a2⟩ := hS.a.cells
 go_enter Tryz.func209, Tryz.ntmps209
 go_wp2_with fail
 refine (imI X Y _ L _ hS.rd).mono ?_
 rintro e w2 ⟨rfl, hb⟩
 replace hS := hS.call hb
 clear hb a0 a1 a2
 rw [imB_yes H1.out]
 go_wp2_with fail
 refine (isOrI_no o Ho.out _).mono ?_
 rintro e w' ⟨rfl, rfl⟩
 have hr := hS.r
 obtain ⟨r0, r1, r2⟩ := hr.cells
 have f0 := hr.frozen 0
 have f1 := hr.frozen 1
 have f2 := hr.frozen 2
 have HJ := Lib.hid (hr.set3 0 0 (.slice none 0 0))
 have HS := Lib.hid hS
 clear hr hS
 go_wp2_with fail
 obtain ⟨s0, s1, s2⟩ := HJ.out.cells
 exact bodyPost_ret (v := .agg #[.int .i64 0, .int .i64 0, .slice none 0 0]) (by simp [results, Tryz.results209, go_sem, s0, s1, s2]) rfl (by rw [HA.out]; exact or_zero HS.out)
theorem ordI_any (X Y : Int) (v : Value) (L : List Int) (o : Int) (w : World) (hv : RdI w v L) :
  Calls Tryz.prog 209 #[.agg #[.int .i64 X, .int .i64 Y, v], .int .i64 o] w (AnsIm (orIm X Y L o) w) := by
 by_cases h1 : imOk X Y L
 ·by_cases ho : orOk o
  ·obtain ⟨W, H, rfl, rfl, _⟩ := im_nat h1
   exact ordI_ok W H v L o w h1 ho hv
  ·exact ordI_bad2 X Y v L o w hv h1 ho
 ·exact ordI_bad1 X Y v L o w hv h1
end Go.Proofs.YtdgagooldlnpeaaGreat
namespace Go.Proofs.YtdgagooldlnpeaaGreat
open Go.RowKit
theorem tabI_succ (n : Nat) (f : Nat → Int) : tabI (n + 1) f = tabI n f ++ [f n] := by simp [tabI, List.range_succ]
def rsF (S : Nat → Nat → Nat → Nat) (W H w h : Nat) (L : List Int) : Nat → Int := fun j => L.getD (S H h (j / w) * W + S W w (j % w)) 0
open Classical in
noncomputable def rsIm (S : Nat → Nat → Nat → Nat) (X Y : Int) (L : List Int) (w h : Int) : Im := if imOk X Y L ∧ szOk w h then ⟨w, h, tabI (w.toNat * h.toNat) (rsF S X.toNat Y.toNat w.toNat h.toNat L)⟩ else zeroIm
theorem rs_yes (S : Nat → Nat → Nat → Nat) {W H w h : Nat} {L : List Int} (h1 : imOk W H L) (h2 : szOk w h) : rsIm S W H L w h = ⟨w, h, tabI (w * h) (rsF S W H w h L)⟩ := by
 unfold rsIm; rw [if_pos ⟨h1, h2⟩, Int.toNat_natCast, Int.toNat_natCast, Int.toNat_natCast, Int.toNat_natCast]
theorem rs_no (S : Nat → Nat → Nat → Nat) {X Y w h : Int} {L : List Int} (h0 : ¬ (imOk X Y L ∧ szOk w h)) : rsIm S X Y L w h = zeroIm := if_neg h0
theorem sz_nat {P Q : Int} (h : szOk P Q) : ∃ p q : Nat, P = p ∧ Q = q ∧ 1 ≤ p ∧ p ≤ 16 ∧ 1 ≤ q ∧ q ≤ 16 := by
 unfold szOk at h
 exact ⟨P.toNat, Q.toNat, by omega, by omega, by omega, by omega, by omega, by omega⟩
theorem rsF_at (S : Nat → Nat → Nat → Nat) (W H w h : Nat) (L : List Int) {x : Nat} (y : Nat) (hx : x < w) : rsF S W H w h L (y * w + x) = L.getD (S H h y * W + S W w x) 0 := by
 unfold rsF; rw [(idx_div hx).1, (idx_div hx).2]
def PlOk (S : Nat → Nat → Nat → Nat) : Prop := ∀ f t k : Nat, 1 ≤ f → k < t → S f t k < f
theorem scl_ok : PlOk sclN := fun _ _ _ h1 h2 => sclN_lt h1 h2
theorem rs_src {S : Nat → Nat → Nat → Nat} (hS : PlOk S) {W H w h x y : Nat} {L : List Int} (hL : L.length = W * H) (hW : 1 ≤ W) (hH : 1 ≤ H) (hx : x < w) (hy : y < h) :
  ∃ a b z, S W w x = a ∧ S H h y = b ∧ a < W ∧ b < H ∧ b * W + a < L.length ∧ L[b * W + a]? = some z ∧ rsF S W H w h L (y * w + x) = z := by
 have ha := hS W w x hW hx
 have hb := hS H h y hH hy
 have hk : S H h y * W + S W w x < L.length := by rw [hL]; exact plc_lt ha hb
 refine ⟨_, _, _, rfl, rfl, ha, hb, hk, List.getElem?_eq_getElem hk, ?_⟩
 rw [rsF_at S W H w h L y hx, List.getD_eq_getElem?_getD, List.getElem?_eq_getElem hk]; rfl
theorem RdI.cell {w : World} {g n c k : Nat} {L : List Int} {x : Int} (h : RdI w (.slice (some ⟨g, 0, none⟩) n c) L) (hx : L[k]? = some x) : w.cell? ⟨g, k, none⟩ = some (.int .i64 x) := by
 have hk : k < L.length := (List.getElem?_eq_some_iff.1 hx).1
 rcases h with ⟨_, rfl⟩ | ⟨g', c', he, hm, hlc, hc⟩
 ·simp at hk
 ·injection he with e1 e2 e3
  injection e1 with e1
  injection e1 with e1
  subst e1
  exact hc k x hx
theorem RdI.one {w : World} {g : Nat} {t : TypeId} {z : Int} (h : w.heap[g]? = some (.cells #[.int .i64 z] t (0, 0))) : RdI w (.slice (some ⟨g, 0, none⟩) 1 1) [z] := by
 refine .inr ⟨g, 1, rfl, by unfold maxLen; simp, by simp, fun k x hx => ?_⟩
 cases k with
 | zero => injection hx with hx; subst hx; simp [World.cell?, h]
 | succ k => simp at hx
theorem run_build1I (z : Int) (w : World) : (Instr.buildSlice 53 1 #[(0, .int .i64 z)]).run Tryz.prog w = .ok (.slice (some ⟨w.heap.size, 0, none⟩) 1 1) (w.alloc (.cells #[.int .i64 z] 3)) := by
 kernel_rfl
theorem wp_build1I {op : Oper} {a : Act} {w : World} {K : Act → World → Prop} {Q : Exit → Act → World → Prop} (d : Nat) (x : Operand) (z : Int) (ho : op.op = .buildSlice 53 1 #[(0, x)]) (hx : a.eval x = .int .i64 z) (hd : op.dst = some d)
  (h : ∀ g W', Below w.heap.size w W' → RdI W' (.slice (some ⟨g, 0, none⟩) 1 1) [z] → K (a.put (some d) (.slice (some ⟨g, 0, none⟩) 1 1)) W') : op.wp Tryz.prog a w K Q := by
 have h1 := h w.heap.size (w.alloc (.cells #[.int .i64 z] 3)) (belI_box _ _) (RdI.one (heap_alloc_new w _))
 have hz := run_build1I z w
 unfold Oper.wp execOp
 simp only [ho, List.map_toArray, List.map_cons, List.map_nil, hx, Sem.run_bind, hz, Result.andThen_ok, Sem.run_pure]
 rw [← hd] at h1
 exact h1
theorem wp_append1I {o : Oper} {a : Act} {w : World} {K : Act → World → Prop} {Q : Exit → Act → World → Prop} (s x : Operand)
  (ho : o.op = .call { callee := .builtin .append, args := #[s, x], argTypes := #[53, 53] })
  (base : Nat) (v : Value) (n : Nat) (M : List Int) (hs : a.eval s = v) (hown : w.ownsRow base 3 1 v n (intCells M)) (g : Nat) (z : Int)
  (hx : a.eval x = .slice (some ⟨g, 0, none⟩) 1 1) (hu : RdI w (.slice (some ⟨g, 0, none⟩) 1 1) [z]) (h63 : n ≤ 1000000) (hbase : base ≤ w.heap.size)
  (h : ∀ g' c' w', w'.ownsRow base 3 1 (.slice (some ⟨g', 0, none⟩) (n + 1) c') (n + 1) (intCells (M ++ [z])) → w.grownBy w' v.ownBlock → K (a.put o.dst (.slice (some ⟨g', 0, none⟩) (n + 1) c')) w') : o.wp Tryz.prog a w K Q := by
 refine wp_appendI s x ho base v n (intCells M) hs hown (.slice (some ⟨g, 0, none⟩) 1 1) [z] hx hu (by simp; omega) hbase (fun v' w' h1 h2 _ => ?_)
 rw [← intCells_append, show n + [z].length = n + 1 from rfl] at h1
 obtain ⟨g', c', rfl, _, _⟩ := h1.form (by omega)
 exact h g' c' w' h1 h2
theorem OrA.own {w : World} {X Y : Int} {v : Value} {L : List Int} {W W' : World} {row : Option Nat} (h : OrA w X Y v L W) (hv : ∀ g, v.ownBlock = some g → g < w.heap.size) (hg : W.grownBy W' row) (hk : ∀ k, row = some k → w.heap.size + 2 ≤ k) : OrA w X Y v L W' :=
 ⟨h.a.grown hg (fun e => by have := hk _ e.symm; omega), h.r.grown hg (fun e => by have := hk _ e.symm; omega), h.rd.grown hg (fun g hg2 e => by have := hk _ e.symm; have := hv _ hg2; omega), h.bw.grown hg h.bw.size (fun k e => by have := hk _ e; omega)⟩
structure RsI (w : World) (X Y : Int) (v : Value) (L : List Int) (u : Value) (q : Nat) (M : List Int) (V : World) : Prop where
 o : OrA w X Y v L V
 own : V.ownsRow (w.heap.size + 2) 3 1 u q (intCells M)
theorem RsI.start {w : World} {X Y : Int} {v : Value} {L : List Int} {u : Value} {V V' : World} (h : OrA w X Y v L V) (hv : ∀ g, v.ownBlock = some g → g < w.heap.size) (ho : V'.ownsRow (w.heap.size + 2) 3 1 u 0 []) (hg : V.grownBy V' none) : RsI w X Y v L u 0 [] V' :=
 ⟨h.own hv hg (fun k hk => by cases hk), ho⟩
structure RsS (w : World) (X Y : Int) (v : Value) (L : List Int) (P Q : Int) (bo : Nat) (u : Value) (q : Nat) (M : List Int) (V : World) : Prop where
 o : OrA w X Y v L V
 im : ImAt V bo 55 P Q u
 own : V.ownsRow (bo + 1) 3 1 u q (intCells M)
end Go.Proofs.YtdgagooldlnpeaaGreat
namespace Go.Proofs.YtdgagooldlnpeaaGreat
open Go.RowKit
set_option maxHeartbeats 2000000 in
set_option maxRecDepth 10000 in
theorem rsI_ok (fid : Nat) (S : Nat → Nat → Nat → Nat) (HE : ∀ args w, (callFunc fid args).run Tryz.prog w = .ok (.enter fid args) w)
  (HK : ∀ (f t k : Nat) V, 1 ≤ f ∧ f ≤ 16 → 1 ≤ t ∧ t ≤ 16 → k < t → Calls Tryz.prog fid #[.int .i64 f, .int .i64 t, .int .i64 k] V fun e w' => e = .returned (.int .i64 (S f t k : Nat)) ∧ V = w') (hPl : PlOk S) (W H P Q : Nat) (v : Value) (L : List Int) (w : World) (h1 : imOk W H L) (h2 : szOk P Q) (hv : RdI w v L) :
  Calls Tryz.prog 225 #[.agg #[.int .i64 W, .int .i64 H, v], .int .i64 P, .int .i64 Q, .func (.func fid) #[] #[]] w (AnsIm (rsIm S W H L P Q) w) := by
 obtain ⟨i0, hi, hz0, hz1, hz2⟩ := info_parts infoInt
 have HK := Lib.hid HK
 have HA := Lib.hid (rs_yes S h1 h2)
 obtain ⟨W2, H2, e1, e2, wl, wh, hl, hh, hL⟩ := im_nat h1
 obtain rfl : W = W2 := by exact_mod_cast e1
 obtain rfl : H = H2 := by exact_mod_cast e2
 clear e1 e2
 obtain ⟨P1, P2, Q1, Q2⟩ : 1 ≤ P ∧ P ≤ 16 ∧ 1 ≤ Q ∧ Q ≤ 16 := by unfold szOk at h2; omega
 obtain ⟨gi, c, rfl, hgi, hcu⟩ := rd_block hv (by rw [hL]; exact Nat.mul_pos wl hl)
 have hgu2 : ∀ g, (Value.slice (some ⟨gi, 0, none⟩) L.length c).ownBlock = some g → g < w.heap.size := fun g hg => (Option.some.inj hg) ▸ hgi
 have hS := OrA.born w W H hv
 have HL := Lib.hid hL
 have Hi := Lib.hid h1
 have H2 := Lib.hid h2
 have hL256 : L.length ≤ 256 := by rw [hL]; exact mul_256 wh hh
 obtain ⟨N, hN⟩ : ∃ N, N = P * Q := ⟨_, rfl⟩
 have e1 : (P : Int) * (Q : Int) = (N : Int) := by rw [hN]; simp
 have hN256 : N ≤ 256 := by rw [hN]; exact mul_256 P2 Q2
 have HN := Lib.hid hN
 obtain ⟨F, hF⟩ : ∃ F, F = rsF S W H P Q L := ⟨_, rfl⟩
 have HF := Lib.hid hF
 clear hL h1 h2 hv hN hF
 obtain ⟨a0, a1, a2⟩ := hS.a.cells
 go_enter Tryz.func225, Tryz.ntmps225
 go_wp2_with fail
 refine (imI W H _ L _ hS.rd).mono ?_
 rintro e w2 ⟨rfl, hb⟩
 replace hS := hS.call hb
 clear hb a0 a1 a2
 rw [imB_yes Hi.out]
 go_wp2_with fail
 refine (szI_yes P Q H2.out _).mono ?_
 rintro e w' ⟨rfl, rfl⟩
 have hsz := hS.r.lt
 go_wp2_with (at_make; refine wpList_make_own _ rfl _ _ 53 rfl (w.heap.size + 2) 3 i0 (.int .i64 0) 1 Tryz.underlying53 hi hz0 hz1 .i64 .i64 _ N rfl rfl (by first | rfl | exact e1 | simp) (by rw [hz2]; omega) (by unfold maxLen; omega) (by omega) ?_; intro w1 hown1 hgr1; have HS := Lib.hid (RsI.start hS hgu2 hown1 hgr1); clear hown1 hgr1 hS hsz)
 go_loopg [9, 27] Q (fun gk s9 s27 wr => ∃ (y q cv : Nat) (Av : Option Addr) (V : World), V = wr ∧ y ≤ Q ∧ gk = Q - y ∧ s9 = .slice Av q cv ∧ s27 = .int .i64 y ∧ Hid (q = y * P + 0) ∧ q ≤ 256 ∧ Hid (RsI w W H (.slice (some ⟨gi, 0, none⟩) L.length c) L (.slice Av q cv) q (tabI q F) V))
 case atStart => exact ⟨0, 0, _, _, _, rfl, by omega, by omega, rfl, rfl, Lib.hid (by simp), by omega, HS⟩
 case round =>
  clear HS
  obtain ⟨y, q, cv, Av, wy, hV, hy2, rfl, rfl, rfl, Hq, hq, HS⟩ := hrel
  subst hV
  by_cases hyl : y < Q
  ·have hyi : (y : Int) < (Q : Int) := by omega
   go_wp2_with fail
   go_loopg [9, 31] P (fun g9 s9 s31 wz => ∃ (x q cv : Nat) (Av : Option Addr) (V : World), V = wz ∧ x ≤ P ∧ g9 = P - x ∧ s9 = .slice Av q cv ∧ s31 = .int .i64 x ∧ Hid (q = y * P + x) ∧ q ≤ 256 ∧ Hid (RsI w W H (.slice (some ⟨gi, 0, none⟩) L.length c) L (.slice Av q cv) q (tabI q F) V))
   case atStart => exact ⟨0, q, cv, Av, _, rfl, by omega, by omega, rfl, rfl, Hq, hq, HS⟩
   case round =>
    clear HS Hq hq
    obtain ⟨x, q, cv, Av, wx, hV, hx2, rfl, rfl, rfl, Hq, hq, HS⟩ := hrel
    subst hV
    by_cases hxl : x < P
    ·have hxi : (x : Int) < (P : Int) := by omega
     obtain ⟨a, b, z, ha, hb, ha2, hb2, hk, hz, hF⟩ := rs_src hPl HL.out wl hl hxl hyl
     have HCa : Hid (∀ V, Calls Tryz.prog fid #[.int .i64 W, .int .i64 P, .int .i64 x] V fun e w' => e = .returned (.int .i64 (a : Nat)) ∧ V = w') := Lib.hid (fun V => by have h := HK.out W P x V ⟨wl, wh⟩ ⟨P1, P2⟩ hxl; rw [ha] at h; exact h)
     have HCb : Hid (∀ V, Calls Tryz.prog fid #[.int .i64 H, .int .i64 Q, .int .i64 y] V fun e w' => e = .returned (.int .i64 (b : Nat)) ∧ V = w') := Lib.hid (fun V => by have h := HK.out H Q y V ⟨hl, hh⟩ ⟨Q1, Q2⟩ hyl; rw [hb] at h; exact h)
     have HX : Hid (∀ (V : World), RdI V (.slice (some ⟨gi, 0, none⟩) L.length c) L → Calls Tryz.prog 83 #[.agg #[.int .i64 (W : Int), .int .i64 (H : Int), .slice (some ⟨gi, 0, none⟩) L.length c], .int .i64 (a : Int), .int .i64 (b : Int)] V fun e w' => e = .returned (.int .i64 z) ∧ Below V.heap.size V w') := Lib.hid (fun V h => by
      have h2 := pixelI W H a b _ L V Hi.out (by omega) (by omega) h
      rw [show ((b : Int) * (W : Int) + (a : Int)).toNat = b * W + a by exact_mod_cast Int.toNat_natCast (b * W + a), List.getD_eq_getElem?_getD, hz] at h2
      exact h2)
     have HM : Hid (F (y * P + x) = z) := Lib.hid (by rw [HF.out]; exact hF)
     have hq1 : q + 1 ≤ 256 := by have h5 := plc_lt hxl hyl; rw [← HN.out, ← Hq.out] at h5; omega
     clear ha hb ha2 hb2 hk hz hF
     obtain ⟨a0, a1, a2⟩ := HS.out.o.a.cells
     go_upto_region 10 with fail
     clear a0 a1 a2
     refine wp_region_held_drew (S := fun V => OrA w W H (.slice (some ⟨gi, 0, none⟩) L.length c) L V) (by kernel_rfl) (HS.out.o.call (Below.refl _ _).drew) (fun hS => ?_)
     have hOw := show World.ownsRow wx.drew _ _ _ _ _ _ from HS.out.own
     refine tcH (i := 0) (v := .slice Av q cv) rfl (by intro w' hSw; (try dsimp only at hSw); (obtain ⟨a0, a1, a2⟩ := hSw.a.cells); go_simp) ?_
     refine tcH (i := 1) (v := .agg #[.int .i64 (W : Int), .int .i64 (H : Int), .slice (some ⟨gi, 0, none⟩) L.length c]) rfl (by intro w' hSw; (try dsimp only at hSw); (obtain ⟨a0, a1, a2⟩ := hSw.a.cells); go_simp) ?_
     refine tcH (i := 2) (v := .func (.func fid) #[] #[]) rfl (by intro w' hSw; (try dsimp only at hSw); (obtain ⟨a0, a1, a2⟩ := hSw.a.cells); go_simp) ?_
     refine tcH (i := 3) (v := .pointer (some ⟨w.heap.size, 0, none⟩)) rfl (by intro w' hSw; (try dsimp only at hSw); (obtain ⟨a0, a1, a2⟩ := hSw.a.cells); go_simp) ?_
     refine tcH (i := 4) (v := .int .i64 (W : Int)) rfl (by intro w' hSw; (try dsimp only at hSw); (obtain ⟨a0, a1, a2⟩ := hSw.a.cells); go_simp) ?_
     refine tcH (i := 5) (v := .int .i64 (P : Int)) rfl (by intro w' hSw; (try dsimp only at hSw); (obtain ⟨a0, a1, a2⟩ := hSw.a.cells); go_simp) ?_
     refine tcH (i := 6) (v := .int .i64 (x : Int)) rfl (by intro w' hSw; (try dsimp only at hSw); (obtain ⟨a0, a1, a2⟩ := hSw.a.cells); go_simp) ?_
     refine tcH (i := 8) (v := .func (.func fid) #[] #[]) rfl (by intro w' hSw; (try dsimp only at hSw); (obtain ⟨a0, a1, a2⟩ := hSw.a.cells); go_simp) ?_
     refine tcH (i := 9) (v := .pointer (some ⟨w.heap.size, 1, none⟩)) rfl (by intro w' hSw; (try dsimp only at hSw); (obtain ⟨a0, a1, a2⟩ := hSw.a.cells); go_simp) ?_
     refine tcH (i := 10) (v := .int .i64 (H : Int)) rfl (by intro w' hSw; (try dsimp only at hSw); (obtain ⟨a0, a1, a2⟩ := hSw.a.cells); go_simp) ?_
     refine tcH (i := 11) (v := .int .i64 (Q : Int)) rfl (by intro w' hSw; (try dsimp only at hSw); (obtain ⟨a0, a1, a2⟩ := hSw.a.cells); go_simp) ?_
     refine tcH (i := 12) (v := .int .i64 (y : Int)) rfl (by intro w' hSw; (try dsimp only at hSw); (obtain ⟨a0, a1, a2⟩ := hSw.a.cells); go_simp) ?_
     (try simp only [Act.put]); (try simp only [zPa]); (try simp only [zPb, zPc])
     refine wpAnyH_ready (rs := [7]) (by kernel_rfl) (by simp) ?_
     refine (AllReadyH.cons rfl (fun K hK => ?_) AllReadyH.nil)
     ·rw [if_pos (by kernel_rfl)]
      (try simp only [zGa]); (try simp only [zGb]); (try simp only [zGc])
      go_simp
      with_reducible refine (HCa.out _).mono ?_
      rintro e W' ⟨rfl, rfl⟩
      dsimp only
      skip
      refine hK.out _ _ (hS) (fun hS => ?_)
      clear hK
      (try simp only [Act.put]); (try simp only [zPa]); (try simp only [zPb, zPc])
      refine wpAnyH_ready (rs := [13]) (by kernel_rfl) (by simp) ?_
      refine (AllReadyH.cons rfl (fun K hK => ?_) AllReadyH.nil)
      ·rw [if_pos (by kernel_rfl)]
       (try simp only [zGa]); (try simp only [zGb]); (try simp only [zGc])
       go_simp
       with_reducible refine (HCb.out _).mono ?_
       rintro e W' ⟨rfl, rfl⟩
       dsimp only
       skip
       refine hK.out _ _ (hS) (fun hS => ?_)
       clear hK
       (try simp only [Act.put]); (try simp only [zPa]); (try simp only [zPb, zPc])
       refine wpAnyH_ready (rs := [14]) (by kernel_rfl) (by simp) ?_
       refine (AllReadyH.cons rfl (fun K hK => ?_) AllReadyH.nil)
       ·rw [if_pos (by kernel_rfl)]
        (try simp only [zGa]); (try simp only [zGb]); (try simp only [zGc])
        go_simp
        with_reducible refine (HX.out _ hS.rd).mono ?_
        rintro e W' ⟨rfl, hb⟩
        dsimp only
        have hOw := ownI_call hOw hb
        refine hK.out _ _ (hS.call hb) (fun hS => ?_)
        clear hK
        (try simp only [Act.put]); (try simp only [zPa]); (try simp only [zPb, zPc])
        refine wpAnyH_ready (rs := [15]) (by kernel_rfl) (by simp) ?_
        refine (AllReadyH.cons rfl (fun K hK => ?_) AllReadyH.nil)
        ·rw [if_pos (by kernel_rfl)]
         (try simp only [zGa]); (try simp only [zGb]); (try simp only [zGc])
         refine wp_build1I 49 (.tmp 48) z rfl (by first | with_reducible rfl | (go_simp; done) | rfl) rfl ?_
         intro g5 W' hb hR5
         have hOw := ownI_call hOw hb
         refine hK.out _ _ (hS.call hb) (fun hS => ?_)
         clear hK
         (try simp only [Act.put]); (try simp only [zPa]); (try simp only [zPb, zPc])
         refine wpAnyH_ready (rs := [16]) (by kernel_rfl) (by simp) ?_
         refine (AllReadyH.cons rfl (fun K hK => ?_) AllReadyH.nil)
         ·rw [if_pos (by kernel_rfl)]
          (try simp only [zGa]); (try simp only [zGb]); (try simp only [zGc])
          have hlt := fun g hg => (hOw.lt g hg).1
          have hsz := hS.r.lt
          refine wp_append1I (.tmp 34) (.tmp 49) rfl (w.heap.size + 2) (.slice Av q cv) q (tabI q F) (by first | with_reducible rfl | (go_simp; done) | rfl) hOw g5 z (by first | with_reducible rfl | (go_simp; done) | rfl) hR5 (by omega) (by omega) ?_
          intro g7 c7 w7 hown7 hgr7
          skip
          skip
          refine hK.out _ _ (hS.own hgu2 hgr7 (fun k e => hlt _ e)) (fun hS => ?_)
          clear hK
          (try simp only [Act.put]); (try simp only [zPa]); (try simp only [zPb, zPc])
          refine tcH (i := 17) (v := .slice (some ⟨g7, 0, none⟩) (q + 1) c7) rfl (by intro w' hSw; (try dsimp only at hSw); (obtain ⟨a0, a1, a2⟩ := hSw.a.cells); go_simp) ?_
          refine wpAnyH_done (by kernel_rfl) ?_ _
          go_wp2_with fail
          go_roundg (P - (x + 1))
          case measure => omega
          case rel =>
           refine ⟨x + 1, q + 1, c7, some ⟨g7, 0, none⟩, _, rfl, by omega, by omega, rfl, by go_num, Lib.hid (by rw [Hq.out]; omega), hq1, Lib.hid ⟨hS, ?_⟩⟩
           rw [tabI_succ, show F q = z by rw [Hq.out]; exact HM.out]
           exact hown7
    ·obtain rfl : x = P := by omega
     go_wp2_with fail
     go_roundg (Q - (y + 1))
     case measure => omega
     case rel => exact ⟨y + 1, q, cv, Av, _, rfl, by omega, by omega, rfl, by go_num, Lib.hid (by rw [Hq.out, Nat.add_mul, Nat.one_mul]; rfl), hq, HS⟩
  ·obtain rfl : y = Q := by omega
   have hr := HS.out.o.r
   obtain ⟨r0, r1, r2⟩ := hr.cells
   have f0 := hr.frozen 0
   have f1 := hr.frozen 1
   have f2 := hr.frozen 2
   have HJ := Lib.hid (hr.set3 P y (.slice Av q cv))
   clear hr
   go_wp2_with fail
   obtain ⟨s0, s1, s2⟩ := HJ.out.cells
   exact bodyPost_ret (v := .agg #[.int .i64 P, .int .i64 y, .slice Av q cv]) (by simp [results, Tryz.results225, go_sem, s0, s1, s2]) rfl (by
    rw [HA.out, ← HF.out, show P * y = q by rw [Hq.out, Nat.mul_comm]; rfl]
    exact ans_set HS.out.own (tabI_length _ _) (by omega) (Nat.lt_succ_self _) HS.out.o.bw)
set_option maxHeartbeats 600000 in
theorem rsI_bad1 (fid : Nat) (S : Nat → Nat → Nat → Nat) (X Y P Q : Int) (v : Value) (L : List Int) (w : World) (hv : RdI w v L) (h1 : ¬ imOk X Y L) :
  Calls Tryz.prog 225 #[.agg #[.int .i64 X, .int .i64 Y, v], .int .i64 P, .int .i64 Q, .func (.func fid) #[] #[]] w (AnsIm (rsIm S X Y L P Q) w) := by
 have HA := Lib.hid (rs_no S (X := X) (Y := Y) (L := L) (w := P) (h := Q) (fun h => h1 h.1))
 have hS := OrA.born w X Y hv
 have H1 := Lib.hid h1
 clear h1
 obtain ⟨A, c, rfl⟩ := hv.form
 obtain ⟨a0, a1, a2⟩ := hS.a.cells
 go_enter Tryz.func225, Tryz.ntmps225
 go_wp2_with fail
 refine (imI X Y _ L _ hS.rd).mono ?_
 rintro e w2 ⟨rfl, hb⟩
 replace hS := hS.call hb
 clear hb a0 a1 a2
 rw [imB_no H1.out]
 have hr := hS.r
 obtain ⟨r0, r1, r2⟩ := hr.cells
 have f0 := hr.frozen 0
 have f1 := hr.frozen 1
 have f2 := hr.frozen 2
 have HJ := Lib.hid (hr.set3 0 0 (.slice none 0 0))
 have HS := Lib.hid hS
 clear hr hS
 go_wp2_with fail
 obtain ⟨s0, s1, s2⟩ := HJ.out.cells
 exact bodyPost_ret (v := .agg #[.int .i64 0, .int .i64 0, .slice none 0 0]) (by simp [results, Tryz.results225, go_sem, s0, s1, s2]) rfl (by rw [HA.out]; exact or_zero HS.out)
set_option maxHeartbeats 600000 in
theorem rsI_bad2 (fid : Nat) (S : Nat → Nat → Nat → Nat) (X Y P Q : Int) (v : Value) (L : List Int) (w : World) (hv : RdI w v L) (h1 : imOk X Y L) (h2 : ¬ szOk P Q) :
  Calls Tryz.prog 225 #[.agg #[.int .i64 X, .int .i64 Y, v], .int .i64 P, .int .i64 Q, .func (.func fid) #[] #[]] w (AnsIm (rsIm S X Y L P Q) w) := by
 have HA := Lib.hid (rs_no S (X := X) (Y := Y) (L := L) (w := P) (h := Q) (fun h => h2 h.2))
 have hS := OrA.born w X Y hv
 have H1 := Lib.hid h1
 have H2 := Lib.hid h2
 clear h1 h2
 obtain ⟨A, c, rfl⟩ := hv.form
 obtain ⟨a0, a1, a2⟩ := hS.a.cells
 go_enter Tryz.func225, Tryz.ntmps225
 go_wp2_with fail
 refine (imI X Y _ L _ hS.rd).mono ?_
 rintro e w2 ⟨rfl, hb⟩
 replace hS := hS.call hb
 clear hb a0 a1 a2
 rw [imB_yes H1.out]
 go_wp2_with fail
 refine (szI_no P Q H2.out _).mono ?_
 rintro e w' ⟨rfl, rfl⟩
 have hr := hS.r
 obtain ⟨r0, r1, r2⟩ := hr.cells
 have f0 := hr.frozen 0
 have f1 := hr.frozen 1
 have f2 := hr.frozen 2
 have HJ := Lib.hid (hr.set3 0 0 (.slice none 0 0))
 have HS := Lib.hid hS
 clear hr hS
 go_wp2_with fail
 obtain ⟨s0, s1, s2⟩ := HJ.out.cells
 exact bodyPost_ret (v := .agg #[.int .i64 0, .int .i64 0, .slice none 0 0]) (by simp [results, Tryz.results225, go_sem, s0, s1, s2]) rfl (by rw [HA.out]; exact or_zero HS.out)
theorem rsI_any (fid : Nat) (S : Nat → Nat → Nat → Nat) (HE : ∀ args w, (callFunc fid args).run Tryz.prog w = .ok (.enter fid args) w)
  (HK : ∀ (f t k : Nat) V, 1 ≤ f ∧ f ≤ 16 → 1 ≤ t ∧ t ≤ 16 → k < t → Calls Tryz.prog fid #[.int .i64 f, .int .i64 t, .int .i64 k] V fun e w' => e = .returned (.int .i64 (S f t k : Nat)) ∧ V = w') (hPl : PlOk S) (X Y P Q : Int) (v : Value) (L : List Int) (w : World) (hv : RdI w v L) :
  Calls Tryz.prog 225 #[.agg #[.int .i64 X, .int .i64 Y, v], .int .i64 P, .int .i64 Q, .func (.func fid) #[] #[]] w (AnsIm (rsIm S X Y L P Q) w) := by
 by_cases h1 : imOk X Y L
 ·by_cases h2 : szOk P Q
  ·obtain ⟨W, H, rfl, rfl, _⟩ := im_nat h1
   obtain ⟨p, q, rfl, rfl, _⟩ := sz_nat h2
   exact rsI_ok fid S HE HK hPl W H p q v L w h1 h2 hv
  ·exact rsI_bad2 fid S X Y P Q v L w hv h1 h2
 ·exact rsI_bad1 fid S X Y P Q v L w hv h1
theorem enterP (args : Array Value) (w : World) : (callFunc 226 args).run Tryz.prog w = .ok (.enter 226 args) w := by simp [go_sem]
set_option maxHeartbeats 600000 in
theorem sclI_any (X Y P Q : Int) (v : Value) (L : List Int) (w : World) (hv : RdI w v L) :
  Calls Tryz.prog 208 #[.agg #[.int .i64 X, .int .i64 Y, v], .int .i64 P, .int .i64 Q] w (AnsIm (rsIm sclN X Y L P Q) w) := by
 obtain ⟨I, hI⟩ : ∃ I, I = rsIm sclN X Y L P Q := ⟨_, rfl⟩
 have R := fun W v h => rsI_any 226 sclN enterP (fun f t k V h1 h2 h3 => scI_yes h1 h2 h3 V) scl_ok X Y P Q v L W h
 unfold AnsIm ImAns at R
 rw [← hI] at R ⊢
 obtain ⟨D, E, M⟩ := I
 dsimp only at R
 have HR := Lib.hid R
 clear R hI
 have hS := OrA.born w X Y hv
 obtain ⟨A, c, rfl⟩ := hv.form
 obtain ⟨a0, a1, a2⟩ := hS.a.cells
 go_enter Tryz.func208, Tryz.ntmps208
 go_wp2_with fail
 refine (HR.out _ _ hS.rd).mono ?_
 rintro e w2 ⟨u, rfl, own, hb⟩
 replace hS := hS.call hb
 clear hb a0 a1 a2
 obtain ⟨A2, c2, hu⟩ := ownI_shape own
 subst hu
 have hr := hS.r
 obtain ⟨r0, r1, r2⟩ := hr.cells
 have f0 := hr.frozen 0
 have f1 := hr.frozen 1
 have f2 := hr.frozen 2
 have HJ := Lib.hid (hr.set3 D E (.slice A2 M.length c2))
 have HS := Lib.hid hS
 have HO := Lib.hid (own.mono (show w.heap.size + 2 ≤ _ by simp))
 clear hr hS own
 go_wp2_with fail
 obtain ⟨s0, s1, s2⟩ := HJ.out.cells
 exact bodyPost_ret (v := .agg #[.int .i64 D, .int .i64 E, .slice A2 M.length c2]) (by simp [results, Tryz.results208, go_sem, s0, s1, s2]) rfl (ans_set HO.out rfl (by omega) (Nat.lt_succ_self _) HS.out.bw)
end Go.Proofs.YtdgagooldlnpeaaGreat
namespace Go.Proofs.YtdgagooldlnpeaaGreat
open Go.RowKit
theorem sclN_self {f k : Nat} (h : 1 ≤ f) : sclN f f k = k := by unfold sclN; exact Nat.mul_div_cancel _ h
theorem rs_self {S : Nat → Nat → Nat → Nat} (hS : ∀ f k, k < f → S f f k = k) {W H : Nat} {L : List Int} (h : imOk W H L) : rsIm S W H L W H = ⟨W, H, L⟩ := by
 obtain ⟨W2, H2, e1, e2, wl, wh, hl, hh, hL⟩ := im_nat h
 obtain rfl : W = W2 := by exact_mod_cast e1
 obtain rfl : H = H2 := by exact_mod_cast e2
 rw [rs_yes S h h.1]
 congr 1
 symm
 refine tabI_ext hL fun j x hx => ?_
 have hj : j < W * H := by have := (List.getElem?_eq_some_iff.1 hx).1; omega
 unfold rsF
 rw [hS H _ (plc_row hj), hS W _ (Nat.mod_lt _ wl), plc_eq, List.getD_eq_getElem?_getD, hx]; rfl
theorem rs_valid {S : Nat → Nat → Nat → Nat} (hS : PlOk S) {W H w h : Nat} {L : List Int} (h1 : imOk W H L) (h2 : szOk w h) : imOk w h (tabI (w * h) (rsF S W H w h L)) := by
 obtain ⟨W2, H2, e1, e2, wl, wh, hl, hh, hL⟩ := im_nat h1
 obtain rfl : W = W2 := by exact_mod_cast e1
 obtain rfl : H = H2 := by exact_mod_cast e2
 refine ⟨h2, by rw [tabI_length]; push_cast; rfl, fun k x hx => ?_⟩
 have hk : k < w * h := by have := (List.getElem?_eq_some_iff.1 hx).1; rwa [tabI_length] at this
 rw [tabI_get _ _ k hk] at hx
 injection hx with hx
 have hw : 0 < w := by unfold szOk at h2; omega
 obtain ⟨a, b, z, _, _, _, _, _, hz, hF⟩ := rs_src hS hL wl hl (Nat.mod_lt k hw) (plc_row hk)
 rw [plc_eq] at hF
 rw [← hx, hF]
 exact h1.2.2 _ _ hz
end Go.Proofs.YtdgagooldlnpeaaGreat
namespace Go.Proofs.YtdgagooldlnpeaaGreat
open Go.RowKit
theorem map_tab (L : List Int) (f : Int → Int) : L.map f = tabI L.length (fun k => f (L.getD k 0)) := tabI_ext (List.length_map ..) fun k x hx => by
 rw [List.getElem?_map] at hx
 obtain ⟨y, hy, rfl⟩ := Option.map_eq_some_iff.1 hx
 rw [List.getD_eq_getElem?_getD, hy]; rfl
def partC (f : Int → Int) (L : List Int) (k j : Nat) : Int := if j < k then f (L.getD j 0) else L.getD j 0
theorem cm_set {f : Int → Int} {L : List Int} {n k : Nat} {y : Int} (hy : f (L.getD k 0) = y) : (tabI n (partC f L k)).set k y = tabI n (partC f L (k + 1)) := by
 rw [tabI_set]
 refine tabI_congr n fun j _ => ?_
 unfold partC
 by_cases e : j = k
 ·rw [if_pos e, if_pos (by omega), e, hy]
 ·rw [if_neg e]
  by_cases e2 : j < k
  ·rw [if_pos e2, if_pos (by omega)]
  ·rw [if_neg e2, if_neg (by omega)]
end Go.Proofs.YtdgagooldlnpeaaGreat
