/- The contracts of the model's Scaled and TileImage. No statement is proved here. -/
import Derived.Test.YtokniebejilcbaaGreatMA
import Derived.Test.YtokniebejilcbaaGreatMB
import Derived.Test.YtokniebejilcbaaGreatMC
import Derived.Test.YtokniebejilcbaaGreatCpyI
import Derived.Test.YtokniebejilcbaaGreatFilB
import Derived.Test.YtokniebejilcbaaGreatOrdB
import Derived.Test.YtokniebejilcbaaGreatOrdS
import Derived.Test.YtokniebejilcbaaGreatOrdI
import Derived.Test.YtokniebejilcbaaGreatOrdA
import Derived.Test.YtokniebejilcbaaGreatSclB
import Derived.Test.YtokniebejilcbaaGreatProg
import Derived.WalkKit
import Derived.ProofKit
import Derived.OpenShut
import Derived.WalkLawsBesides
import Derived.WalkSpells
import Derived.ShutString
import Derived.ChangeOld
import Derived.Below
import Derived.Lib.Hide
import Derived.Deep.MidRow
import Derived.Deep.WholeRow
import Derived.Maps.AppendAt
import Derived.BigQuiet
import Derived.Deep.QuietTactic
import Derived.Deep.OwnRows
import Derived.Handy
import Derived.Deep.Draws
import Derived.OwnWalk
import Derived.Deep.AppendLies
import Derived.Deep.LoopGhost
import Derived.Deep.Onto
import Derived.Laws.BitsAllLaws
import Derived.Lib.QuoteBits
import Derived.Deep.RegionHeld3
import Derived.Deep.DeepCutAuto
import Derived.Test.YtokniebejilcbaaGreatShelf
import Derived.Laws.CopyOwn
import Derived.Deep.RegionLaw
import Derived.Great.BuildSlice
import Derived.Laws.AppendOwn
namespace Go.Proofs.YtokniebejilcbaaGreat
open Go.RowKit
set_option maxHeartbeats 2000000 in
set_option maxRecDepth 10000 in
theorem sclS_ok (W H P Q : Nat) (v : Value) (L : List Int) (w : World) (h1 : imOk W H L) (h2 : szOk P Q) (hv : RdI w v L) :
  Calls Tryz.prog 201 #[.agg #[.int .i64 W, .int .i64 H, v], .int .i64 P, .int .i64 Q] w (AnsIm (rsIm sclN W H L P Q) w) := by
 have HA := Lib.hid (rs_yes sclN h1 h2)
 obtain ⟨W2, H2, e1, e2, wl, wh, hl, hh, hL⟩ := im_nat h1
 obtain rfl : W = W2 := by exact_mod_cast e1
 obtain rfl : H = H2 := by exact_mod_cast e2
 clear e1 e2
 obtain ⟨P1, P2, Q1, Q2⟩ : 1 ≤ P ∧ P ≤ 16 ∧ 1 ≤ Q ∧ Q ≤ 16 := by unfold szOk at h2; omega
 obtain ⟨gi, c, rfl, hgi, hcu⟩ := rd_block hv (by rw [hL]; exact Nat.mul_pos wl hl)
 have hgu2 : ∀ g, (Value.slice (some ⟨gi, 0, none⟩) L.length c).ownBlock = some g → g < w.heap.size := fun g hg => (Option.some.inj hg) ▸ hgi
 have hS := OrA.born w W H hv
 have HL := Lib.hid hL
 have Hi := Lib.hid h1
 have H2 := Lib.hid h2
 have hL256 : L.length ≤ 256 := by rw [hL]; exact mul_256 wh hh
 obtain ⟨N, hN⟩ : ∃ N, N = P * Q := ⟨_, rfl⟩
 have e1 : (P : Int) * (Q : Int) = (N : Int) := by rw [hN]; simp
 have hN256 : N ≤ 256 := by rw [hN]; exact mul_256 P2 Q2
 have HN := Lib.hid hN
 obtain ⟨F, hF⟩ : ∃ F, F = rsF sclN W H P Q L := ⟨_, rfl⟩
 have HF := Lib.hid hF
 clear hL h1 h2 hv hN hF
 obtain ⟨a0, a1, a2⟩ := hS.a.cells
 go_enter Tryz.func201, Tryz.ntmps201
 go_wp2_with fail
 refine (imS W H _ L _ hS.rd).mono ?_
 rintro e w2 ⟨rfl, hb⟩
 replace hS := hS.call hb
 clear hb a0 a1 a2
 rw [imB_yes Hi.out]
 go_wp2_with fail
 refine (inS_yes _ _ _ _ (by omega) (by omega)).mono ?_
 rintro e w' ⟨rfl, rfl⟩
 go_wp2_with fail
 refine (inS_yes _ _ _ _ (by omega) (by omega)).mono ?_
 rintro e w' ⟨rfl, rfl⟩
 obtain ⟨bo, hbo⟩ : ∃ b, b = w2.heap.size := ⟨_, rfl⟩
 have hlo := hS.r.lt
 have him := ImAt.newAt (w := w2) hbo.symm 55 P Q (.slice none 0 0)
 have hS2 := hS.call (belI_box w2 (.cells #[.int .i64 P, .int .i64 Q, .slice none 0 0] 55))
 have hown := World.ownsRow_nil (w2.alloc (.cells #[.int .i64 P, .int .i64 Q, .slice none 0 0] 55)) (bo + 1) 3 1
 have HS := Lib.hid (show RsS w W H (.slice (some ⟨gi, 0, none⟩) L.length c) L P Q bo (.slice none 0 0) 0 (tabI 0 F) _ from ⟨hS2, him, hown⟩)
 have hbo2 : w.heap.size + 1 < bo := by omega
 have HB := Lib.hid hbo
 clear hbo hlo him hS2 hown hS
 go_wp2_with fail
 rw [← HB.out]
 go_loopg [8] Q (fun g8 s8 w8 => ∃ (y q cv : Nat) (Av : Option Addr) (V : World), V = w8 ∧ y ≤ Q ∧ g8 = Q - y ∧ s8 = .int .i64 y ∧ Hid (q = y * P + 0) ∧ q ≤ 256 ∧ Hid (RsS w W H (.slice (some ⟨gi, 0, none⟩) L.length c) L P Q bo (.slice Av q cv) q (tabI q F) V))
 case atStart => exact ⟨0, 0, 0, none, _, rfl, by omega, by omega, rfl, Lib.hid (by simp), by omega, HS⟩
 case round =>
  clear HS
  obtain ⟨y, q, cv, Av, wy, hV, hy2, rfl, rfl, Hq, hq, HS⟩ := hrel
  subst hV
  by_cases hyl : y < Q
  ·have hyi : (y : Int) < (Q : Int) := by omega
   go_wp2_with fail
   go_loopg [9] P (fun g9 s9 w9 => ∃ (x q cv : Nat) (Av : Option Addr) (V : World), V = w9 ∧ x ≤ P ∧ g9 = P - x ∧ s9 = .int .i64 x ∧ Hid (q = y * P + x) ∧ q ≤ 256 ∧ Hid (RsS w W H (.slice (some ⟨gi, 0, none⟩) L.length c) L P Q bo (.slice Av q cv) q (tabI q F) V))
   case atStart => exact ⟨0, q, cv, Av, _, rfl, by omega, by omega, rfl, Hq, hq, HS⟩
   case round =>
    clear HS Hq hq
    obtain ⟨x, q, cv, Av, wx, hV, hx2, rfl, rfl, Hq, hq, HS⟩ := hrel
    subst hV
    by_cases hxl : x < P
    ·have hxi : (x : Int) < (P : Int) := by omega
     obtain ⟨a, b, z, ha, hb, ha2, hb2, hk, hz, hF⟩ := rs_src scl_ok HL.out wl hl hxl hyl
     have HCa : Hid (∀ V, Calls Tryz.prog 220 #[.int .i64 W, .int .i64 P, .int .i64 x] V fun e w' => e = .returned (.int .i64 (a : Nat)) ∧ V = w') := Lib.hid (fun V => by have h := scS_yes ⟨wl, wh⟩ ⟨P1, P2⟩ hxl V; rw [ha] at h; exact h)
     have HCb : Hid (∀ V, Calls Tryz.prog 220 #[.int .i64 H, .int .i64 Q, .int .i64 y] V fun e w' => e = .returned (.int .i64 (b : Nat)) ∧ V = w') := Lib.hid (fun V => by have h := scS_yes ⟨hl, hh⟩ ⟨Q1, Q2⟩ hyl V; rw [hb] at h; exact h)
     have HM : Hid (F (y * P + x) = z) := Lib.hid (by rw [HF.out]; exact hF)
     have hq1 : q + 1 ≤ 256 := by have h5 := plc_lt hxl hyl; rw [← HN.out, ← Hq.out] at h5; omega
     obtain ⟨m, hm⟩ : ∃ m, m = b * W := ⟨_, rfl⟩
     rw [← hm] at hk hz
     have HZ := Lib.hid hz
     have q1 : IntKind.i64.wrap ((b : Int) * (W : Int)) = (m : Int) := by
      have e9 : (b : Int) * (W : Int) = (m : Int) := by rw [hm]; simp
      rw [e9, wrap_in _ (by omega) (by omega)]
     have q3 := wrap_in ((m : Int) + (a : Int)) (by omega) (by omega)
     have t1 : ((m : Int) + (a : Int)).toNat = m + a := by omega
     have u1 : (m : Int) + (a : Int) < (L.length : Int) := by omega
     have v1 : (0 : Int) ≤ (m : Int) + (a : Int) := by omega
     clear ha hb ha2 hb2 hk hz hF hm
     obtain ⟨a0, a1, a2⟩ := HS.out.o.a.cells
     go_upto_region 10 with fail
     clear a0 a1 a2
     refine wp_region_held_drew (S := fun V => OrA w W H (.slice (some ⟨gi, 0, none⟩) L.length c) L V) (by kernel_rfl) (HS.out.o.call (Below.refl _ _).drew) (fun hS => ?_)
     have hOw := show World.ownsRow wx.drew _ _ _ _ _ _ from HS.out.own
     have him := HS.out.im.drew
     refine tcH (i := 0) (v := .pointer (some ⟨bo, 2, none⟩)) rfl (by intro w' hSw; (try dsimp only at hSw); (obtain ⟨a0, a1, a2⟩ := hSw.a.cells); (have zc := hSw.rd.cell HZ.out); go_simp) ?_
     refine tcH (i := 2) (v := .pointer (some ⟨w.heap.size, 2, none⟩)) rfl (by intro w' hSw; (try dsimp only at hSw); (obtain ⟨a0, a1, a2⟩ := hSw.a.cells); (have zc := hSw.rd.cell HZ.out); go_simp) ?_
     refine tcH (i := 3) (v := .slice (some ⟨gi, 0, none⟩) L.length c) rfl (by intro w' hSw; (try dsimp only at hSw); (obtain ⟨a0, a1, a2⟩ := hSw.a.cells); (have zc := hSw.rd.cell HZ.out); go_simp) ?_
     refine tcH (i := 4) (v := .pointer (some ⟨w.heap.size, 1, none⟩)) rfl (by intro w' hSw; (try dsimp only at hSw); (obtain ⟨a0, a1, a2⟩ := hSw.a.cells); (have zc := hSw.rd.cell HZ.out); go_simp) ?_
     refine tcH (i := 5) (v := .int .i64 (H : Int)) rfl (by intro w' hSw; (try dsimp only at hSw); (obtain ⟨a0, a1, a2⟩ := hSw.a.cells); (have zc := hSw.rd.cell HZ.out); go_simp) ?_
     refine tcH (i := 6) (v := .int .i64 (Q : Int)) rfl (by intro w' hSw; (try dsimp only at hSw); (obtain ⟨a0, a1, a2⟩ := hSw.a.cells); (have zc := hSw.rd.cell HZ.out); go_simp) ?_
     refine tcH (i := 7) (v := .int .i64 (y : Int)) rfl (by intro w' hSw; (try dsimp only at hSw); (obtain ⟨a0, a1, a2⟩ := hSw.a.cells); (have zc := hSw.rd.cell HZ.out); go_simp) ?_
     refine tcH (i := 9) (v := .pointer (some ⟨w.heap.size, 0, none⟩)) rfl (by intro w' hSw; (try dsimp only at hSw); (obtain ⟨a0, a1, a2⟩ := hSw.a.cells); (have zc := hSw.rd.cell HZ.out); go_simp) ?_
     refine tcH (i := 10) (v := .int .i64 (W : Int)) rfl (by intro w' hSw; (try dsimp only at hSw); (obtain ⟨a0, a1, a2⟩ := hSw.a.cells); (have zc := hSw.rd.cell HZ.out); go_simp) ?_
     refine tcH (i := 12) (v := .pointer (some ⟨w.heap.size, 0, none⟩)) rfl (by intro w' hSw; (try dsimp only at hSw); (obtain ⟨a0, a1, a2⟩ := hSw.a.cells); (have zc := hSw.rd.cell HZ.out); go_simp) ?_
     refine tcH (i := 13) (v := .int .i64 (W : Int)) rfl (by intro w' hSw; (try dsimp only at hSw); (obtain ⟨a0, a1, a2⟩ := hSw.a.cells); (have zc := hSw.rd.cell HZ.out); go_simp) ?_
     refine tcH (i := 14) (v := .int .i64 (P : Int)) rfl (by intro w' hSw; (try dsimp only at hSw); (obtain ⟨a0, a1, a2⟩ := hSw.a.cells); (have zc := hSw.rd.cell HZ.out); go_simp) ?_
     refine tcH (i := 15) (v := .int .i64 (x : Int)) rfl (by intro w' hSw; (try dsimp only at hSw); (obtain ⟨a0, a1, a2⟩ := hSw.a.cells); (have zc := hSw.rd.cell HZ.out); go_simp) ?_
     (try simp only [Act.put]); (try simp only [zPa]); (try simp only [zPb, zPc])
     refine wpAnyH_ready (rs := [1, 8]) (by kernel_rfl) (by simp) ?_
     refine (AllReadyH.cons rfl (fun K hK => ?_) (AllReadyH.cons rfl (fun K hK => ?_) AllReadyH.nil))
     ·rw [if_pos (by kernel_rfl)]
      (try simp only [zGa]); (try simp only [zGb]); (try simp only [zGc])
      have m2 := him.cells.2.2
      go_simp
      skip
      skip
      clear m2
      refine hK.out _ _ (hS) (fun hS => ?_)
      clear hK
      (try simp only [Act.put]); (try simp only [zPa]); (try simp only [zPb, zPc])
      refine wpAnyH_ready (rs := [8]) (by kernel_rfl) (by simp) ?_
      refine (AllReadyH.cons rfl (fun K hK => ?_) AllReadyH.nil)
      ·rw [if_pos (by kernel_rfl)]
       (try simp only [zGa]); (try simp only [zGb]); (try simp only [zGc])
       go_simp
       with_reducible refine (HCb.out _).mono ?_
       rintro e W' ⟨rfl, rfl⟩
       dsimp only
       skip
       skip
       refine hK.out _ _ (hS) (fun hS => ?_)
       clear hK
       (try simp only [Act.put]); (try simp only [zPa]); (try simp only [zPb, zPc])
       refine tcH (i := 11) (v := .int .i64 (m : Int)) rfl (by intro w' hSw; (try dsimp only at hSw); (obtain ⟨a0, a1, a2⟩ := hSw.a.cells); (have zc := hSw.rd.cell HZ.out); go_simp) ?_
       (try simp only [Act.put]); (try simp only [zPa]); (try simp only [zPb, zPc])
       refine wpAnyH_ready (rs := [16]) (by kernel_rfl) (by simp) ?_
       refine (AllReadyH.cons rfl (fun K hK => ?_) AllReadyH.nil)
       ·rw [if_pos (by kernel_rfl)]
        (try simp only [zGa]); (try simp only [zGb]); (try simp only [zGc])
        go_simp
        with_reducible refine (HCa.out _).mono ?_
        rintro e W' ⟨rfl, rfl⟩
        dsimp only
        skip
        skip
        refine hK.out _ _ (hS) (fun hS => ?_)
        clear hK
        (try simp only [Act.put]); (try simp only [zPa]); (try simp only [zPb, zPc])
        refine tcH (i := 17) (v := .int .i64 ((m : Int) + (a : Int))) rfl (by intro w' hSw; (try dsimp only at hSw); (obtain ⟨a0, a1, a2⟩ := hSw.a.cells); (have zc := hSw.rd.cell HZ.out); go_simp) ?_
        refine tcH (i := 18) (v := .pointer (some ⟨gi, m + a, none⟩)) rfl (by intro w' hSw; (try dsimp only at hSw); (obtain ⟨a0, a1, a2⟩ := hSw.a.cells); (have zc := hSw.rd.cell HZ.out); go_simp) ?_
        refine tcH (i := 19) (v := .int .i64 z) rfl (by intro w' hSw; (try dsimp only at hSw); (obtain ⟨a0, a1, a2⟩ := hSw.a.cells); (have zc := hSw.rd.cell HZ.out); go_simp) ?_
        (try simp only [Act.put]); (try simp only [zPa]); (try simp only [zPb, zPc])
        refine wpAnyH_ready (rs := [20]) (by kernel_rfl) (by simp) ?_
        refine (AllReadyH.cons rfl (fun K hK => ?_) AllReadyH.nil)
        ·rw [if_pos (by kernel_rfl)]
         (try simp only [zGa]); (try simp only [zGb]); (try simp only [zGc])
         refine wp_build1I 57 (.tmp 56) z rfl (by first | with_reducible rfl | (go_simp; done) | rfl) rfl ?_
         intro g5 W' hb hR5
         have hOw := ownI_call hOw hb
         have him := him.call hb
         refine hK.out _ _ (hS.call hb) (fun hS => ?_)
         clear hK
         (try simp only [Act.put]); (try simp only [zPa]); (try simp only [zPb, zPc])
         refine wpAnyH_ready (rs := [21]) (by kernel_rfl) (by simp) ?_
         refine (AllReadyH.cons rfl (fun K hK => ?_) AllReadyH.nil)
         ·rw [if_pos (by kernel_rfl)]
          (try simp only [zGa]); (try simp only [zGb]); (try simp only [zGc])
          have hlt := fun g hg => (hOw.lt g hg).1
          have hbl := him.lt
          refine wp_append1I (.tmp 38) (.tmp 57) rfl (bo + 1) (.slice Av q cv) q (tabI q F) (by first | with_reducible rfl | (go_simp; done) | rfl) hOw g5 z (by first | with_reducible rfl | (go_simp; done) | rfl) hR5 (by omega) (by omega) ?_
          intro g7 c7 w7 hown7 hgr7
          have him7 := him.grown hgr7 (fun e => by have := hlt _ e.symm; omega)
          skip
          skip
          skip
          refine hK.out _ _ (hS.own hgu2 hgr7 (fun k e => by have := hlt _ e; omega)) (fun hS => ?_)
          clear hK
          (try simp only [Act.put]); (try simp only [zPa]); (try simp only [zPb, zPc])
          refine tcH (i := 22) (v := .pointer (some ⟨bo, 2, none⟩)) rfl (by intro w' hSw; (try dsimp only at hSw); (obtain ⟨a0, a1, a2⟩ := hSw.a.cells); (have zc := hSw.rd.cell HZ.out); go_simp) ?_
          (try simp only [Act.put]); (try simp only [zPa]); (try simp only [zPb, zPc])
          refine wpAnyH_ready (rs := [23]) (by kernel_rfl) (by simp) ?_
          refine (AllReadyH.cons rfl (fun K hK => ?_) AllReadyH.nil)
          ·rw [if_pos (by kernel_rfl)]
           (try simp only [zGa]); (try simp only [zGb]); (try simp only [zGc])
           have m2 := him7.cells.2.2
           have f2 := him7.frozen 2
           go_simp
           skip
           skip
           skip
           clear m2 f2
           refine hK.out _ _ (hS.own hgu2 (grown_setI _ bo 2 _) (fun k e => by injection e with e; omega)) (fun hS => ?_)
           clear hK
           (try simp only [Act.put]); (try simp only [zPa]); (try simp only [zPb, zPc])
           refine wpAnyH_done (by kernel_rfl) ?_ _
           go_wp2_with fail
           go_roundg (P - (x + 1))
           case measure => omega
           case rel =>
            refine ⟨x + 1, q + 1, c7, some ⟨g7, 0, none⟩, _, rfl, by omega, by omega, by go_num, Lib.hid (by rw [Hq.out]; omega), hq1, Lib.hid ⟨hS, him7.set2 _, ?_⟩⟩
            rw [tabI_succ, show F q = z by rw [Hq.out]; exact HM.out]
            exact ownI_far hown7 (p := ⟨bo, 2, none⟩) (fun g hg => by have := (hown7.lt g hg).1; dsimp only; omega) _
     ·rw [if_pos (by kernel_rfl)]
      (try simp only [zGa]); (try simp only [zGb]); (try simp only [zGc])
      go_simp
      with_reducible refine (HCb.out _).mono ?_
      rintro e W' ⟨rfl, rfl⟩
      dsimp only
      skip
      skip
      refine hK.out _ _ (hS) (fun hS => ?_)
      clear hK
      (try simp only [Act.put]); (try simp only [zPa]); (try simp only [zPb, zPc])
      refine tcH (i := 11) (v := .int .i64 (m : Int)) rfl (by intro w' hSw; (try dsimp only at hSw); (obtain ⟨a0, a1, a2⟩ := hSw.a.cells); (have zc := hSw.rd.cell HZ.out); go_simp) ?_
      (try simp only [Act.put]); (try simp only [zPa]); (try simp only [zPb, zPc])
      refine wpAnyH_ready (rs := [1, 16]) (by kernel_rfl) (by simp) ?_
      refine (AllReadyH.cons rfl (fun K hK => ?_) (AllReadyH.cons rfl (fun K hK => ?_) AllReadyH.nil))
      ·rw [if_pos (by kernel_rfl)]
       (try simp only [zGa]); (try simp only [zGb]); (try simp only [zGc])
       have m2 := him.cells.2.2
       go_simp
       skip
       skip
       clear m2
       refine hK.out _ _ (hS) (fun hS => ?_)
       clear hK
       (try simp only [Act.put]); (try simp only [zPa]); (try simp only [zPb, zPc])
       refine wpAnyH_ready (rs := [16]) (by kernel_rfl) (by simp) ?_
       refine (AllReadyH.cons rfl (fun K hK => ?_) AllReadyH.nil)
       ·rw [if_pos (by kernel_rfl)]
        (try simp only [zGa]); (try simp only [zGb]); (try simp only [zGc])
        go_simp
        with_reducible refine (HCa.out _).mono ?_
        rintro e W' ⟨rfl, rfl⟩
        dsimp only
        skip
        skip
        refine hK.out _ _ (hS) (fun hS => ?_)
        clear hK
        (try simp only [Act.put]); (try simp only [zPa]); (try simp only [zPb, zPc])
        refine tcH (i := 17) (v := .int .i64 ((m : Int) + (a : Int))) rfl (by intro w' hSw; (try dsimp only at hSw); (obtain ⟨a0, a1, a2⟩ := hSw.a.cells); (have zc := hSw.rd.cell HZ.out); go_simp) ?_
        refine tcH (i := 18) (v := .pointer (some ⟨gi, m + a, none⟩)) rfl (by intro w' hSw; (try dsimp only at hSw); (obtain ⟨a0, a1, a2⟩ := hSw.a.cells); (have zc := hSw.rd.cell HZ.out); go_simp) ?_
        refine tcH (i := 19) (v := .int .i64 z) rfl (by intro w' hSw; (try dsimp only at hSw); (obtain ⟨a0, a1, a2⟩ := hSw.a.cells); (have zc := hSw.rd.cell HZ.out); go_simp) ?_
        (try simp only [Act.put]); (try simp only [zPa]); (try simp only [zPb, zPc])
        refine wpAnyH_ready (rs := [20]) (by kernel_rfl) (by simp) ?_
        refine (AllReadyH.cons rfl (fun K hK => ?_) AllReadyH.nil)
        ·rw [if_pos (by kernel_rfl)]
         (try simp only [zGa]); (try simp only [zGb]); (try simp only [zGc])
         refine wp_build1I 57 (.tmp 56) z rfl (by first | with_reducible rfl | (go_simp; done) | rfl) rfl ?_
         intro g5 W' hb hR5
         have hOw := ownI_call hOw hb
         have him := him.call hb
         refine hK.out _ _ (hS.call hb) (fun hS => ?_)
         clear hK
         (try simp only [Act.put]); (try simp only [zPa]); (try simp only [zPb, zPc])
         refine wpAnyH_ready (rs := [21]) (by kernel_rfl) (by simp) ?_
         refine (AllReadyH.cons rfl (fun K hK => ?_) AllReadyH.nil)
         ·rw [if_pos (by kernel_rfl)]
          (try simp only [zGa]); (try simp only [zGb]); (try simp only [zGc])
          have hlt := fun g hg => (hOw.lt g hg).1
          have hbl := him.lt
          refine wp_append1I (.tmp 38) (.tmp 57) rfl (bo + 1) (.slice Av q cv) q (tabI q F) (by first | with_reducible rfl | (go_simp; done) | rfl) hOw g5 z (by first | with_reducible rfl | (go_simp; done) | rfl) hR5 (by omega) (by omega) ?_
          intro g7 c7 w7 hown7 hgr7
          have him7 := him.grown hgr7 (fun e => by have := hlt _ e.symm; omega)
          skip
          skip
          skip
          refine hK.out _ _ (hS.own hgu2 hgr7 (fun k e => by have := hlt _ e; omega)) (fun hS => ?_)
          clear hK
          (try simp only [Act.put]); (try simp only [zPa]); (try simp only [zPb, zPc])
          refine tcH (i := 22) (v := .pointer (some ⟨bo, 2, none⟩)) rfl (by intro w' hSw; (try dsimp only at hSw); (obtain ⟨a0, a1, a2⟩ := hSw.a.cells); (have zc := hSw.rd.cell HZ.out); go_simp) ?_
          (try simp only [Act.put]); (try simp only [zPa]); (try simp only [zPb, zPc])
          refine wpAnyH_ready (rs := [23]) (by kernel_rfl) (by simp) ?_
          refine (AllReadyH.cons rfl (fun K hK => ?_) AllReadyH.nil)
          ·rw [if_pos (by kernel_rfl)]
           (try simp only [zGa]); (try simp only [zGb]); (try simp only [zGc])
           have m2 := him7.cells.2.2
           have f2 := him7.frozen 2
           go_simp
           skip
           skip
           skip
           clear m2 f2
           refine hK.out _ _ (hS.own hgu2 (grown_setI _ bo 2 _) (fun k e => by injection e with e; omega)) (fun hS => ?_)
           clear hK
           (try simp only [Act.put]); (try simp only [zPa]); (try simp only [zPb, zPc])
           refine wpAnyH_done (by kernel_rfl) ?_ _
           go_wp2_with fail
           go_roundg (P - (x + 1))
           case measure => omega
           case rel =>
            refine ⟨x + 1, q + 1, c7, some ⟨g7, 0, none⟩, _, rfl, by omega, by omega, by go_num, Lib.hid (by rw [Hq.out]; omega), hq1, Lib.hid ⟨hS, him7.set2 _, ?_⟩⟩
            rw [tabI_succ, show F q = z by rw [Hq.out]; exact HM.out]
            exact ownI_far hown7 (p := ⟨bo, 2, none⟩) (fun g hg => by have := (hown7.lt g hg).1; dsimp only; omega) _
      ·rw [if_pos (by kernel_rfl)]
       (try simp only [zGa]); (try simp only [zGb]); (try simp only [zGc])
       go_simp
       with_reducible refine (HCa.out _).mono ?_
       rintro e W' ⟨rfl, rfl⟩
       dsimp only
       skip
       skip
       refine hK.out _ _ (hS) (fun hS => ?_)
       clear hK
       (try simp only [Act.put]); (try simp only [zPa]); (try simp only [zPb, zPc])
       refine tcH (i := 17) (v := .int .i64 ((m : Int) + (a : Int))) rfl (by intro w' hSw; (try dsimp only at hSw); (obtain ⟨a0, a1, a2⟩ := hSw.a.cells); (have zc := hSw.rd.cell HZ.out); go_simp) ?_
       refine tcH (i := 18) (v := .pointer (some ⟨gi, m + a, none⟩)) rfl (by intro w' hSw; (try dsimp only at hSw); (obtain ⟨a0, a1, a2⟩ := hSw.a.cells); (have zc := hSw.rd.cell HZ.out); go_simp) ?_
       refine tcH (i := 19) (v := .int .i64 z) rfl (by intro w' hSw; (try dsimp only at hSw); (obtain ⟨a0, a1, a2⟩ := hSw.a.cells); (have zc := hSw.rd.cell HZ.out); go_simp) ?_
       (try simp only [Act.put]); (try simp only [zPa]); (try simp only [zPb, zPc])
       refine wpAnyH_ready (rs := [1, 20]) (by kernel_rfl) (by simp) ?_
       refine (AllReadyH.cons rfl (fun K hK => ?_) (AllReadyH.cons rfl (fun K hK => ?_) AllReadyH.nil))
       ·rw [if_pos (by kernel_rfl)]
        (try simp only [zGa]); (try simp only [zGb]); (try simp only [zGc])
        have m2 := him.cells.2.2
        go_simp
        skip
        skip
        clear m2
        refine hK.out _ _ (hS) (fun hS => ?_)
        clear hK
        (try simp only [Act.put]); (try simp only [zPa]); (try simp only [zPb, zPc])
        refine wpAnyH_ready (rs := [20]) (by kernel_rfl) (by simp) ?_
        refine (AllReadyH.cons rfl (fun K hK => ?_) AllReadyH.nil)
        ·rw [if_pos (by kernel_rfl)]
         (try simp only [zGa]); (try simp only [zGb]); (try simp only [zGc])
         refine wp_build1I 57 (.tmp 56) z rfl (by first | with_reducible rfl | (go_simp; done) | rfl) rfl ?_
         intro g5 W' hb hR5
         have hOw := ownI_call hOw hb
         have him := him.call hb
         refine hK.out _ _ (hS.call hb) (fun hS => ?_)
         clear hK
         (try simp only [Act.put]); (try simp only [zPa]); (try simp only [zPb, zPc])
         refine wpAnyH_ready (rs := [21]) (by kernel_rfl) (by simp) ?_
         refine (AllReadyH.cons rfl (fun K hK => ?_) AllReadyH.nil)
         ·rw [if_pos (by kernel_rfl)]
          (try simp only [zGa]); (try simp only [zGb]); (try simp only [zGc])
          have hlt := fun g hg => (hOw.lt g hg).1
          have hbl := him.lt
          refine wp_append1I (.tmp 38) (.tmp 57) rfl (bo + 1) (.slice Av q cv) q (tabI q F) (by first | with_reducible rfl | (go_simp; done) | rfl) hOw g5 z (by first | with_reducible rfl | (go_simp; done) | rfl) hR5 (by omega) (by omega) ?_
          intro g7 c7 w7 hown7 hgr7
          have him7 := him.grown hgr7 (fun e => by have := hlt _ e.symm; omega)
          skip
          skip
          skip
          refine hK.out _ _ (hS.own hgu2 hgr7 (fun k e => by have := hlt _ e; omega)) (fun hS => ?_)
          clear hK
          (try simp only [Act.put]); (try simp only [zPa]); (try simp only [zPb, zPc])
          refine tcH (i := 22) (v := .pointer (some ⟨bo, 2, none⟩)) rfl (by intro w' hSw; (try dsimp only at hSw); (obtain ⟨a0, a1, a2⟩ := hSw.a.cells); (have zc := hSw.rd.cell HZ.out); go_simp) ?_
          (try simp only [Act.put]); (try simp only [zPa]); (try simp only [zPb, zPc])
          refine wpAnyH_ready (rs := [23]) (by kernel_rfl) (by simp) ?_
          refine (AllReadyH.cons rfl (fun K hK => ?_) AllReadyH.nil)
          ·rw [if_pos (by kernel_rfl)]
           (try simp only [zGa]); (try simp only [zGb]); (try simp only [zGc])
           have m2 := him7.cells.2.2
           have f2 := him7.frozen 2
           go_simp
           skip
           skip
           skip
           clear m2 f2
           refine hK.out _ _ (hS.own hgu2 (grown_setI _ bo 2 _) (fun k e => by injection e with e; omega)) (fun hS => ?_)
           clear hK
           (try simp only [Act.put]); (try simp only [zPa]); (try simp only [zPb, zPc])
           refine wpAnyH_done (by kernel_rfl) ?_ _
           go_wp2_with fail
           go_roundg (P - (x + 1))
           case measure => omega
           case rel =>
            refine ⟨x + 1, q + 1, c7, some ⟨g7, 0, none⟩, _, rfl, by omega, by omega, by go_num, Lib.hid (by rw [Hq.out]; omega), hq1, Lib.hid ⟨hS, him7.set2 _, ?_⟩⟩
            rw [tabI_succ, show F q = z by rw [Hq.out]; exact HM.out]
            exact ownI_far hown7 (p := ⟨bo, 2, none⟩) (fun g hg => by have := (hown7.lt g hg).1; dsimp only; omega) _
       ·rw [if_pos (by kernel_rfl)]
        (try simp only [zGa]); (try simp only [zGb]); (try simp only [zGc])
        refine wp_build1I 57 (.tmp 56) z rfl (by first | with_reducible rfl | (go_simp; done) | rfl) rfl ?_
        intro g5 W' hb hR5
        have hOw := ownI_call hOw hb
        have him := him.call hb
        refine hK.out _ _ (hS.call hb) (fun hS => ?_)
        clear hK
        (try simp only [Act.put]); (try simp only [zPa]); (try simp only [zPb, zPc])
        refine wpAnyH_ready (rs := [1]) (by kernel_rfl) (by simp) ?_
        refine (AllReadyH.cons rfl (fun K hK => ?_) AllReadyH.nil)
        ·rw [if_pos (by kernel_rfl)]
         (try simp only [zGa]); (try simp only [zGb]); (try simp only [zGc])
         have m2 := him.cells.2.2
         go_simp
         skip
         skip
         skip
         clear m2
         refine hK.out _ _ (hS) (fun hS => ?_)
         clear hK
         (try simp only [Act.put]); (try simp only [zPa]); (try simp only [zPb, zPc])
         refine wpAnyH_ready (rs := [21]) (by kernel_rfl) (by simp) ?_
         refine (AllReadyH.cons rfl (fun K hK => ?_) AllReadyH.nil)
         ·rw [if_pos (by kernel_rfl)]
          (try simp only [zGa]); (try simp only [zGb]); (try simp only [zGc])
          have hlt := fun g hg => (hOw.lt g hg).1
          have hbl := him.lt
          refine wp_append1I (.tmp 38) (.tmp 57) rfl (bo + 1) (.slice Av q cv) q (tabI q F) (by first | with_reducible rfl | (go_simp; done) | rfl) hOw g5 z (by first | with_reducible rfl | (go_simp; done) | rfl) hR5 (by omega) (by omega) ?_
          intro g7 c7 w7 hown7 hgr7
          have him7 := him.grown hgr7 (fun e => by have := hlt _ e.symm; omega)
          skip
          skip
          skip
          refine hK.out _ _ (hS.own hgu2 hgr7 (fun k e => by have := hlt _ e; omega)) (fun hS => ?_)
          clear hK
          (try simp only [Act.put]); (try simp only [zPa]); (try simp only [zPb, zPc])
          refine tcH (i := 22) (v := .pointer (some ⟨bo, 2, none⟩)) rfl (by intro w' hSw; (try dsimp only at hSw); (obtain ⟨a0, a1, a2⟩ := hSw.a.cells); (have zc := hSw.rd.cell HZ.out); go_simp) ?_
          (try simp only [Act.put]); (try simp only [zPa]); (try simp only [zPb, zPc])
          refine wpAnyH_ready (rs := [23]) (by kernel_rfl) (by simp) ?_
          refine (AllReadyH.cons rfl (fun K hK => ?_) AllReadyH.nil)
          ·rw [if_pos (by kernel_rfl)]
           (try simp only [zGa]); (try simp only [zGb]); (try simp only [zGc])
           have m2 := him7.cells.2.2
           have f2 := him7.frozen 2
           go_simp
           skip
           skip
           skip
           clear m2 f2
           refine hK.out _ _ (hS.own hgu2 (grown_setI _ bo 2 _) (fun k e => by injection e with e; omega)) (fun hS => ?_)
           clear hK
           (try simp only [Act.put]); (try simp only [zPa]); (try simp only [zPb, zPc])
           refine wpAnyH_done (by kernel_rfl) ?_ _
           go_wp2_with fail
           go_roundg (P - (x + 1))
           case measure => omega
           case rel =>
            refine ⟨x + 1, q + 1, c7, some ⟨g7, 0, none⟩, _, rfl, by omega, by omega, by go_num, Lib.hid (by rw [Hq.out]; omega), hq1, Lib.hid ⟨hS, him7.set2 _, ?_⟩⟩
            rw [tabI_succ, show F q = z by rw [Hq.out]; exact HM.out]
            exact ownI_far hown7 (p := ⟨bo, 2, none⟩) (fun g hg => by have := (hown7.lt g hg).1; dsimp only; omega) _
    ·obtain rfl : x = P := by omega
     go_wp2_with fail
     go_roundg (Q - (y + 1))
     case measure => omega
     case rel => exact ⟨y + 1, q, cv, Av, _, rfl, by omega, by omega, by go_num, Lib.hid (by rw [Hq.out, Nat.add_mul, Nat.one_mul]; rfl), hq, HS⟩
  ·obtain rfl : y = Q := by omega
   have hr := HS.out.o.r
   obtain ⟨r0, r1, r2⟩ := hr.cells
   obtain ⟨m0, m1, m2⟩ := HS.out.im.cells
   have f0 := hr.frozen 0
   have f1 := hr.frozen 1
   have f2 := hr.frozen 2
   have HJ := Lib.hid (hr.set3 P y (.slice Av q cv))
   clear hr
   go_wp2_with fail
   obtain ⟨s0, s1, s2⟩ := HJ.out.cells
   exact bodyPost_ret (v := .agg #[.int .i64 P, .int .i64 y, .slice Av q cv]) (by simp [results, Tryz.results201, go_sem, s0, s1, s2]) rfl (by
    rw [HA.out, ← HF.out, show P * y = q by rw [Hq.out, Nat.mul_comm]; rfl]
    exact ans_set HS.out.own (tabI_length _ _) (by omega) (by omega) HS.out.o.bw)
set_option maxHeartbeats 600000 in
theorem sclS_bad1 (X Y P Q : Int) (v : Value) (L : List Int) (w : World) (hv : RdI w v L) (h1 : ¬ imOk X Y L) :
  Calls Tryz.prog 201 #[.agg #[.int .i64 X, .int .i64 Y, v], .int .i64 P, .int .i64 Q] w (AnsIm (rsIm sclN X Y L P Q) w) := by
 have HA := Lib.hid (rs_no sclN (X := X) (Y := Y) (L := L) (w := P) (h := Q) (fun h => h1 h.1))
 have hS := OrA.born w X Y hv
 have H1 := Lib.hid h1
 clear h1
 obtain ⟨A, c, rfl⟩ := hv.form
 obtain ⟨a0, a1, a2⟩ := hS.a.cells
 go_enter Tryz.func201, Tryz.ntmps201
 go_wp2_with fail
 refine (imS X Y _ L _ hS.rd).mono ?_
 rintro e w2 ⟨rfl, hb⟩
 replace hS := hS.call hb
 clear hb a0 a1 a2
 rw [imB_no H1.out]
 have hr := hS.r
 obtain ⟨r0, r1, r2⟩ := hr.cells
 have f0 := hr.frozen 0
 have f1 := hr.frozen 1
 have f2 := hr.frozen 2
 have HJ := Lib.hid (hr.set3 0 0 (.slice none 0 0))
 have HS := Lib.hid hS
 clear hr hS
 go_wp2_with fail
 obtain ⟨s0, s1, s2⟩ := HJ.out.cells
 exact bodyPost_ret (v := .agg #[.int .i64 0, .int .i64 0, .slice none 0 0]) (by simp [results, Tryz.results201, go_sem, s0, s1, s2]) rfl (by rw [HA.out]; exact or_zero HS.out)
set_option maxHeartbeats 600000 in
theorem sclS_bad2 (X Y P Q : Int) (v : Value) (L : List Int) (w : World) (hv : RdI w v L) (h1 : imOk X Y L) (h2 : P < 1 ∨ 16 < P) :
  Calls Tryz.prog 201 #[.agg #[.int .i64 X, .int .i64 Y, v], .int .i64 P, .int .i64 Q] w (AnsIm (rsIm sclN X Y L P Q) w) := by
 have HA := Lib.hid (rs_no sclN (X := X) (Y := Y) (L := L) (w := P) (h := Q) (fun h => by have := h.2; unfold szOk at this; omega))
 have hS := OrA.born w X Y hv
 have H1 := Lib.hid h1
 have H2 := Lib.hid h2
 clear h1 h2
 obtain ⟨A, c, rfl⟩ := hv.form
 obtain ⟨a0, a1, a2⟩ := hS.a.cells
 go_enter Tryz.func201, Tryz.ntmps201
 go_wp2_with fail
 refine (imS X Y _ L _ hS.rd).mono ?_
 rintro e w2 ⟨rfl, hb⟩
 replace hS := hS.call hb
 clear hb a0 a1 a2
 rw [imB_yes H1.out]
 go_wp2_with fail
 refine (inS_no _ _ _ _ H2.out).mono ?_
 rintro e w' ⟨rfl, rfl⟩
 have hr := hS.r
 obtain ⟨r0, r1, r2⟩ := hr.cells
 have f0 := hr.frozen 0
 have f1 := hr.frozen 1
 have f2 := hr.frozen 2
 have HJ := Lib.hid (hr.set3 0 0 (.slice none 0 0))
 have HS := Lib.hid hS
 clear hr hS
 go_wp2_with fail
 obtain ⟨s0, s1, s2⟩ := HJ.out.cells
 exact bodyPost_ret (v := .agg #[.int .i64 0, .int .i64 0, .slice none 0 0]) (by simp [results, Tryz.results201, go_sem, s0, s1, s2]) rfl (by rw [HA.out]; exact or_zero HS.out)
set_option maxHeartbeats 600000 in
theorem sclS_bad3 (X Y P Q : Int) (v : Value) (L : List Int) (w : World) (hv : RdI w v L) (h1 : imOk X Y L) (h3 : 1 ≤ P ∧ P ≤ 16) (h2 : Q < 1 ∨ 16 < Q) :
  Calls Tryz.prog 201 #[.agg #[.int .i64 X, .int .i64 Y, v], .int .i64 P, .int .i64 Q] w (AnsIm (rsIm sclN X Y L P Q) w) := by
 have HA := Lib.hid (rs_no sclN (X := X) (Y := Y) (L := L) (w := P) (h := Q) (fun h => by have := h.2; unfold szOk at this; omega))
 have hS := OrA.born w X Y hv
 have H1 := Lib.hid h1
 have H2 := Lib.hid h2
 clear h1 h2
 obtain ⟨A, c, rfl⟩ := hv.form
 obtain ⟨a0, a1, a2⟩ := hS.a.cells
 go_enter Tryz.func201, Tryz.ntmps201
 go_wp2_with fail
 refine (imS X Y _ L _ hS.rd).mono ?_
 rintro e w2 ⟨rfl, hb⟩
 replace hS := hS.call hb
 clear hb a0 a1 a2
 rw [imB_yes H1.out]
 go_wp2_with fail
 refine (inS_yes _ _ _ _ (by omega) (by omega)).mono ?_
 rintro e w' ⟨rfl, rfl⟩
 go_wp2_with fail
 refine (inS_no _ _ _ _ H2.out).mono ?_
 rintro e w' ⟨rfl, rfl⟩
 have hr := hS.r
 obtain ⟨r0, r1, r2⟩ := hr.cells
 have f0 := hr.frozen 0
 have f1 := hr.frozen 1
 have f2 := hr.frozen 2
 have HJ := Lib.hid (hr.set3 0 0 (.slice none 0 0))
 have HS := Lib.hid hS
 clear hr hS
 go_wp2_with fail
 obtain ⟨s0, s1, s2⟩ := HJ.out.cells
 exact bodyPost_ret (v := .agg #[.int .i64 0, .int .i64 0, .slice none 0 0]) (by simp [results, Tryz.results201, go_sem, s0, s1, s2]) rfl (by rw [HA.out]; exact or_zero HS.out)
theorem sclS_any (X Y P Q : Int) (v : Value) (L : List Int) (w : World) (hv : RdI w v L) :
  Calls Tryz.prog 201 #[.agg #[.int .i64 X, .int .i64 Y, v], .int .i64 P, .int .i64 Q] w (AnsIm (rsIm sclN X Y L P Q) w) := by
 by_cases h1 : imOk X Y L
 ·by_cases h3 : 1 ≤ P ∧ P ≤ 16
  ·by_cases h2 : szOk P Q
   ·obtain ⟨W, H, rfl, rfl, _⟩ := im_nat h1
    obtain ⟨p, q, rfl, rfl, _⟩ := sz_nat h2
    exact sclS_ok W H p q v L w h1 h2 hv
   ·exact sclS_bad3 X Y P Q v L w hv h1 h3 (by unfold szOk at h2; omega)
  ·exact sclS_bad2 X Y P Q v L w hv h1 (by omega)
 ·exact sclS_bad1 X Y P Q v L w hv h1
end Go.Proofs.YtokniebejilcbaaGreat
