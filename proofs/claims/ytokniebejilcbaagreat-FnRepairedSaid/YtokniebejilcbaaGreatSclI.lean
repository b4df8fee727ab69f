/- The contracts of resampled, Scaled and TileImage. No statement is proved here. -/
import Derived.Test.YtokniebejilcbaaGreatMA
import Derived.Test.YtokniebejilcbaaGreatMB
import Derived.Test.YtokniebejilcbaaGreatMC
import Derived.Test.YtokniebejilcbaaGreatCpyI
import Derived.Test.YtokniebejilcbaaGreatFilB
import Derived.Test.YtokniebejilcbaaGreatOrdB
import Derived.Test.YtokniebejilcbaaGreatOrdS
import Derived.Test.YtokniebejilcbaaGreatOrdI
import Derived.Test.YtokniebejilcbaaGreatOrdA
import Derived.Test.YtokniebejilcbaaGreatSclB
import Derived.Test.YtokniebejilcbaaGreatProg
import Derived.WalkKit
import Derived.ProofKit
import Derived.OpenShut
import Derived.WalkLawsBesides
import Derived.WalkSpells
import Derived.ShutString
import Derived.ChangeOld
import Derived.Below
import Derived.Lib.Hide
import Derived.Deep.MidRow
import Derived.Deep.WholeRow
import Derived.Maps.AppendAt
import Derived.BigQuiet
import Derived.Deep.QuietTactic
import Derived.Deep.OwnRows
import Derived.Handy
import Derived.Deep.Draws
import Derived.OwnWalk
import Derived.Deep.AppendLies
import Derived.Deep.LoopGhost
import Derived.Deep.Onto
import Derived.Laws.BitsAllLaws
import Derived.Lib.QuoteBits
import Derived.Deep.RegionHeld3
import Derived.Deep.DeepCutAuto
import Derived.Test.YtokniebejilcbaaGreatShelf
import Derived.Laws.CopyOwn
import Derived.Deep.RegionLaw
import Derived.Great.BuildSlice
import Derived.Laws.AppendOwn
namespace Go.Proofs.YtokniebejilcbaaGreat
open Go.RowKit
set_option maxHeartbeats 2000000 in
set_option maxRecDepth 10000 in
theorem rsI_ok (fid : Nat) (S : Nat → Nat → Nat → Nat) (HE : ∀ args w, (callFunc fid args).run Tryz.prog w = .ok (.enter fid args) w)
  (HK : ∀ (f t k : Nat) V, 1 ≤ f ∧ f ≤ 16 → 1 ≤ t ∧ t ≤ 16 → k < t → Calls Tryz.prog fid #[.int .i64 f, .int .i64 t, .int .i64 k] V fun e w' => e = .returned (.int .i64 (S f t k : Nat)) ∧ V = w') (hPl : PlOk S) (W H P Q : Nat) (v : Value) (L : List Int) (w : World) (h1 : imOk W H L) (h2 : szOk P Q) (hv : RdI w v L) :
  Calls Tryz.prog 235 #[.agg #[.int .i64 W, .int .i64 H, v], .int .i64 P, .int .i64 Q, .func (.func fid) #[] #[]] w (AnsIm (rsIm S W H L P Q) w) := by
 obtain ⟨i0, hi, hz0, hz1, hz2⟩ := info_parts infoInt
 have HK := Lib.hid HK
 have HA := Lib.hid (rs_yes S h1 h2)
 obtain ⟨W2, H2, e1, e2, wl, wh, hl, hh, hL⟩ := im_nat h1
 obtain rfl : W = W2 := by exact_mod_cast e1
 obtain rfl : H = H2 := by exact_mod_cast e2
 clear e1 e2
 obtain ⟨P1, P2, Q1, Q2⟩ : 1 ≤ P ∧ P ≤ 16 ∧ 1 ≤ Q ∧ Q ≤ 16 := by unfold szOk at h2; omega
 obtain ⟨gi, c, rfl, hgi, hcu⟩ := rd_block hv (by rw [hL]; exact Nat.mul_pos wl hl)
 have hgu2 : ∀ g, (Value.slice (some ⟨gi, 0, none⟩) L.length c).ownBlock = some g → g < w.heap.size := fun g hg => (Option.some.inj hg) ▸ hgi
 have hS := OrA.born w W H hv
 have HL := Lib.hid hL
 have Hi := Lib.hid h1
 have H2 := Lib.hid h2
 have hL256 : L.length ≤ 256 := by rw [hL]; exact mul_256 wh hh
 obtain ⟨N, hN⟩ : ∃ N, N = P * Q := ⟨_, rfl⟩
 have e1 : (P : Int) * (Q : Int) = (N : Int) := by rw [hN]; simp
 have hN256 : N ≤ 256 := by rw [hN]; exact mul_256 P2 Q2
 have HN := Lib.hid hN
 obtain ⟨F, hF⟩ : ∃ F, F = rsF S W H P Q L := ⟨_, rfl⟩
 have HF := Lib.hid hF
 clear hL h1 h2 hv hN hF
 obtain ⟨a0, a1, a2⟩ := hS.a.cells
 go_enter Tryz.func235, Tryz.ntmps235
 go_wp2_with fail
 refine (imI W H _ L _ hS.rd).mono ?_
 rintro e w2 ⟨rfl, hb⟩
 replace hS := hS.call hb
 clear hb a0 a1 a2
 rw [imB_yes Hi.out]
 go_wp2_with fail
 refine (szI_yes P Q H2.out _).mono ?_
 rintro e w' ⟨rfl, rfl⟩
 have hsz := hS.r.lt
 go_wp2_with (at_make; refine wpList_make_own _ rfl _ _ 53 rfl (w.heap.size + 2) 3 i0 (.int .i64 0) 1 Tryz.underlying53 hi hz0 hz1 .i64 .i64 _ N rfl rfl (by first | rfl | exact e1 | simp) (by rw [hz2]; omega) (by unfold maxLen; omega) (by omega) ?_; intro w1 hown1 hgr1; have HS := Lib.hid (RsI.start hS hgu2 hown1 hgr1); clear hown1 hgr1 hS hsz)
 go_loopg [9, 27] Q (fun gk s9 s27 wr => ∃ (y q cv : Nat) (Av : Option Addr) (V : World), V = wr ∧ y ≤ Q ∧ gk = Q - y ∧ s9 = .slice Av q cv ∧ s27 = .int .i64 y ∧ Hid (q = y * P + 0) ∧ q ≤ 256 ∧ Hid (RsI w W H (.slice (some ⟨gi, 0, none⟩) L.length c) L (.slice Av q cv) q (tabI q F) V))
 case atStart => exact ⟨0, 0, _, _, _, rfl, by omega, by omega, rfl, rfl, Lib.hid (by simp), by omega, HS⟩
 case round =>
  clear HS
  obtain ⟨y, q, cv, Av, wy, hV, hy2, rfl, rfl, rfl, Hq, hq, HS⟩ := hrel
  subst hV
  by_cases hyl : y < Q
  ·have hyi : (y : Int) < (Q : Int) := by omega
   go_wp2_with fail
   go_loopg [9, 31] P (fun g9 s9 s31 wz => ∃ (x q cv : Nat) (Av : Option Addr) (V : World), V = wz ∧ x ≤ P ∧ g9 = P - x ∧ s9 = .slice Av q cv ∧ s31 = .int .i64 x ∧ Hid (q = y * P + x) ∧ q ≤ 256 ∧ Hid (RsI w W H (.slice (some ⟨gi, 0, none⟩) L.length c) L (.slice Av q cv) q (tabI q F) V))
   case atStart => exact ⟨0, q, cv, Av, _, rfl, by omega, by omega, rfl, rfl, Hq, hq, HS⟩
   case round =>
    clear HS Hq hq
    obtain ⟨x, q, cv, Av, wx, hV, hx2, rfl, rfl, rfl, Hq, hq, HS⟩ := hrel
    subst hV
    by_cases hxl : x < P
    ·have hxi : (x : Int) < (P : Int) := by omega
     obtain ⟨a, b, z, ha, hb, ha2, hb2, hk, hz, hF⟩ := rs_src hPl HL.out wl hl hxl hyl
     have HCa : Hid (∀ V, Calls Tryz.prog fid #[.int .i64 W, .int .i64 P, .int .i64 x] V fun e w' => e = .returned (.int .i64 (a : Nat)) ∧ V = w') := Lib.hid (fun V => by have h := HK.out W P x V ⟨wl, wh⟩ ⟨P1, P2⟩ hxl; rw [ha] at h; exact h)
     have HCb : Hid (∀ V, Calls Tryz.prog fid #[.int .i64 H, .int .i64 Q, .int .i64 y] V fun e w' => e = .returned (.int .i64 (b : Nat)) ∧ V = w') := Lib.hid (fun V => by have h := HK.out H Q y V ⟨hl, hh⟩ ⟨Q1, Q2⟩ hyl; rw [hb] at h; exact h)
     have HX : Hid (∀ (V : World), RdI V (.slice (some ⟨gi, 0, none⟩) L.length c) L → Calls Tryz.prog 71 #[.agg #[.int .i64 (W : Int), .int .i64 (H : Int), .slice (some ⟨gi, 0, none⟩) L.length c], .int .i64 (a : Int), .int .i64 (b : Int)] V fun e w' => e = .returned (.int .i64 z) ∧ Below V.heap.size V w') := Lib.hid (fun V h => by
      have h2 := pixelI W H a b _ L V Hi.out (by omega) (by omega) h
      rw [show ((b : Int) * (W : Int) + (a : Int)).toNat = b * W + a by exact_mod_cast Int.toNat_natCast (b * W + a), List.getD_eq_getElem?_getD, hz] at h2
      exact h2)
     have HM : Hid (F (y * P + x) = z) := Lib.hid (by rw [HF.out]; exact hF)
     have hq1 : q + 1 ≤ 256 := by have h5 := plc_lt hxl hyl; rw [← HN.out, ← Hq.out] at h5; omega
     clear ha hb ha2 hb2 hk hz hF
     obtain ⟨a0, a1, a2⟩ := HS.out.o.a.cells
     go_upto_region 10 with fail
     clear a0 a1 a2
     refine wp_region_held_drew (S := fun V => OrA w W H (.slice (some ⟨gi, 0, none⟩) L.length c) L V) (by kernel_rfl) (HS.out.o.call (Below.refl _ _).drew) (fun hS => ?_)
     have hOw := show World.ownsRow wx.drew _ _ _ _ _ _ from HS.out.own
     refine tcH (i := 0) (v := .slice Av q cv) rfl (by intro w' hSw; (try dsimp only at hSw); (obtain ⟨a0, a1, a2⟩ := hSw.a.cells); go_simp) ?_
     refine tcH (i := 1) (v := .agg #[.int .i64 (W : Int), .int .i64 (H : Int), .slice (some ⟨gi, 0, none⟩) L.length c]) rfl (by intro w' hSw; (try dsimp only at hSw); (obtain ⟨a0, a1, a2⟩ := hSw.a.cells); go_simp) ?_
     refine tcH (i := 2) (v := .func (.func fid) #[] #[]) rfl (by intro w' hSw; (try dsimp only at hSw); (obtain ⟨a0, a1, a2⟩ := hSw.a.cells); go_simp) ?_
     refine tcH (i := 3) (v := .pointer (some ⟨w.heap.size, 0, none⟩)) rfl (by intro w' hSw; (try dsimp only at hSw); (obtain ⟨a0, a1, a2⟩ := hSw.a.cells); go_simp) ?_
     refine tcH (i := 4) (v := .int .i64 (W : Int)) rfl (by intro w' hSw; (try dsimp only at hSw); (obtain ⟨a0, a1, a2⟩ := hSw.a.cells); go_simp) ?_
     refine tcH (i := 5) (v := .int .i64 (P : Int)) rfl (by intro w' hSw; (try dsimp only at hSw); (obtain ⟨a0, a1, a2⟩ := hSw.a.cells); go_simp) ?_
     refine tcH (i := 6) (v := .int .i64 (x : Int)) rfl (by intro w' hSw; (try dsimp only at hSw); (obtain ⟨a0, a1, a2⟩ := hSw.a.cells); go_simp) ?_
     refine tcH (i := 8) (v := .func (.func fid) #[] #[]) rfl (by intro w' hSw; (try dsimp only at hSw); (obtain ⟨a0, a1, a2⟩ := hSw.a.cells); go_simp) ?_
     refine tcH (i := 9) (v := .pointer (some ⟨w.heap.size, 1, none⟩)) rfl (by intro w' hSw; (try dsimp only at hSw); (obtain ⟨a0, a1, a2⟩ := hSw.a.cells); go_simp) ?_
     refine tcH (i := 10) (v := .int .i64 (H : Int)) rfl (by intro w' hSw; (try dsimp only at hSw); (obtain ⟨a0, a1, a2⟩ := hSw.a.cells); go_simp) ?_
     refine tcH (i := 11) (v := .int .i64 (Q : Int)) rfl (by intro w' hSw; (try dsimp only at hSw); (obtain ⟨a0, a1, a2⟩ := hSw.a.cells); go_simp) ?_
     refine tcH (i := 12) (v := .int .i64 (y : Int)) rfl (by intro w' hSw; (try dsimp only at hSw); (obtain ⟨a0, a1, a2⟩ := hSw.a.cells); go_simp) ?_
     (try simp only [Act.put]); (try simp only [zPa]); (try simp only [zPb, zPc])
     refine wpAnyH_ready (rs := [7]) (by kernel_rfl) (by simp) ?_
     refine (AllReadyH.cons rfl (fun K hK => ?_) AllReadyH.nil)
     ·rw [if_pos (by kernel_rfl)]
      (try simp only [zGa]); (try simp only [zGb]); (try simp only [zGc])
      go_simp
      with_reducible refine (HCa.out _).mono ?_
      rintro e W' ⟨rfl, rfl⟩
      dsimp only
      skip
      refine hK.out _ _ (hS) (fun hS => ?_)
      clear hK
      (try simp only [Act.put]); (try simp only [zPa]); (try simp only [zPb, zPc])
      refine wpAnyH_ready (rs := [13]) (by kernel_rfl) (by simp) ?_
      refine (AllReadyH.cons rfl (fun K hK => ?_) AllReadyH.nil)
      ·rw [if_pos (by kernel_rfl)]
       (try simp only [zGa]); (try simp only [zGb]); (try simp only [zGc])
       go_simp
       with_reducible refine (HCb.out _).mono ?_
       rintro e W' ⟨rfl, rfl⟩
       dsimp only
       skip
       refine hK.out _ _ (hS) (fun hS => ?_)
       clear hK
       (try simp only [Act.put]); (try simp only [zPa]); (try simp only [zPb, zPc])
       refine wpAnyH_ready (rs := [14]) (by kernel_rfl) (by simp) ?_
       refine (AllReadyH.cons rfl (fun K hK => ?_) AllReadyH.nil)
       ·rw [if_pos (by kernel_rfl)]
        (try simp only [zGa]); (try simp only [zGb]); (try simp only [zGc])
        go_simp
        with_reducible refine (HX.out _ hS.rd).mono ?_
        rintro e W' ⟨rfl, hb⟩
        dsimp only
        have hOw := ownI_call hOw hb
        refine hK.out _ _ (hS.call hb) (fun hS => ?_)
        clear hK
        (try simp only [Act.put]); (try simp only [zPa]); (try simp only [zPb, zPc])
        refine wpAnyH_ready (rs := [15]) (by kernel_rfl) (by simp) ?_
        refine (AllReadyH.cons rfl (fun K hK => ?_) AllReadyH.nil)
        ·rw [if_pos (by kernel_rfl)]
         (try simp only [zGa]); (try simp only [zGb]); (try simp only [zGc])
         refine wp_build1I 49 (.tmp 48) z rfl (by first | with_reducible rfl | (go_simp; done) | rfl) rfl ?_
         intro g5 W' hb hR5
         have hOw := ownI_call hOw hb
         refine hK.out _ _ (hS.call hb) (fun hS => ?_)
         clear hK
         (try simp only [Act.put]); (try simp only [zPa]); (try simp only [zPb, zPc])
         refine wpAnyH_ready (rs := [16]) (by kernel_rfl) (by simp) ?_
         refine (AllReadyH.cons rfl (fun K hK => ?_) AllReadyH.nil)
         ·rw [if_pos (by kernel_rfl)]
          (try simp only [zGa]); (try simp only [zGb]); (try simp only [zGc])
          have hlt := fun g hg => (hOw.lt g hg).1
          have hsz := hS.r.lt
          refine wp_append1I (.tmp 34) (.tmp 49) rfl (w.heap.size + 2) (.slice Av q cv) q (tabI q F) (by first | with_reducible rfl | (go_simp; done) | rfl) hOw g5 z (by first | with_reducible rfl | (go_simp; done) | rfl) hR5 (by omega) (by omega) ?_
          intro g7 c7 w7 hown7 hgr7
          skip
          skip
          refine hK.out _ _ (hS.own hgu2 hgr7 (fun k e => hlt _ e)) (fun hS => ?_)
          clear hK
          (try simp only [Act.put]); (try simp only [zPa]); (try simp only [zPb, zPc])
          refine tcH (i := 17) (v := .slice (some ⟨g7, 0, none⟩) (q + 1) c7) rfl (by intro w' hSw; (try dsimp only at hSw); (obtain ⟨a0, a1, a2⟩ := hSw.a.cells); go_simp) ?_
          refine wpAnyH_done (by kernel_rfl) ?_ _
          go_wp2_with fail
          go_roundg (P - (x + 1))
          case measure => omega
          case rel =>
           refine ⟨x + 1, q + 1, c7, some ⟨g7, 0, none⟩, _, rfl, by omega, by omega, rfl, by go_num, Lib.hid (by rw [Hq.out]; omega), hq1, Lib.hid ⟨hS, ?_⟩⟩
           rw [tabI_succ, show F q = z by rw [Hq.out]; exact HM.out]
           exact hown7
    ·obtain rfl : x = P := by omega
     go_wp2_with fail
     go_roundg (Q - (y + 1))
     case measure => omega
     case rel => exact ⟨y + 1, q, cv, Av, _, rfl, by omega, by omega, rfl, by go_num, Lib.hid (by rw [Hq.out, Nat.add_mul, Nat.one_mul]; rfl), hq, HS⟩
  ·obtain rfl : y = Q := by omega
   have hr := HS.out.o.r
   obtain ⟨r0, r1, r2⟩ := hr.cells
   have f0 := hr.frozen 0
   have f1 := hr.frozen 1
   have f2 := hr.frozen 2
   have HJ := Lib.hid (hr.set3 P y (.slice Av q cv))
   clear hr
   go_wp2_with fail
   obtain ⟨s0, s1, s2⟩ := HJ.out.cells
   exact bodyPost_ret (v := .agg #[.int .i64 P, .int .i64 y, .slice Av q cv]) (by simp [results, Tryz.results235, go_sem, s0, s1, s2]) rfl (by
    rw [HA.out, ← HF.out, show P * y = q by rw [Hq.out, Nat.mul_comm]; rfl]
    exact ans_set HS.out.own (tabI_length _ _) (by omega) (Nat.lt_succ_self _) HS.out.o.bw)
set_option maxHeartbeats 600000 in
theorem rsI_bad1 (fid : Nat) (S : Nat → Nat → Nat → Nat) (X Y P Q : Int) (v : Value) (L : List Int) (w : World) (hv : RdI w v L) (h1 : ¬ imOk X Y L) :
  Calls Tryz.prog 235 #[.agg #[.int .i64 X, .int .i64 Y, v], .int .i64 P, .int .i64 Q, .func (.func fid) #[] #[]] w (AnsIm (rsIm S X Y L P Q) w) := by
 have HA := Lib.hid (rs_no S (X := X) (Y := Y) (L := L) (w := P) (h := Q) (fun h => h1 h.1))
 have hS := OrA.born w X Y hv
 have H1 := Lib.hid h1
 clear h1
 obtain ⟨A, c, rfl⟩ := hv.form
 obtain ⟨a0, a1, a2⟩ := hS.a.cells
 go_enter Tryz.func235, Tryz.ntmps235
 go_wp2_with fail
 refine (imI X Y _ L _ hS.rd).mono ?_
 rintro e w2 ⟨rfl, hb⟩
 replace hS := hS.call hb
 clear hb a0 a1 a2
 rw [imB_no H1.out]
 have hr := hS.r
 obtain ⟨r0, r1, r2⟩ := hr.cells
 have f0 := hr.frozen 0
 have f1 := hr.frozen 1
 have f2 := hr.frozen 2
 have HJ := Lib.hid (hr.set3 0 0 (.slice none 0 0))
 have HS := Lib.hid hS
 clear hr hS
 go_wp2_with fail
 obtain ⟨s0, s1, s2⟩ := HJ.out.cells
 exact bodyPost_ret (v := .agg #[.int .i64 0, .int .i64 0, .slice none 0 0]) (by simp [results, Tryz.results235, go_sem, s0, s1, s2]) rfl (by rw [HA.out]; exact or_zero HS.out)
set_option maxHeartbeats 600000 in
theorem rsI_bad2 (fid : Nat) (S : Nat → Nat → Nat → Nat) (X Y P Q : Int) (v : Value) (L : List Int) (w : World) (hv : RdI w v L) (h1 : imOk X Y L) (h2 : ¬ szOk P Q) :
  Calls Tryz.prog 235 #[.agg #[.int .i64 X, .int .i64 Y, v], .int .i64 P, .int .i64 Q, .func (.func fid) #[] #[]] w (AnsIm (rsIm S X Y L P Q) w) := by
 have HA := Lib.hid (rs_no S (X := X) (Y := Y) (L := L) (w := P) (h := Q) (fun h => h2 h.2))
 have hS := OrA.born w X Y hv
 have H1 := Lib.hid h1
 have H2 := Lib.hid h2
 clear h1 h2
 obtain ⟨A, c, rfl⟩ := hv.form
 obtain ⟨a0, a1, a2⟩ := hS.a.cells
 go_enter Tryz.func235, Tryz.ntmps235
 go_wp2_with fail
 refine (imI X Y _ L _ hS.rd).mono ?_
 rintro e w2 ⟨rfl, hb⟩
 replace hS := hS.call hb
 clear hb a0 a1 a2
 rw [imB_yes H1.out]
 go_wp2_with fail
 refine (szI_no P Q H2.out _).mono ?_
 rintro e w' ⟨rfl, rfl⟩
 have hr := hS.r
 obtain ⟨r0, r1, r2⟩ := hr.cells
 have f0 := hr.frozen 0
 have f1 := hr.frozen 1
 have f2 := hr.frozen 2
 have HJ := Lib.hid (hr.set3 0 0 (.slice none 0 0))
 have HS := Lib.hid hS
 clear hr hS
 go_wp2_with fail
 obtain ⟨s0, s1, s2⟩ := HJ.out.cells
 exact bodyPost_ret (v := .agg #[.int .i64 0, .int .i64 0, .slice none 0 0]) (by simp [results, Tryz.results235, go_sem, s0, s1, s2]) rfl (by rw [HA.out]; exact or_zero HS.out)
theorem rsI_any (fid : Nat) (S : Nat → Nat → Nat → Nat) (HE : ∀ args w, (callFunc fid args).run Tryz.prog w = .ok (.enter fid args) w)
  (HK : ∀ (f t k : Nat) V, 1 ≤ f ∧ f ≤ 16 → 1 ≤ t ∧ t ≤ 16 → k < t → Calls Tryz.prog fid #[.int .i64 f, .int .i64 t, .int .i64 k] V fun e w' => e = .returned (.int .i64 (S f t k : Nat)) ∧ V = w') (hPl : PlOk S) (X Y P Q : Int) (v : Value) (L : List Int) (w : World) (hv : RdI w v L) :
  Calls Tryz.prog 235 #[.agg #[.int .i64 X, .int .i64 Y, v], .int .i64 P, .int .i64 Q, .func (.func fid) #[] #[]] w (AnsIm (rsIm S X Y L P Q) w) := by
 by_cases h1 : imOk X Y L
 ·by_cases h2 : szOk P Q
  ·obtain ⟨W, H, rfl, rfl, _⟩ := im_nat h1
   obtain ⟨p, q, rfl, rfl, _⟩ := sz_nat h2
   exact rsI_ok fid S HE HK hPl W H p q v L w h1 h2 hv
  ·exact rsI_bad2 fid S X Y P Q v L w hv h1 h2
 ·exact rsI_bad1 fid S X Y P Q v L w hv h1
theorem enterP (args : Array Value) (w : World) : (callFunc 236 args).run Tryz.prog w = .ok (.enter 236 args) w := by simp [go_sem]
set_option maxHeartbeats 600000 in
theorem sclI_any (X Y P Q : Int) (v : Value) (L : List Int) (w : World) (hv : RdI w v L) :
  Calls Tryz.prog 221 #[.agg #[.int .i64 X, .int .i64 Y, v], .int .i64 P, .int .i64 Q] w (AnsIm (rsIm sclN X Y L P Q) w) := by
 obtain ⟨I, hI⟩ : ∃ I, I = rsIm sclN X Y L P Q := ⟨_, rfl⟩
 have R := fun W v h => rsI_any 236 sclN enterP (fun f t k V h1 h2 h3 => scI_yes h1 h2 h3 V) scl_ok X Y P Q v L W h
 unfold AnsIm ImAns at R
 rw [← hI] at R ⊢
 obtain ⟨D, E, M⟩ := I
 dsimp only at R
 have HR := Lib.hid R
 clear R hI
 have hS := OrA.born w X Y hv
 obtain ⟨A, c, rfl⟩ := hv.form
 obtain ⟨a0, a1, a2⟩ := hS.a.cells
 go_enter Tryz.func221, Tryz.ntmps221
 go_wp2_with fail
 refine (HR.out _ _ hS.rd).mono ?_
 rintro e w2 ⟨u, rfl, own, hb⟩
 replace hS := hS.call hb
 clear hb a0 a1 a2
 obtain ⟨A2, c2, hu⟩ := ownI_shape own
 subst hu
 have hr := hS.r
 obtain ⟨r0, r1, r2⟩ := hr.cells
 have f0 := hr.frozen 0
 have f1 := hr.frozen 1
 have f2 := hr.frozen 2
 have HJ := Lib.hid (hr.set3 D E (.slice A2 M.length c2))
 have HS := Lib.hid hS
 have HO := Lib.hid (own.mono (show w.heap.size + 2 ≤ _ by simp))
 clear hr hS own
 go_wp2_with fail
 obtain ⟨s0, s1, s2⟩ := HJ.out.cells
 exact bodyPost_ret (v := .agg #[.int .i64 D, .int .i64 E, .slice A2 M.length c2]) (by simp [results, Tryz.results221, go_sem, s0, s1, s2]) rfl (ans_set HO.out rfl (by omega) (Nat.lt_succ_self _) HS.out.bw)
end Go.Proofs.YtokniebejilcbaaGreat
