/- StoreImage of the model. No statement is proved here. -/
import Derived.Test.YtokniebejilcbaaMA
import Derived.Test.YtokniebejilcbaaMB
import Derived.Test.YtokniebejilcbaaLyI
import Derived.Test.YtokniebejilcbaaProg
import Derived.WalkKit
import Derived.ProofKit
import Derived.OpenShut
import Derived.WalkLawsBesides
import Derived.WalkSpells
import Derived.ShutString
import Derived.ChangeOld
import Derived.Below
import Derived.Lib.Hide
import Derived.BigQuiet
import Derived.Deep.QuietTactic
import Derived.Maps.AppendAt
import Derived.Deep.OwnRows
import Derived.Handy
import Derived.Deep.Draws
import Derived.OwnWalk
import Derived.Deep.AppendLies
import Derived.Deep.LoopGhost
import Derived.Deep.Onto
import Derived.Laws.BitsAllLaws
import Derived.Lib.QuoteBits
import Derived.Test.YtokniebejilcbaaShelf
import Derived.Laws.CopyOwn
import Derived.Deep.RegionLaw
import Derived.Deep.RegionHeld3
import Derived.Deep.DeepCutAuto
import Derived.Great.BuildSlice
import Derived.Deep.MidRow
import Derived.Deep.WholeRow
import Derived.Laws.AppendOwn
import Derived.Carry
import Derived.Maps.Own
import Derived.ChangeKeysEq
import Derived.Deep.RegionWith
import Derived.Shelf.RegionOpenPlain
import Derived.Lib.SliceRun
import Derived.Deep.DeepAppendRoom
namespace Go.Proofs.Ytokniebejilcbaa
open Go.RowKit
set_option maxHeartbeats 2000000 in
set_option maxRecDepth 10000 in
theorem stS_pl (W H : Nat) (v : Value) (L : List Int) (l : Int) (w : World) (h1 : imOk W H L) (hl01 : l = 0 ∨ l = 1) (hv : RdI w v L) :
  Calls Try.prog 17 #[.agg #[.int .i64 W, .int .i64 H, v], .int .i64 l] w (StAns (stM W H L l) (stB W H L l) w) := by
 have HA := Lib.hid (stM_01 h1 hl01)
 have HBB := Lib.hid (stB_yes (W := W) (H := H) (L := L) (l := l) h1 (by omega) (by omega))
 obtain ⟨W2, H2, e1, e2, wl, wh, hl, hh, hL⟩ := im_nat h1
 obtain rfl : W = W2 := by exact_mod_cast e1
 obtain rfl : H = H2 := by exact_mod_cast e2
 clear e1 e2
 obtain ⟨gi, c, rfl, hgi, hcu⟩ := rd_block hv (by rw [hL]; exact Nat.mul_pos wl hl)
 have hgu2 : ∀ g, (Value.slice (some ⟨gi, 0, none⟩) L.length c).ownBlock = some g → g < w.heap.size := fun g hg => (Option.some.inj hg) ▸ hgi
 have hL256 : L.length ≤ 256 := by rw [hL]; exact mul_256 wh hh
 have HL := Lib.hid hL
 obtain ⟨N, hN⟩ : ∃ n, n = L.length := ⟨_, rfl⟩
 have hS := CvA.born (t := 32) W H hv
 have HI := fun V h => imS W H (.slice (some ⟨gi, 0, none⟩) L.length c) L V h
 unfold ImOkAns at HI
 rw [imB_yes h1] at HI
 rw [← hN] at hgu2 hS hcu hL256 HI ⊢
 have HI := Lib.hid HI
 have Hgu := Lib.hid hgu2
 have HLN := Lib.hid (show L.length = N ∧ N ≤ 256 from ⟨hN.symm, hL256⟩)
 have Hi := Lib.hid h1
 have HN := Lib.hid hN
 have Hl := Lib.hid hl01
 have hb := wct_bd h1.1 hl01
 have HC := fun V => wctS W H l V
 unfold IntIs at HC
 obtain ⟨n, hn⟩ : ∃ n, n = (wct W H l).toNat := ⟨_, rfl⟩
 rw [show wct W H l = (n : Int) by omega] at HC
 have n1 : 1 ≤ n := by omega
 have n2 : n ≤ 256 := by omega
 have Hn := Lib.hid hn
 have HC := Lib.hid HC
 have hmk := fun W0 => run_make_row' (P := Try.prog) 26 3 (.int .i64 0) 8 Try.underlying26 infoInt rfl .i64 .i64 n (by omega) (by omega) W0
 have l2 : ¬ l = 2 := by omega
 have l3 : 0 ≤ l := by omega
 have l4 : l ≤ 2 := by omega
 clear hL h1 hv hN hgu2 hcu hl01 hb hn hL256
 obtain ⟨a0, a1, a2⟩ := hS.a.cells
 go_enter Try.func17, Try.ntmps17
 go_wp2_with fail
 refine (HI.out _ hS.rd).mono ?_
 rintro e w2 ⟨rfl, hb⟩
 replace hS := hS.call hb
 clear hb a0 a1 a2
 obtain ⟨a0, a1, a2⟩ := hS.a.cells
 go_wp2_with fail
 refine (inS_yes l 0 2 _ l3 l4).mono ?_
 rintro e w' ⟨rfl, rfl⟩
 go_wp2_with fail
 refine (HC.out _).mono ?_
 rintro e wm ⟨rfl, hwm⟩
 rw [hwm] at hS
 clear hwm
 clear a0 a1 a2
 have hz := hS.a.lt
 obtain ⟨gq, hgq⟩ : ∃ g, g = wm.heap.size := ⟨_, rfl⟩
 obtain ⟨V0, hV0⟩ : ∃ V, V = wm.alloc (.cells (madeCells #[.int .i64 0] n) 3) := ⟨_, rfl⟩
 have hown : V0.ownsRow (w.heap.size + 1) 3 1 (.slice (some ⟨gq, 0, none⟩) n n) n (intCells (stR W H l L (0 * W + 0))) := by
  rw [Nat.zero_mul, stR_0, ← Hn.out, hV0, hgq]
  exact own_of_rowIs (World.rowIs_made _ _ _ _) (by omega) (by unfold maxLen; omega) (tabI_length _ _) (fun j x hx => by
   have hj : j < n := by have := (List.getElem?_eq_some_iff.1 hx).1; rwa [tabI_length] at this
   rw [tabI_get n _ j hj] at hx
   injection hx with hx
   rw [← hx])
 have HS0 : Hid (CvI 32 w W H (.slice (some ⟨gi, 0, none⟩) N c) L (.slice (some ⟨gq, 0, none⟩) n n) n (stR W H l L (0 * W + 0)) V0) := Lib.hid ⟨by rw [hV0]; exact hS.call (belI_box _ _), hown⟩
 obtain ⟨a0, a1, a2⟩ := HS0.out.o.a.cells
 rw [hV0] at a0 a1 a2
 have HV := Lib.hid hV0
 have HG := Lib.hid hgq
 have hgw : w.heap.size + 1 ≤ gq := by omega
 have Hgw := Lib.hid hgw
 clear hV0 hgq hown hS hz hgw
 go_wp2_with fail
 rw [← HV.out, ← HG.out]
 clear hmk a0 a1 a2
 go_loopg [11] H (fun g8 s8 wr => ∃ (y : Nat) (V : World), V = wr ∧ y ≤ H ∧ g8 = H - y ∧ s8 = .int .i64 y ∧ Hid (CvI 32 w W H (.slice (some ⟨gi, 0, none⟩) N c) L (.slice (some ⟨gq, 0, none⟩) n n) n (stR W H l L (y * W + 0)) V))
 case atStart => exact ⟨0, _, rfl, Nat.zero_le _, by omega, rfl, HS0⟩
 case round =>
  clear HS0
  obtain ⟨y, wy, hV, hy2, rfl, rfl, HS⟩ := hrel
  subst hV
  obtain ⟨a0, a1, a2⟩ := HS.out.o.a.cells
  by_cases hyl : y < H
  ·have hyi : (y : Int) < (H : Int) := by omega
   go_wp2_with fail
   clear a0 a1 a2
   go_loopg [12] W (fun g9 s9 wz => ∃ (x : Nat) (V : World), V = wz ∧ x ≤ W ∧ g9 = W - x ∧ s9 = .int .i64 x ∧ Hid (CvI 32 w W H (.slice (some ⟨gi, 0, none⟩) N c) L (.slice (some ⟨gq, 0, none⟩) n n) n (stR W H l L (y * W + x)) V))
   case atStart => exact ⟨0, _, rfl, Nat.zero_le _, by omega, rfl, HS⟩
   case round =>
    clear HS
    obtain ⟨x, wx, hV, hx2, rfl, rfl, HS⟩ := hrel
    subst hV
    obtain ⟨a0, a1, a2⟩ := HS.out.o.a.cells
    by_cases hxl : x < W
    ·have hxi : (x : Int) < (W : Int) := by omega
     have hb2 := wpl_bd Hi.out.1 Hl.out (x := (x : Int)) (y := (y : Int)) ⟨by omega, hxi⟩ ⟨by omega, hyi⟩
     have HP := fun V => wplS W H l x y V
     unfold IntIs at HP
     obtain ⟨p, hp⟩ : ∃ p, p = (wpl W H l x y).toNat := ⟨_, rfl⟩
     have hp2 : wpl W H l x y = (p : Int) := by omega
     rw [hp2] at HP
     have HP := Lib.hid HP
     have hpn : p < n := by have := Hn.out; omega
     have hpi : (p : Int) < (n : Int) := by omega
     have hp0 : (0 : Int) ≤ (p : Int) := by omega
     obtain ⟨z, hz⟩ : ∃ z, L.getD (y * W + x) 0 = z := ⟨_, rfl⟩
     have HM : Hid (stR W H l L (y * W + (x + 1)) = (stR W H l L (y * W + x)).set p z) := Lib.hid (by rw [stR_at l L y hxl, ← hp, hz])
     have hpl := plc_lt hxl hyl
     rw [← HL.out] at hpl
     obtain ⟨m, hm⟩ : ∃ m, m = y * W := ⟨_, rfl⟩
     rw [← hm] at hpl hz
     have hpl2 : m + x < 256 := by have := HLN.out; omega
     have q1 : IntKind.i64.wrap ((y : Int) * (W : Int)) = (m : Int) := by rw [hm, wrap_in _ (by rw [← Int.natCast_mul, ← hm]; omega) (by rw [← Int.natCast_mul, ← hm]; omega)]; simp
     have q3 := wrap_in ((m : Int) + (x : Int)) (by omega) (by omega)
     have t1 : ((m : Int) + (x : Int)).toNat = m + x := by omega
     have u1 : (m : Int) + (x : Int) < (N : Int) := by have := HLN.out; omega
     have v1 : (0 : Int) ≤ (m : Int) + (x : Int) := by omega
     have Hzc := Lib.hid (fun (V : World) (h : RdI V (.slice (some ⟨gi, 0, none⟩) N c) L) => (hz ▸ rd_at h (k := m + x) hpl : V.cell? ⟨gi, m + x, none⟩ = some (.int .i64 z)))
     clear hm
     clear hp hp2 hb2 hz hpl
     go_upto_region 23 with fail
     clear a0 a1 a2
     refine wp_region_held_drew (S := fun V => CvA 32 w W H (.slice (some ⟨gi, 0, none⟩) N c) L V) (by kernel_rfl) HS.out.o.drew (fun hS => ?_)
     have hOw := show World.ownsRow wx.drew _ _ _ _ _ _ from HS.out.own
     have cS := (own_at_put hOw (j := p) hpn (by rw [stR_len]; exact Hn.out.symm)).1
     have fS := (own_at_put hOw (j := p) hpn (by rw [stR_len]; exact Hn.out.symm)).2
     refine tcH (i := 0) (v := .slice (some ⟨gq, 0, none⟩) n n) rfl (by intro w' hSw; (try dsimp only at hSw); (obtain ⟨a0, a1, a2⟩ := hSw.a.cells); (have zc := Hzc.out _ hSw.rd); go_simp) ?_
     refine tcH (i := 1) (v := .pointer (some ⟨w.heap.size, 0, none⟩)) rfl (by intro w' hSw; (try dsimp only at hSw); (obtain ⟨a0, a1, a2⟩ := hSw.a.cells); (have zc := Hzc.out _ hSw.rd); go_simp) ?_
     refine tcH (i := 2) (v := .int .i64 W) rfl (by intro w' hSw; (try dsimp only at hSw); (obtain ⟨a0, a1, a2⟩ := hSw.a.cells); (have zc := Hzc.out _ hSw.rd); go_simp) ?_
     refine tcH (i := 3) (v := .pointer (some ⟨w.heap.size, 1, none⟩)) rfl (by intro w' hSw; (try dsimp only at hSw); (obtain ⟨a0, a1, a2⟩ := hSw.a.cells); (have zc := Hzc.out _ hSw.rd); go_simp) ?_
     refine tcH (i := 4) (v := .int .i64 H) rfl (by intro w' hSw; (try dsimp only at hSw); (obtain ⟨a0, a1, a2⟩ := hSw.a.cells); (have zc := Hzc.out _ hSw.rd); go_simp) ?_
     refine tcH (i := 5) (v := .int .i64 l) rfl (by intro w' hSw; (try dsimp only at hSw); (obtain ⟨a0, a1, a2⟩ := hSw.a.cells); (have zc := Hzc.out _ hSw.rd); go_simp) ?_
     refine tcH (i := 6) (v := .int .i64 (x : Int)) rfl (by intro w' hSw; (try dsimp only at hSw); (obtain ⟨a0, a1, a2⟩ := hSw.a.cells); (have zc := Hzc.out _ hSw.rd); go_simp) ?_
     refine tcH (i := 7) (v := .int .i64 (y : Int)) rfl (by intro w' hSw; (try dsimp only at hSw); (obtain ⟨a0, a1, a2⟩ := hSw.a.cells); (have zc := Hzc.out _ hSw.rd); go_simp) ?_
     refine tcH (i := 9) (v := .pointer (some ⟨w.heap.size, 2, none⟩)) rfl (by intro w' hSw; (try dsimp only at hSw); (obtain ⟨a0, a1, a2⟩ := hSw.a.cells); (have zc := Hzc.out _ hSw.rd); go_simp) ?_
     refine tcH (i := 10) (v := .slice (some ⟨gi, 0, none⟩) N c) rfl (by intro w' hSw; (try dsimp only at hSw); (obtain ⟨a0, a1, a2⟩ := hSw.a.cells); (have zc := Hzc.out _ hSw.rd); go_simp) ?_
     refine tcH (i := 11) (v := .int .i64 (y : Int)) rfl (by intro w' hSw; (try dsimp only at hSw); (obtain ⟨a0, a1, a2⟩ := hSw.a.cells); (have zc := Hzc.out _ hSw.rd); go_simp) ?_
     refine tcH (i := 12) (v := .pointer (some ⟨w.heap.size, 0, none⟩)) rfl (by intro w' hSw; (try dsimp only at hSw); (obtain ⟨a0, a1, a2⟩ := hSw.a.cells); (have zc := Hzc.out _ hSw.rd); go_simp) ?_
     refine tcH (i := 13) (v := .int .i64 W) rfl (by intro w' hSw; (try dsimp only at hSw); (obtain ⟨a0, a1, a2⟩ := hSw.a.cells); (have zc := Hzc.out _ hSw.rd); go_simp) ?_
     refine tcH (i := 14) (v := .int .i64 (m : Int)) rfl (by intro w' hSw; (try dsimp only at hSw); (obtain ⟨a0, a1, a2⟩ := hSw.a.cells); (have zc := Hzc.out _ hSw.rd); go_simp) ?_
     refine tcH (i := 15) (v := .int .i64 (x : Int)) rfl (by intro w' hSw; (try dsimp only at hSw); (obtain ⟨a0, a1, a2⟩ := hSw.a.cells); (have zc := Hzc.out _ hSw.rd); go_simp) ?_
     refine tcH (i := 16) (v := .int .i64 ((m : Int) + (x : Int))) rfl (by intro w' hSw; (try dsimp only at hSw); (obtain ⟨a0, a1, a2⟩ := hSw.a.cells); (have zc := Hzc.out _ hSw.rd); go_simp) ?_
     refine tcH (i := 17) (v := .pointer (some ⟨gi, m + x, none⟩)) rfl (by intro w' hSw; (try dsimp only at hSw); (obtain ⟨a0, a1, a2⟩ := hSw.a.cells); (have zc := Hzc.out _ hSw.rd); go_simp) ?_
     refine tcH (i := 18) (v := .int .i64 z) rfl (by intro w' hSw; (try dsimp only at hSw); (obtain ⟨a0, a1, a2⟩ := hSw.a.cells); (have zc := Hzc.out _ hSw.rd); go_simp) ?_
     (try simp only [Act.put]); (try simp only [zPa]); (try simp only [zPb, zPc])
     refine wpAnyH_ready (rs := [8]) (by kernel_rfl) (by simp) ?_
     refine (AllReadyH.cons rfl (fun K hK => ?_) AllReadyH.nil)
     ·rw [if_pos (by kernel_rfl)]
      (try simp only [zGa]); (try simp only [zGb]); (try simp only [zGc])
      go_simp
      with_reducible refine (HP.out _).mono ?_
      rintro e W' ⟨rfl, hw⟩
      obtain rfl := hw
      dsimp only
      skip
      refine hK.out _ _ (hS) (fun hS => ?_)
      clear hK
      (try simp only [Act.put]); (try simp only [zPa]); (try simp only [zPb, zPc])
      refine tcH (i := 19) (v := .pointer (some ⟨gq, p, none⟩)) rfl (by intro w' hSw; (try dsimp only at hSw); (obtain ⟨a0, a1, a2⟩ := hSw.a.cells); (have zc := Hzc.out _ hSw.rd); go_simp) ?_
      (try simp only [Act.put]); (try simp only [zPa]); (try simp only [zPb, zPc])
      refine wpAnyH_ready (rs := [20]) (by kernel_rfl) (by simp) ?_
      refine (AllReadyH.cons rfl (fun K hK => ?_) AllReadyH.nil)
      ·rw [if_pos (by kernel_rfl)]
       (try simp only [zGa]); (try simp only [zGb]); (try simp only [zGc])
       go_simp
       skip
       refine hK.out _ _ (hS.own Hgu.out (grown_setI _ gq p _) (fun k hk => by have h1 := Option.some.inj hk; have h2 := Hgw.out; omega)) (fun hS => ?_)
       clear hK
       (try simp only [Act.put]); (try simp only [zPa]); (try simp only [zPb, zPc])
       refine wpAnyH_done (by kernel_rfl) ?_ _
       go_wp2_with fail
       go_roundg (W - (x + 1))
       case measure => omega
       case rel =>
        have h := (ownI_put hOw p z).1
        rw [← HM.out] at h
        exact ⟨x + 1, _, rfl, by omega, by omega, by go_num, Lib.hid ⟨hS, h⟩⟩
    ·obtain rfl : x = W := by omega
     go_wp2_with fail
     go_roundg (H - (y + 1))
     case measure => omega
     case rel => exact ⟨y + 1, _, rfl, by omega, by omega, by go_num, by rw [Nat.add_mul, Nat.one_mul]; exact HS⟩
  ·obtain rfl : y = H := by omega
   go_wp2_with fail
   go_ret2
   rw [HA.out, HBB.out]
   refine ⟨.slice (some ⟨gq, 0, none⟩) n n, _, rfl, repInts_own ?_, HS.out.o.bw⟩
   have h := HS.out.own
   rw [show y * W + 0 = L.length by rw [HL.out, Nat.mul_comm]; rfl] at h
   rw [stR_len, ← Hn.out]
   exact h.mono (Nat.le_succ _)
set_option maxHeartbeats 4000000 in
set_option maxRecDepth 10000 in
theorem stS_run (W H : Nat) (v : Value) (L : List Int) (w : World) (h1 : imOk W H L) (hv : RdI w v L) :
  Calls Try.prog 17 #[.agg #[.int .i64 W, .int .i64 H, v], .int .i64 2] w (StAns (stM W H L 2) (stB W H L 2) w) := by
 obtain ⟨i0, hi, hz0, hz1, hz2⟩ := info_parts infoInt
 have HA := Lib.hid (stM_2 h1)
 have HBB := Lib.hid (stB_yes (W := W) (H := H) (L := L) (l := 2) h1 (by omega) (by omega))
 obtain ⟨W2, H2, e1, e2, wl, wh, hl, hh, hL⟩ := im_nat h1
 obtain rfl : W = W2 := by exact_mod_cast e1
 obtain rfl : H = H2 := by exact_mod_cast e2
 clear e1 e2
 obtain ⟨gi, c, rfl, hgi, hcu⟩ := rd_block hv (by rw [hL]; exact Nat.mul_pos wl hl)
 have hgu2 : ∀ g, (Value.slice (some ⟨gi, 0, none⟩) L.length c).ownBlock = some g → g < w.heap.size := fun g hg => (Option.some.inj hg) ▸ hgi
 have hL256 : L.length ≤ 256 := by rw [hL]; exact mul_256 wh hh
 have HL := Lib.hid hL
 obtain ⟨N, hN⟩ : ∃ n, n = L.length := ⟨_, rfl⟩
 have hS := CvA.born (t := 32) W H hv
 have HI := fun V h => imS W H (.slice (some ⟨gi, 0, none⟩) L.length c) L V h
 unfold ImOkAns at HI
 rw [imB_yes h1] at HI
 rw [← hN] at hgu2 hS hcu hL256 HI ⊢
 have HI := Lib.hid HI
 have Hgu := Lib.hid hgu2
 have HLN := Lib.hid (show L.length = N ∧ N ≤ 256 from ⟨hN.symm, hL256⟩)
 have Hi := Lib.hid h1
 have HN := Lib.hid hN
 clear hL h1 hv hN hgu2 hcu
 obtain ⟨a0, a1, a2⟩ := hS.a.cells
 go_enter Try.func17, Try.ntmps17
 go_wp2_with fail
 refine (HI.out _ hS.rd).mono ?_
 rintro e w2 ⟨rfl, hb⟩
 replace hS := hS.call hb
 clear hb a0 a1 a2
 go_wp2_with fail
 refine (inS_yes 2 0 2 _ (by omega) (by omega)).mono ?_
 rintro e wm ⟨rfl, hwm⟩
 rw [hwm] at hS
 clear hwm
 have HS0 : Hid (CvI 32 w W H (.slice (some ⟨gi, 0, none⟩) N c) L (.slice (some ⟨wm.heap.size, 0, none⟩) 0 0) 0 [] (wm.alloc (.cells #[] 3))) := Lib.hid ⟨hS.call (belI_box _ _), own_rebase (ownI_zero wm) (fun b hb => by have := hS.a.lt; simp [Value.ownBlock] at hb; omega)⟩
 clear hS
 obtain ⟨a0, a1, a2⟩ := HS0.out.o.a.cells
 go_wp2_with fail
 clear a0 a1 a2
 go_loopg [6, 7] H (fun gk s6 s7 wr => ∃ (y q : Nat) (u : Value) (M : List Int) (V : World), V = wr ∧ y ≤ H ∧ gk = H - y ∧ u = s6 ∧ s7 = .int .i64 y ∧ Hid (q = M.length) ∧ Hid (M = runR W L y) ∧ Hid (CvI 32 w W H (.slice (some ⟨gi, 0, none⟩) N c) L u q M V))
 case atStart => exact ⟨0, 0, _, [], _, rfl, by omega, by omega, rfl, rfl, Lib.hid rfl, Lib.hid rfl, HS0⟩
 case round =>
  clear HS0
  obtain ⟨y, q, u, M, wy, hV, hy2, rfl, rfl, rfl, Hq, HM, HS⟩ := hrel
  subst hV
  obtain ⟨a0, a1, a2⟩ := HS.out.o.a.cells
  by_cases hyl : y < H
  ·have hyi : (y : Int) < (H : Int) := by omega
   obtain ⟨m, hm⟩ : ∃ m, m = y * W := ⟨_, rfl⟩
   have hmN : m + W ≤ N := by
    have h2 := HLN.out.1
    rw [← h2, HL.out, hm]
    have h3 : (y + 1) * W ≤ H * W := Nat.mul_le_mul_right _ hyl
    rw [Nat.add_mul, Nat.one_mul, Nat.mul_comm H W] at h3
    exact h3
   have q1 : IntKind.i64.wrap ((y : Int) * (W : Int)) = (m : Int) := by
    have e : (y : Int) * (W : Int) = (m : Int) := by rw [hm]; simp
    rw [e]; exact wrap_in _ (by omega) (by omega)
   have Hm := Lib.hid hm
   have HM1 : Hid (M ++ runL ((L.drop (m + 0)).take (W - 0)) = runR W L (y + 1)) := Lib.hid (by rw [HM.out, runR_W, ← hm]; rfl)
   clear hm
   go_wp2_with fail
   clear a0 a1 a2
   go_loopg [6, 8] W (fun g8 s6 s8 wz => ∃ (x q : Nat) (u : Value) (M : List Int) (V : World), V = wz ∧ x ≤ W ∧ g8 = W - x ∧ u = s6 ∧ s8 = .int .i64 x ∧ Hid (q = M.length) ∧ Hid (M ++ runL ((L.drop (m + x)).take (W - x)) = runR W L (y + 1)) ∧ Hid (CvI 32 w W H (.slice (some ⟨gi, 0, none⟩) N c) L u q M V))
   case atStart => exact ⟨0, q, _, M, _, rfl, by omega, by omega, rfl, rfl, Hq, HM1, HS⟩
   case round =>
    clear HS HM1 HM Hq
    obtain ⟨x, q, u, M, wx, hV, hx2, rfl, rfl, rfl, Hq, HM, HS⟩ := hrel
    subst hV
    obtain ⟨a0, a1, a2⟩ := HS.out.o.a.cells
    by_cases hxl : x < W
    ·have hxi : (x : Int) < (W : Int) := by omega
     obtain ⟨z, hz⟩ : ∃ z, z = L.getD (m + x) 0 := ⟨_, rfl⟩
     have Hz := Lib.hid hz
     have Hzc := Lib.hid (fun (V : World) (h : RdI V (.slice (some ⟨gi, 0, none⟩) N c) L) => (hz ▸ rd_at h (k := m + x) (by have := HLN.out; omega) : V.cell? ⟨gi, m + x, none⟩ = some (.int .i64 z)))
     clear hz
     go_wp2_with fail
     clear a0 a1 a2
     go_loopg [9] (W - 1) (fun g9 s9 wz => ∃ (n : Nat) (V : World), V = wz ∧ 1 ≤ n ∧ x + n ≤ W ∧ g9 = W - n ∧ s9 = .int .i64 n ∧ Hid (∀ i, i < n → L.getD (m + x + i) 0 = z) ∧ Hid (CvI 32 w W H (.slice (some ⟨gi, 0, none⟩) N c) L u q M V))
     case atStart => exact ⟨1, _, rfl, Nat.le_refl _, by omega, by omega, rfl, Lib.hid (fun i hi => by obtain rfl : i = 0 := (by omega); exact Hz.out.symm), HS⟩
     case round =>
      clear HS
      obtain ⟨n, wn, hV, hn1, hnW, rfl, rfl, Hall, HS⟩ := hrel
      subst hV
      obtain ⟨a0, a1, a2⟩ := HS.out.o.a.cells
      have zc := Hzc.out _ HS.out.o.rd
      have q2 := wrap_in ((m : Int) + (x : Int)) (by omega) (by omega)
      have q3 := wrap_in ((m : Int) + (x : Int) + (n : Int)) (by omega) (by omega)
      have q4 := wrap_in ((x : Int) + (n : Int)) (by omega) (by omega)
      have t1 : ((m : Int) + (x : Int)).toNat = m + x := by omega
      have t2 : ((m : Int) + (x : Int) + (n : Int)).toNat = m + x + n := by omega
      have v1 : (0 : Int) ≤ (m : Int) + (x : Int) := by omega
      have v2 : (0 : Int) ≤ (m : Int) + (x : Int) + (n : Int) := by omega
      have v3 : (m : Int) + (x : Int) < (N : Int) := by omega
      have HEND : Hid (rlen ((L.drop (m + x)).take (W - x)) = n → ∀ (V : World), CvI 32 w W H (.slice (some ⟨gi, 0, none⟩) N c) L u q M V → True) := Lib.hid (fun _ _ _ => trivial)
      clear HEND
      by_cases hxn : x + n < W
      ·have hxni : (x : Int) + (n : Int) < (W : Int) := by omega
       have v4 : (m : Int) + (x : Int) + (n : Int) < (N : Int) := by omega
       obtain ⟨z2, hz2'⟩ : ∃ z, z = L.getD (m + x + n) 0 := ⟨_, rfl⟩
       have zc2 : wn.cell? ⟨gi, m + x + n, none⟩ = some (.int .i64 z2) := by rw [hz2']; exact rd_at HS.out.o.rd (by have := HLN.out; omega)
       have Hz2 := Lib.hid hz2'
       clear hz2'
       by_cases hzz : z2 = z
       ·have HZZ := Lib.hid hzz
        have hbq : (z2 == z) = true := by simp [hzz]
        clear hzz
        go_upto_region 11 with fail
        go_quiet (fail)
        go_wp2_with fail
        go_roundg (W - (n + 1))
        case measure => omega
        case rel => exact ⟨n + 1, _, rfl, by omega, by omega, rfl, by go_num, Lib.hid (fun i hi => by
         rcases Nat.lt_or_ge i n with h | h
         ·exact Hall.out i h
         ·obtain rfl : i = n := by omega
          rw [← Hz2.out]; exact HZZ.out), Lib.hid (HS.out.call (below_drewN (Below.refl _ _) _))⟩
       ·have hbq : (z2 == z) = false := by rw [beq_eq_false_iff_ne]; exact hzz
        have Hj : Hid (rlen ((L.drop (m + x)).take (W - x)) = n) := Lib.hid (rlen_is hn1 (by rw [part_len _ _ _ (by have := HLN.out; omega)]; omega) (fun i hi => by rw [getD_part _ _ _ _ (by omega), getD_part _ _ _ _ (by omega), Nat.add_zero, ← Hz.out]; exact Hall.out i hi) (Or.inr (by rw [getD_part _ _ _ _ (by omega), getD_part _ _ _ _ (by omega), Nat.add_zero, ← Hz.out, ← Hz2.out]; exact hzz)))
        clear hzz
        go_upto_region 11 with fail
        go_quiet (fail)
        rename_i nq
        have HS2 := Lib.hid (HS.out.call (below_drewN (Below.refl _ wn) nq))
        have hne : (L.drop (m + x)).take (W - x) ≠ [] := fun h => by have h2 := part_len L (m + x) (W - x) (by have := HLN.out; omega); rw [h] at h2; simp at h2; omega
        have Hst := Lib.hid (runL_step hne)
        have hql : q + 2 ≤ 1000 := by
         have h2 := congrArg List.length HM.out
         have h3 := runR_len W L (y + 1)
         have h4 : (y + 1) * W ≤ 256 := mul_256 (by omega) wh
         have h5 := congrArg List.length Hst.out
         rw [List.length_append] at h2
         simp only [List.length_cons] at h5
         have := Hq.out
         omega
        have Hhd : Hid (((L.drop (m + x)).take (W - x)).headD 0 = z) := Lib.hid (by
         have h2 := getD_part L (m + x) (W - x) 0 (by omega)
         rw [Nat.add_zero, ← Hz.out] at h2
         rw [← h2]
         cases (L.drop (m + x)).take (W - x) with
         | nil => rfl
         | cons x t => rfl)
        have hsl : q + 2 ≤ maxLen := by unfold maxLen; omega
        have hsz := HS2.out.o.a.lt
        clear hne a0 a1 a2 zc
        obtain ⟨a0, a1, a2⟩ := HS2.out.o.a.cells
        have zc := Hzc.out _ HS2.out.o.rd
        go_wp2_with (at_builtin; refine wpList_append_own _ rfl _ _ 26 rfl (w.heap.size + 1) 3 i0 (.int .i64 0) 1 8 Try.underlying26 hi hz0 hz1 hz2 rfl (by decide) _ _ _ rfl (HS2.out.own.alloc _) ⟨_, 0, none⟩ 2 2 _ rfl rfl (World.news_of_block (cs := #[.int .i64 n, .int .i64 z]) (fr := (0, 0)) (heap_alloc_new _ _)) (by intro u hu; simp at hu; rcases hu with rfl | rfl <;> rfl) hsl (by omega) (by simp at hsz ⊢; omega) ?_)
        intro v2 w6 hown2 hgrow _
        have hlt := fun g hg => (HS2.out.own.lt g hg).1
        obtain ⟨gq, cq, hvq, _, _⟩ := hown2.form (by omega)
        subst hvq
        have HS3 := Lib.hid (show CvI 32 w W H (.slice (some ⟨gi, 0, none⟩) N c) L (.slice (some ⟨gq, 0, none⟩) (q + 2) cq) (q + 2) (M ++ [(n : Int), z]) w6 from ⟨(HS2.out.o.call (belI_box _ _)).own Hgu.out hgrow (fun k e => by have := hlt _ e; omega), by rw [intCells_append]; exact hown2⟩)
        have HM3 : Hid ((M ++ [(n : Int), z]) ++ runL ((L.drop (m + (x + n))).take (W - (x + n))) = runR W L (y + 1)) := Lib.hid (by rw [← HM.out, Hst.out, Hhd.out, Hj.out, part_drop _ _ _ _ (by omega), List.append_assoc, Nat.sub_add_eq, ← Nat.add_assoc]; rfl)
        clear hown2 hgrow HS2 hlt hsz zc a0 a1 a2
        go_wp2_with fail
        go_roundg (W - (x + n))
        case measure => omega
        case rel => exact ⟨x + n, q + 2, _, _, _, rfl, by omega, rfl, rfl, by go_num, Lib.hid (by rw [List.length_append, ← Hq.out]; rfl), HM3, HS3⟩
      ·have hxni : ((x : Int) + (n : Int) < (W : Int)) = False := by simp; omega
       have Hj : Hid (rlen ((L.drop (m + x)).take (W - x)) = n) := Lib.hid (rlen_is hn1 (by rw [part_len _ _ _ (by have := HLN.out; omega)]; omega) (fun i hi => by rw [getD_part _ _ _ _ (by omega), getD_part _ _ _ _ (by omega), Nat.add_zero, ← Hz.out]; exact Hall.out i hi) (Or.inl (by rw [part_len _ _ _ (by have := HLN.out; omega)]; omega)))
       go_upto_region 11 with fail
       go_quiet (fail)
       rename_i nq
       have HS2 := Lib.hid (HS.out.call (below_drewN (Below.refl _ wn) nq))
       have hne : (L.drop (m + x)).take (W - x) ≠ [] := fun h => by have h2 := part_len L (m + x) (W - x) (by have := HLN.out; omega); rw [h] at h2; simp at h2; omega
       have Hst := Lib.hid (runL_step hne)
       have hql : q + 2 ≤ 1000 := by
        have h2 := congrArg List.length HM.out
        have h3 := runR_len W L (y + 1)
        have h4 : (y + 1) * W ≤ 256 := mul_256 (by omega) wh
        have h5 := congrArg List.length Hst.out
        rw [List.length_append] at h2
        simp only [List.length_cons] at h5
        have := Hq.out
        omega
       have Hhd : Hid (((L.drop (m + x)).take (W - x)).headD 0 = z) := Lib.hid (by
        have h2 := getD_part L (m + x) (W - x) 0 (by omega)
        rw [Nat.add_zero, ← Hz.out] at h2
        rw [← h2]
        cases (L.drop (m + x)).take (W - x) with
        | nil => rfl
        | cons x t => rfl)
       have hsl : q + 2 ≤ maxLen := by unfold maxLen; omega
       have hsz := HS2.out.o.a.lt
       clear hne a0 a1 a2 zc
       obtain ⟨a0, a1, a2⟩ := HS2.out.o.a.cells
       have zc := Hzc.out _ HS2.out.o.rd
       go_wp2_with (at_builtin; refine wpList_append_own _ rfl _ _ 26 rfl (w.heap.size + 1) 3 i0 (.int .i64 0) 1 8 Try.underlying26 hi hz0 hz1 hz2 rfl (by decide) _ _ _ rfl (HS2.out.own.alloc _) ⟨_, 0, none⟩ 2 2 _ rfl rfl (World.news_of_block (cs := #[.int .i64 n, .int .i64 z]) (fr := (0, 0)) (heap_alloc_new _ _)) (by intro u hu; simp at hu; rcases hu with rfl | rfl <;> rfl) hsl (by omega) (by simp at hsz ⊢; omega) ?_)
       intro v2 w6 hown2 hgrow _
       have hlt := fun g hg => (HS2.out.own.lt g hg).1
       obtain ⟨gq, cq, hvq, _, _⟩ := hown2.form (by omega)
       subst hvq
       have HS3 := Lib.hid (show CvI 32 w W H (.slice (some ⟨gi, 0, none⟩) N c) L (.slice (some ⟨gq, 0, none⟩) (q + 2) cq) (q + 2) (M ++ [(n : Int), z]) w6 from ⟨(HS2.out.o.call (belI_box _ _)).own Hgu.out hgrow (fun k e => by have := hlt _ e; omega), by rw [intCells_append]; exact hown2⟩)
       have HM3 : Hid ((M ++ [(n : Int), z]) ++ runL ((L.drop (m + (x + n))).take (W - (x + n))) = runR W L (y + 1)) := Lib.hid (by rw [← HM.out, Hst.out, Hhd.out, Hj.out, part_drop _ _ _ _ (by omega), List.append_assoc, Nat.sub_add_eq, ← Nat.add_assoc]; rfl)
       clear hown2 hgrow HS2 hlt hsz zc a0 a1 a2
       go_wp2_with fail
       go_roundg (W - (x + n))
       case measure => omega
       case rel => exact ⟨x + n, q + 2, _, _, _, rfl, by omega, rfl, rfl, by go_num, Lib.hid (by rw [List.length_append, ← Hq.out]; rfl), HM3, HS3⟩
    ·obtain rfl : x = W := by omega
     go_wp2_with fail
     go_roundg (H - (y + 1))
     case measure => omega
     case rel => exact ⟨y + 1, q, u, M, _, rfl, by omega, by omega, rfl, by go_num, Hq, Lib.hid (by have h := HM.out; rw [Nat.sub_self, runL_none, List.append_nil] at h; exact h), HS⟩
  ·obtain rfl : y = H := by omega
   go_wp2_with fail
   go_ret2
   rw [HA.out, HBB.out]
   refine ⟨u, _, rfl, repInts_own ?_, HS.out.o.bw⟩
   rw [show runR (Int.toNat (W : Int)) L (Int.toNat (y : Int)) = M from HM.out.symm, ← Hq.out]
   exact HS.out.own.mono (Nat.le_succ _)
set_option maxHeartbeats 1000000 in
theorem stS_bad (X Y : Int) (v : Value) (L : List Int) (l : Int) (w : World) (h : ¬ (imOk X Y L ∧ 0 ≤ l ∧ l ≤ 2)) (hv : RdI w v L) :
    Calls Try.prog 17 #[.agg #[.int .i64 X, .int .i64 Y, v], .int .i64 l] w (StAns (stM X Y L l) (stB X Y L l) w) := by
  have hS := CvA.born (t := 32) X Y hv
  have HA := Lib.hid (stM_no h)
  have HBB := Lib.hid (stB_no h)
  have HI := fun V h => imS X Y v L V h
  unfold ImOkAns at HI
  by_cases h1 : imOk X Y L
  · rw [imB_yes h1] at HI
    have HI := Lib.hid HI
    have Hl := Lib.hid (show l < 0 ∨ 2 < l by have : ¬ (0 ≤ l ∧ l ≤ 2) := fun k => h ⟨h1, k⟩
                                              omega)
    obtain ⟨A, c, rfl⟩ := hv.form
    obtain ⟨a0, a1, a2⟩ := hS.a.cells
    clear h h1 hv
    go_enter Try.func17, Try.ntmps17
    go_wp2_with fail
    refine (HI.out _ hS.rd).mono ?_
    rintro e w2 ⟨rfl, hb⟩
    replace hS := hS.call hb
    clear hb a0 a1 a2
    go_wp2_with fail
    refine (inS_no l 0 2 _ Hl.out).mono ?_
    rintro e w' ⟨rfl, rfl⟩
    go_wp2_with fail
    go_ret2
    rw [HA.out, HBB.out]
    exact ⟨_, _, rfl, repInts_own (own_rebase (C := w.heap.size) (ownI_zero _) (fun b hb' => by have := hS.bw.size; simp [Value.ownBlock] at hb'; omega)), belI_call hS.bw (belI_box _ _)⟩
  · rw [imB_no h1] at HI
    have HI := Lib.hid HI
    obtain ⟨A, c, rfl⟩ := hv.form
    obtain ⟨a0, a1, a2⟩ := hS.a.cells
    clear h h1 hv
    go_enter Try.func17, Try.ntmps17
    go_wp2_with fail
    refine (HI.out _ hS.rd).mono ?_
    rintro e w2 ⟨rfl, hb⟩
    replace hS := hS.call hb
    clear hb a0 a1 a2
    go_wp2_with fail
    go_ret2
    rw [HA.out, HBB.out]
    exact ⟨_, _, rfl, repInts_own (own_rebase (C := w.heap.size) (ownI_zero _) (fun b hb' => by have := hS.bw.size; simp [Value.ownBlock] at hb'; omega)), belI_call hS.bw (belI_box _ _)⟩
theorem stS (X Y : Int) (L : List Int) (l : Int) (v : Value) (w : World) (hv : RdI w v L) :
  Calls Try.prog 17 #[.agg #[.int .i64 X, .int .i64 Y, v], .int .i64 l] w (StAns (stM X Y L l) (stB X Y L l) w) := by
 by_cases h : imOk X Y L ∧ 0 ≤ l ∧ l ≤ 2
 ·obtain ⟨h1, h2, h3⟩ := h
  obtain ⟨W, H, rfl, rfl, -⟩ := im_nat h1
  by_cases hl : l = 2
  ·subst hl; exact stS_run W H v L w h1 hv
  ·exact stS_pl W H v L l w h1 (by omega) hv
 ·exact stS_bad X Y v L l w h hv
end Go.Proofs.Ytokniebejilcbaa
