/- The contracts of ColorPixel, of the program and of its model. No statement is proved here. -/
import Derived.Test.YtnndifemkichmaaGreatMA
import Derived.Test.YtnndifemkichmaaGreatMB
import Derived.Test.YtnndifemkichmaaGreatMBv0
import Derived.Test.YtnndifemkichmaaGreatMAv0
import Derived.Test.YtnndifemkichmaaGreatCmGv0
import Derived.Test.YtnndifemkichmaaGreatProg
import Derived.WalkKit
import Derived.ProofKit
import Derived.OpenShut
import Derived.WalkLawsBesides
import Derived.WalkSpells
import Derived.ShutString
import Derived.ChangeOld
import Derived.Below
import Derived.Lib.Hide
import Derived.BigQuiet
import Derived.Deep.QuietTactic
import Derived.Maps.AppendAt
import Derived.Deep.OwnRows
import Derived.Handy
import Derived.Deep.Draws
import Derived.OwnWalk
import Derived.Deep.AppendLies
import Derived.Deep.LoopGhost
import Derived.Deep.Onto
import Derived.Laws.BitsAllLaws
import Derived.Lib.QuoteBits
import Derived.Test.YtnndifemkichmaaGreatShelf
import Derived.Laws.CopyOwn
import Derived.Deep.RegionLaw
import Derived.Deep.RegionHeld3
import Derived.Deep.DeepCutAuto
import Derived.Great.BuildSlice
import Derived.Deep.MidRow
import Derived.Deep.WholeRow
import Derived.Laws.AppendOwn
import Derived.ChangeKeysEq
namespace Go.Proofs.YtnndifemkichmaaGreat
open Go.RowKit
structure CmW (w : World) (u v : Value) (M C : List Int) (V : World) : Prop where
 cm : CmB w.heap.size u v M C V
 bw : Below w.heap.size w V
theorem CmW.call {w : World} {u v : Value} {M C : List Int} {V V' : World} (h : CmW w u v M C V) (hb : Below V.heap.size V V') : CmW w u v M C V' := ⟨h.cm.call hb, belI_call h.bw hb⟩
theorem CmW.drew {w : World} {u v : Value} {M C : List Int} {V : World} (h : CmW w u v M C V) : CmW w u v M C V.drew := h.call (belI_drew _)
theorem CmW.born {w : World} {u v : Value} {M C : List Int} (hu : RdI w u M) (hv : RdI w v C) : CmW w u v M C (w.alloc (.cells #[u, v] 91)) := ⟨CmB.born hu hv, belI_box _ _⟩
set_option maxHeartbeats 2000000 in
set_option maxRecDepth 10000 in
theorem cpixS_ok (u v : Value) (M C : List Int) (p : Int) (w : World) (hok : colOk M C) (hp : pixOk p) (hu : RdI w u M) (hv : RdI w v C) :
  Calls Tryz.prog 189 #[.agg #[u, v], .int .i64 p] w fun e w' => e = .returned (.int .i64 (corA M C p)) ∧ Below w.heap.size w w' := by
 have hB := CmW.born hu hv
 obtain ⟨d0, d1⟩ := hB.cm.cells
 have HC := fun (W : World) (h1 : RdI W u M) (h2 : RdI W v C) => colS u v M C W h1 h2
 rw [colB_yes hok] at HC
 have HC := Lib.hid HC
 have HH0 := fun (W : World) => chS_any p 0 W
 have HH1 := fun (W : World) => chS_any p 1 W
 have HH2 := fun (W : World) => chS_any p 2 W
 have HH3 := fun (W : World) => chS_any p 3 W
 rw [chan_0 hp] at HH0
 rw [chan_1 hp] at HH1
 rw [chan_2 hp] at HH2
 rw [chan_3 hp] at HH3
 obtain ⟨c0, h0⟩ : ∃ x, x = p / 16777216 := ⟨_, rfl⟩
 obtain ⟨c1, h1⟩ : ∃ x, x = p / 65536 % 256 := ⟨_, rfl⟩
 obtain ⟨c2, h2⟩ : ∃ x, x = p / 256 % 256 := ⟨_, rfl⟩
 obtain ⟨c3, h3⟩ : ∃ x, x = p % 256 := ⟨_, rfl⟩
 have k0 : chOk c0 := by rw [h0]; exact ch_0 hp
 have k1 : chOk c1 := by rw [h1]; exact ch_1 p
 have k2 : chOk c2 := by rw [h2]; exact ch_2 p
 have k3 : chOk c3 := by rw [h3]; exact ch_3 p
 have HK : corK M C p = pack4 c0 (curV C (mixV M 0 c1 c2 c3).toNat) (curV C (mixV M 1 c1 c2 c3).toNat) (curV C (mixV M 2 c1 c2 c3).toNat) := by unfold corK corC; rw [← h0, ← h1, ← h2, ← h3]
 have Hn : corA M C p = corK M C p := corA_yes hok hp
 rw [← h0] at HH0
 rw [← h1] at HH1
 rw [← h2] at HH2
 rw [← h3] at HH3
 replace HH0 := Lib.hid HH0
 replace HH1 := Lib.hid HH1
 replace HH2 := Lib.hid HH2
 replace HH3 := Lib.hid HH3
 obtain ⟨m0, hm0⟩ : ∃ m : Nat, m = (mixV M 0 c1 c2 c3).toNat := ⟨_, rfl⟩
 have hx0 := mix_ch M 0 c1 c2 c3
 have hy0 : m0 ≤ 255 ∧ mixV M 0 c1 c2 c3 = (m0 : Int) := by unfold chOk at hx0; omega
 have HM0 := fun (W : World) (h1 : RdI W u M) (h2 : RdI W v C) => mixchS u v M C 0 c1 c2 c3 W h1 h2
 have HC0 := fun (W : World) (h1 : RdI W u M) (h2 : RdI W v C) => curatS u v M C m0 W h1 h2
 have kq0 := cur_ch hok hy0.1
 rw [show mixA M C 0 c1 c2 c3 = (m0 : Int) from (mixA_yes (row := 0) hok (by omega) k1 k2 k3).trans hy0.2] at HM0
 rw [curA_yes hok hy0.1] at HC0
 obtain ⟨q0, hq0⟩ : ∃ q, q = curV C m0 := ⟨_, rfl⟩
 rw [← hq0] at HC0 kq0
 rw [← hm0, ← hq0] at HK
 replace HM0 := Lib.hid HM0
 replace HC0 := Lib.hid HC0
 obtain ⟨m1, hm1⟩ : ∃ m : Nat, m = (mixV M 1 c1 c2 c3).toNat := ⟨_, rfl⟩
 have hx1 := mix_ch M 1 c1 c2 c3
 have hy1 : m1 ≤ 255 ∧ mixV M 1 c1 c2 c3 = (m1 : Int) := by unfold chOk at hx1; omega
 have HM1 := fun (W : World) (h1 : RdI W u M) (h2 : RdI W v C) => mixchS u v M C 1 c1 c2 c3 W h1 h2
 have HC1 := fun (W : World) (h1 : RdI W u M) (h2 : RdI W v C) => curatS u v M C m1 W h1 h2
 have kq1 := cur_ch hok hy1.1
 rw [show mixA M C 1 c1 c2 c3 = (m1 : Int) from (mixA_yes (row := 1) hok (by omega) k1 k2 k3).trans hy1.2] at HM1
 rw [curA_yes hok hy1.1] at HC1
 obtain ⟨q1, hq1⟩ : ∃ q, q = curV C m1 := ⟨_, rfl⟩
 rw [← hq1] at HC1 kq1
 rw [← hm1, ← hq1] at HK
 replace HM1 := Lib.hid HM1
 replace HC1 := Lib.hid HC1
 obtain ⟨m2, hm2⟩ : ∃ m : Nat, m = (mixV M 2 c1 c2 c3).toNat := ⟨_, rfl⟩
 have hx2 := mix_ch M 2 c1 c2 c3
 have hy2 : m2 ≤ 255 ∧ mixV M 2 c1 c2 c3 = (m2 : Int) := by unfold chOk at hx2; omega
 have HM2 := fun (W : World) (h1 : RdI W u M) (h2 : RdI W v C) => mixchS u v M C 2 c1 c2 c3 W h1 h2
 have HC2 := fun (W : World) (h1 : RdI W u M) (h2 : RdI W v C) => curatS u v M C m2 W h1 h2
 have kq2 := cur_ch hok hy2.1
 rw [show mixA M C 2 c1 c2 c3 = (m2 : Int) from (mixA_yes (row := 2) hok (by omega) k1 k2 k3).trans hy2.2] at HM2
 rw [curA_yes hok hy2.1] at HC2
 obtain ⟨q2, hq2⟩ : ∃ q, q = curV C m2 := ⟨_, rfl⟩
 rw [← hq2] at HC2 kq2
 rw [← hm2, ← hq2] at HK
 replace HM2 := Lib.hid HM2
 replace HC2 := Lib.hid HC2
 unfold chOk at k0 k1 k2 k3 kq0 kq1 kq2
 obtain ⟨y0, hY0⟩ : ∃ y, y = c0 := ⟨_, rfl⟩
 obtain ⟨y1, hY1⟩ : ∃ y, y = y0 * 256 + q0 := ⟨_, rfl⟩
 obtain ⟨y2, hY2⟩ : ∃ y, y = y1 * 256 + q1 := ⟨_, rfl⟩
 obtain ⟨y3, hY3⟩ : ∃ y, y = y2 * 256 + q2 := ⟨_, rfl⟩
 have HA : Hid (y3 = corA M C p) := Lib.hid (by rw [Hn, HK, hY3, hY2, hY1, hY0]; unfold pack4; omega)
 have HY0 := Lib.hid hY0
 have HY1 := Lib.hid hY1
 have HY2 := Lib.hid hY2
 have HY3 := Lib.hid hY3
 have HB := Lib.hid (show (0 ≤ y0 ∧ y0 ≤ 255) ∧ (0 ≤ y1 ∧ y1 ≤ 65535) ∧ (0 ≤ y2 ∧ y2 ≤ 16777215) from by omega)
 have HQ := Lib.hid (show (0 ≤ q0 ∧ q0 ≤ 255) ∧ (0 ≤ q1 ∧ q1 ≤ 255) ∧ (0 ≤ q2 ∧ q2 ≤ 255) from ⟨kq0, kq1, kq2⟩)
 have Hp := Lib.hid hp
 rw [← hY0] at HH0
 clear hu hv hok hp h0 h1 h2 h3 k0 k1 k2 k3 HK Hn hm0 hm1 hm2 hx0 hx1 hx2 hy0 hy1 hy2 hq0 hq1 hq2 kq0 kq1 kq2 hY0 hY1 hY2 hY3
 go_enter Tryz.func189, Tryz.ntmps189
 go_wp2_with fail
 refine (HC.out _ hB.cm.rm hB.cm.rc).mono ?_
 rintro e wk ⟨rfl, hb⟩
 replace hB := hB.call hb
 clear hb d0 d1
 go_wp2_with fail
 refine (pixS_yes p Hp.out _).mono ?_
 rintro e wj ⟨rfl, rfl⟩
 go_wp2_with fail
 refine (HH0.out _).mono ?_
 rintro e wj ⟨rfl, rfl⟩
 have HT := Lib.hid hB
 clear hB
 go_wp2_with fail
 go_loopw [5, 6] (fun o i wr => ∃ (k : Nat) (y : Int), k ≤ 3 ∧ i = .int .i64 k ∧ o = .int .i64 y ∧ Hid (y = (if k = 0 then y0 else if k = 1 then y1 else if k = 2 then y2 else y3)) ∧ CmW w u v M C wr) (fun _ i _ => 3 - (intOf i).toNat)
 case atStart => exact ⟨0, y0, by omega, rfl, rfl, Lib.hid rfl, HT.out⟩
 case round =>
  obtain ⟨k, y, hk, rfl, rfl, Hy, hT⟩ := hrel
  obtain rfl | rfl | rfl | rfl : k = 0 ∨ k = 1 ∨ k = 2 ∨ k = 3 := by omega
  ·have e : y = y0 := by simpa using Hy.out
   subst y
   have wq1 := wrap_in (y0 * 256) (by have := HB.out; omega) (by have := HB.out; omega)
   have wq2 := wrap_in (y0 * 256 + q0) (by have := HB.out; have := HQ.out; omega) (by have := HB.out; have := HQ.out; omega)
   go_upto_region 7 with fail
   refine wp_region_held_drew (S := fun V => CmW w u v M C V) (by kernel_rfl) hT.drew (fun hS => ?_)
   refine tcH (i := 0) (v := .int .i64 y0) rfl (by intro w' hSw; (try dsimp only at hSw); (obtain ⟨a0, a1⟩ := hSw.cm.cells); go_simp) ?_
   refine tcH (i := 1) (v := .int .i64 (y0 * 256)) rfl (by intro w' hSw; (try dsimp only at hSw); (obtain ⟨a0, a1⟩ := hSw.cm.cells); go_simp) ?_
   refine tcH (i := 2) (v := .agg #[u, v]) rfl (by intro w' hSw; (try dsimp only at hSw); (obtain ⟨a0, a1⟩ := hSw.cm.cells); go_simp) ?_
   refine tcH (i := 3) (v := .agg #[u, v]) rfl (by intro w' hSw; (try dsimp only at hSw); (obtain ⟨a0, a1⟩ := hSw.cm.cells); go_simp) ?_
   refine tcH (i := 4) (v := .int .i64 0) rfl (by intro w' hSw; (try dsimp only at hSw); (obtain ⟨a0, a1⟩ := hSw.cm.cells); go_simp) ?_
   refine tcH (i := 5) (v := .int .i64 p) rfl (by intro w' hSw; (try dsimp only at hSw); (obtain ⟨a0, a1⟩ := hSw.cm.cells); go_simp) ?_
   refine tcH (i := 7) (v := .int .i64 p) rfl (by intro w' hSw; (try dsimp only at hSw); (obtain ⟨a0, a1⟩ := hSw.cm.cells); go_simp) ?_
   refine tcH (i := 9) (v := .int .i64 p) rfl (by intro w' hSw; (try dsimp only at hSw); (obtain ⟨a0, a1⟩ := hSw.cm.cells); go_simp) ?_
   (try simp only [Act.put]); (try simp only [zPa]); (try simp only [zPb, zPc])
   refine wpAnyH_ready (rs := [6]) (by kernel_rfl) (by simp) ?_
   refine (AllReadyH.cons rfl (fun K hK => ?_) AllReadyH.nil)
   ·rw [if_pos (by kernel_rfl)]
    (try simp only [zGa]); (try simp only [zGb]); (try simp only [zGc])
    go_simp
    with_reducible refine (HH1.out _).mono ?_
    rintro e W' ⟨rfl, rfl⟩
    dsimp only
    refine hK.out _ _ (hS) (fun hS => ?_)
    clear hK
    (try simp only [Act.put]); (try simp only [zPa]); (try simp only [zPb, zPc])
    refine wpAnyH_ready (rs := [8]) (by kernel_rfl) (by simp) ?_
    refine (AllReadyH.cons rfl (fun K hK => ?_) AllReadyH.nil)
    ·rw [if_pos (by kernel_rfl)]
     (try simp only [zGa]); (try simp only [zGb]); (try simp only [zGc])
     go_simp
     with_reducible refine (HH2.out _).mono ?_
     rintro e W' ⟨rfl, rfl⟩
     dsimp only
     refine hK.out _ _ (hS) (fun hS => ?_)
     clear hK
     (try simp only [Act.put]); (try simp only [zPa]); (try simp only [zPb, zPc])
     refine wpAnyH_ready (rs := [10]) (by kernel_rfl) (by simp) ?_
     refine (AllReadyH.cons rfl (fun K hK => ?_) AllReadyH.nil)
     ·rw [if_pos (by kernel_rfl)]
      (try simp only [zGa]); (try simp only [zGb]); (try simp only [zGc])
      go_simp
      with_reducible refine (HH3.out _).mono ?_
      rintro e W' ⟨rfl, rfl⟩
      dsimp only
      refine hK.out _ _ (hS) (fun hS => ?_)
      clear hK
      (try simp only [Act.put]); (try simp only [zPa]); (try simp only [zPb, zPc])
      refine wpAnyH_ready (rs := [11]) (by kernel_rfl) (by simp) ?_
      refine (AllReadyH.cons rfl (fun K hK => ?_) AllReadyH.nil)
      ·rw [if_pos (by kernel_rfl)]
       (try simp only [zGa]); (try simp only [zGb]); (try simp only [zGc])
       go_simp
       with_reducible refine (HM0.out _ hS.cm.rm hS.cm.rc).mono ?_
       rintro e W' ⟨rfl, hb⟩
       dsimp only
       refine hK.out _ _ (hS.call hb) (fun hS => ?_)
       clear hK
       (try simp only [Act.put]); (try simp only [zPa]); (try simp only [zPb, zPc])
       refine wpAnyH_ready (rs := [12]) (by kernel_rfl) (by simp) ?_
       refine (AllReadyH.cons rfl (fun K hK => ?_) AllReadyH.nil)
       ·rw [if_pos (by kernel_rfl)]
        (try simp only [zGa]); (try simp only [zGb]); (try simp only [zGc])
        go_simp
        with_reducible refine (HC0.out _ hS.cm.rm hS.cm.rc).mono ?_
        rintro e W' ⟨rfl, hb⟩
        dsimp only
        refine hK.out _ _ (hS.call hb) (fun hS => ?_)
        clear hK
        (try simp only [Act.put]); (try simp only [zPa]); (try simp only [zPb, zPc])
        refine tcH (i := 13) (v := .int .i64 (y0 * 256 + q0)) rfl (by intro w' hSw; (try dsimp only at hSw); (obtain ⟨a0, a1⟩ := hSw.cm.cells); go_simp) ?_
        refine tcH (i := 14) (v := .int .i64 (y0 * 256 + q0)) rfl (by intro w' hSw; (try dsimp only at hSw); (obtain ⟨a0, a1⟩ := hSw.cm.cells); go_simp) ?_
        refine wpAnyH_done (by kernel_rfl) ?_ _
        go_wp2_with fail
        go_roundw
        case rel => exact ⟨1, _, by omega, rfl, rfl, Lib.hid (by have := HY1.out; simpa using this.symm), hS⟩
        case measure => simp [intOf]
  ·have e : y = y1 := by simpa using Hy.out
   subst y
   have wq1 := wrap_in (y1 * 256) (by have := HB.out; omega) (by have := HB.out; omega)
   have wq2 := wrap_in (y1 * 256 + q1) (by have := HB.out; have := HQ.out; omega) (by have := HB.out; have := HQ.out; omega)
   go_upto_region 7 with fail
   refine wp_region_held_drew (S := fun V => CmW w u v M C V) (by kernel_rfl) hT.drew (fun hS => ?_)
   refine tcH (i := 0) (v := .int .i64 y1) rfl (by intro w' hSw; (try dsimp only at hSw); (obtain ⟨a0, a1⟩ := hSw.cm.cells); go_simp) ?_
   refine tcH (i := 1) (v := .int .i64 (y1 * 256)) rfl (by intro w' hSw; (try dsimp only at hSw); (obtain ⟨a0, a1⟩ := hSw.cm.cells); go_simp) ?_
   refine tcH (i := 2) (v := .agg #[u, v]) rfl (by intro w' hSw; (try dsimp only at hSw); (obtain ⟨a0, a1⟩ := hSw.cm.cells); go_simp) ?_
   refine tcH (i := 3) (v := .agg #[u, v]) rfl (by intro w' hSw; (try dsimp only at hSw); (obtain ⟨a0, a1⟩ := hSw.cm.cells); go_simp) ?_
   refine tcH (i := 4) (v := .int .i64 1) rfl (by intro w' hSw; (try dsimp only at hSw); (obtain ⟨a0, a1⟩ := hSw.cm.cells); go_simp) ?_
   refine tcH (i := 5) (v := .int .i64 p) rfl (by intro w' hSw; (try dsimp only at hSw); (obtain ⟨a0, a1⟩ := hSw.cm.cells); go_simp) ?_
   refine tcH (i := 7) (v := .int .i64 p) rfl (by intro w' hSw; (try dsimp only at hSw); (obtain ⟨a0, a1⟩ := hSw.cm.cells); go_simp) ?_
   refine tcH (i := 9) (v := .int .i64 p) rfl (by intro w' hSw; (try dsimp only at hSw); (obtain ⟨a0, a1⟩ := hSw.cm.cells); go_simp) ?_
   (try simp only [Act.put]); (try simp only [zPa]); (try simp only [zPb, zPc])
   refine wpAnyH_ready (rs := [6]) (by kernel_rfl) (by simp) ?_
   refine (AllReadyH.cons rfl (fun K hK => ?_) AllReadyH.nil)
   ·rw [if_pos (by kernel_rfl)]
    (try simp only [zGa]); (try simp only [zGb]); (try simp only [zGc])
    go_simp
    with_reducible refine (HH1.out _).mono ?_
    rintro e W' ⟨rfl, rfl⟩
    dsimp only
    refine hK.out _ _ (hS) (fun hS => ?_)
    clear hK
    (try simp only [Act.put]); (try simp only [zPa]); (try simp only [zPb, zPc])
    refine wpAnyH_ready (rs := [8]) (by kernel_rfl) (by simp) ?_
    refine (AllReadyH.cons rfl (fun K hK => ?_) AllReadyH.nil)
    ·rw [if_pos (by kernel_rfl)]
     (try simp only [zGa]); (try simp only [zGb]); (try simp only [zGc])
     go_simp
     with_reducible refine (HH2.out _).mono ?_
     rintro e W' ⟨rfl, rfl⟩
     dsimp only
     refine hK.out _ _ (hS) (fun hS => ?_)
     clear hK
     (try simp only [Act.put]); (try simp only [zPa]); (try simp only [zPb, zPc])
     refine wpAnyH_ready (rs := [10]) (by kernel_rfl) (by simp) ?_
     refine (AllReadyH.cons rfl (fun K hK => ?_) AllReadyH.nil)
     ·rw [if_pos (by kernel_rfl)]
      (try simp only [zGa]); (try simp only [zGb]); (try simp only [zGc])
      go_simp
      with_reducible refine (HH3.out _).mono ?_
      rintro e W' ⟨rfl, rfl⟩
      dsimp only
      refine hK.out _ _ (hS) (fun hS => ?_)
      clear hK
      (try simp only [Act.put]); (try simp only [zPa]); (try simp only [zPb, zPc])
      refine wpAnyH_ready (rs := [11]) (by kernel_rfl) (by simp) ?_
      refine (AllReadyH.cons rfl (fun K hK => ?_) AllReadyH.nil)
      ·rw [if_pos (by kernel_rfl)]
       (try simp only [zGa]); (try simp only [zGb]); (try simp only [zGc])
       go_simp
       with_reducible refine (HM1.out _ hS.cm.rm hS.cm.rc).mono ?_
       rintro e W' ⟨rfl, hb⟩
       dsimp only
       refine hK.out _ _ (hS.call hb) (fun hS => ?_)
       clear hK
       (try simp only [Act.put]); (try simp only [zPa]); (try simp only [zPb, zPc])
       refine wpAnyH_ready (rs := [12]) (by kernel_rfl) (by simp) ?_
       refine (AllReadyH.cons rfl (fun K hK => ?_) AllReadyH.nil)
       ·rw [if_pos (by kernel_rfl)]
        (try simp only [zGa]); (try simp only [zGb]); (try simp only [zGc])
        go_simp
        with_reducible refine (HC1.out _ hS.cm.rm hS.cm.rc).mono ?_
        rintro e W' ⟨rfl, hb⟩
        dsimp only
        refine hK.out _ _ (hS.call hb) (fun hS => ?_)
        clear hK
        (try simp only [Act.put]); (try simp only [zPa]); (try simp only [zPb, zPc])
        refine tcH (i := 13) (v := .int .i64 (y1 * 256 + q1)) rfl (by intro w' hSw; (try dsimp only at hSw); (obtain ⟨a0, a1⟩ := hSw.cm.cells); go_simp) ?_
        refine tcH (i := 14) (v := .int .i64 (y1 * 256 + q1)) rfl (by intro w' hSw; (try dsimp only at hSw); (obtain ⟨a0, a1⟩ := hSw.cm.cells); go_simp) ?_
        refine wpAnyH_done (by kernel_rfl) ?_ _
        go_wp2_with fail
        go_roundw
        case rel => exact ⟨2, _, by omega, rfl, rfl, Lib.hid (by have := HY2.out; simpa using this.symm), hS⟩
        case measure => simp [intOf]
  ·have e : y = y2 := by simpa using Hy.out
   subst y
   have wq1 := wrap_in (y2 * 256) (by have := HB.out; omega) (by have := HB.out; omega)
   have wq2 := wrap_in (y2 * 256 + q2) (by have := HB.out; have := HQ.out; omega) (by have := HB.out; have := HQ.out; omega)
   go_upto_region 7 with fail
   refine wp_region_held_drew (S := fun V => CmW w u v M C V) (by kernel_rfl) hT.drew (fun hS => ?_)
   refine tcH (i := 0) (v := .int .i64 y2) rfl (by intro w' hSw; (try dsimp only at hSw); (obtain ⟨a0, a1⟩ := hSw.cm.cells); go_simp) ?_
   refine tcH (i := 1) (v := .int .i64 (y2 * 256)) rfl (by intro w' hSw; (try dsimp only at hSw); (obtain ⟨a0, a1⟩ := hSw.cm.cells); go_simp) ?_
   refine tcH (i := 2) (v := .agg #[u, v]) rfl (by intro w' hSw; (try dsimp only at hSw); (obtain ⟨a0, a1⟩ := hSw.cm.cells); go_simp) ?_
   refine tcH (i := 3) (v := .agg #[u, v]) rfl (by intro w' hSw; (try dsimp only at hSw); (obtain ⟨a0, a1⟩ := hSw.cm.cells); go_simp) ?_
   refine tcH (i := 4) (v := .int .i64 2) rfl (by intro w' hSw; (try dsimp only at hSw); (obtain ⟨a0, a1⟩ := hSw.cm.cells); go_simp) ?_
   refine tcH (i := 5) (v := .int .i64 p) rfl (by intro w' hSw; (try dsimp only at hSw); (obtain ⟨a0, a1⟩ := hSw.cm.cells); go_simp) ?_
   refine tcH (i := 7) (v := .int .i64 p) rfl (by intro w' hSw; (try dsimp only at hSw); (obtain ⟨a0, a1⟩ := hSw.cm.cells); go_simp) ?_
   refine tcH (i := 9) (v := .int .i64 p) rfl (by intro w' hSw; (try dsimp only at hSw); (obtain ⟨a0, a1⟩ := hSw.cm.cells); go_simp) ?_
   (try simp only [Act.put]); (try simp only [zPa]); (try simp only [zPb, zPc])
   refine wpAnyH_ready (rs := [6]) (by kernel_rfl) (by simp) ?_
   refine (AllReadyH.cons rfl (fun K hK => ?_) AllReadyH.nil)
   ·rw [if_pos (by kernel_rfl)]
    (try simp only [zGa]); (try simp only [zGb]); (try simp only [zGc])
    go_simp
    with_reducible refine (HH1.out _).mono ?_
    rintro e W' ⟨rfl, rfl⟩
    dsimp only
    refine hK.out _ _ (hS) (fun hS => ?_)
    clear hK
    (try simp only [Act.put]); (try simp only [zPa]); (try simp only [zPb, zPc])
    refine wpAnyH_ready (rs := [8]) (by kernel_rfl) (by simp) ?_
    refine (AllReadyH.cons rfl (fun K hK => ?_) AllReadyH.nil)
    ·rw [if_pos (by kernel_rfl)]
     (try simp only [zGa]); (try simp only [zGb]); (try simp only [zGc])
     go_simp
     with_reducible refine (HH2.out _).mono ?_
     rintro e W' ⟨rfl, rfl⟩
     dsimp only
     refine hK.out _ _ (hS) (fun hS => ?_)
     clear hK
     (try simp only [Act.put]); (try simp only [zPa]); (try simp only [zPb, zPc])
     refine wpAnyH_ready (rs := [10]) (by kernel_rfl) (by simp) ?_
     refine (AllReadyH.cons rfl (fun K hK => ?_) AllReadyH.nil)
     ·rw [if_pos (by kernel_rfl)]
      (try simp only [zGa]); (try simp only [zGb]); (try simp only [zGc])
      go_simp
      with_reducible refine (HH3.out _).mono ?_
      rintro e W' ⟨rfl, rfl⟩
      dsimp only
      refine hK.out _ _ (hS) (fun hS => ?_)
      clear hK
      (try simp only [Act.put]); (try simp only [zPa]); (try simp only [zPb, zPc])
      refine wpAnyH_ready (rs := [11]) (by kernel_rfl) (by simp) ?_
      refine (AllReadyH.cons rfl (fun K hK => ?_) AllReadyH.nil)
      ·rw [if_pos (by kernel_rfl)]
       (try simp only [zGa]); (try simp only [zGb]); (try simp only [zGc])
       go_simp
       with_reducible refine (HM2.out _ hS.cm.rm hS.cm.rc).mono ?_
       rintro e W' ⟨rfl, hb⟩
       dsimp only
       refine hK.out _ _ (hS.call hb) (fun hS => ?_)
       clear hK
       (try simp only [Act.put]); (try simp only [zPa]); (try simp only [zPb, zPc])
       refine wpAnyH_ready (rs := [12]) (by kernel_rfl) (by simp) ?_
       refine (AllReadyH.cons rfl (fun K hK => ?_) AllReadyH.nil)
       ·rw [if_pos (by kernel_rfl)]
        (try simp only [zGa]); (try simp only [zGb]); (try simp only [zGc])
        go_simp
        with_reducible refine (HC2.out _ hS.cm.rm hS.cm.rc).mono ?_
        rintro e W' ⟨rfl, hb⟩
        dsimp only
        refine hK.out _ _ (hS.call hb) (fun hS => ?_)
        clear hK
        (try simp only [Act.put]); (try simp only [zPa]); (try simp only [zPb, zPc])
        refine tcH (i := 13) (v := .int .i64 (y2 * 256 + q2)) rfl (by intro w' hSw; (try dsimp only at hSw); (obtain ⟨a0, a1⟩ := hSw.cm.cells); go_simp) ?_
        refine tcH (i := 14) (v := .int .i64 (y2 * 256 + q2)) rfl (by intro w' hSw; (try dsimp only at hSw); (obtain ⟨a0, a1⟩ := hSw.cm.cells); go_simp) ?_
        refine wpAnyH_done (by kernel_rfl) ?_ _
        go_wp2_with fail
        go_roundw
        case rel => exact ⟨3, _, by omega, rfl, rfl, Lib.hid (by have := HY3.out; simpa using this.symm), hS⟩
        case measure => simp [intOf]
  ·have e : y = y3 := by simpa using Hy.out
   subst y
   go_wp2_with fail
   go_ret
   exact ⟨ret_int HA.out, hT.bw⟩
theorem cpixS (u v : Value) (M C : List Int) (p : Int) (w : World) (hu : RdI w u M) (hv : RdI w v C) :
  Calls Tryz.prog 189 #[.agg #[u, v], .int .i64 p] w fun e w' => e = .returned (.int .i64 (corA M C p)) ∧ Below w.heap.size w w' := by
 by_cases hok : colOk M C
 ·by_cases hp : pixOk p
  ·exact cpixS_ok u v M C p w hok hp hu hv
  ·have Hn := Lib.hid (corA_no (M := M) (C := C) (p := p) fun h => hp h.2)
   have hB := CmW.born hu hv
   obtain ⟨d0, d1⟩ := hB.cm.cells
   have HC := fun (W : World) (h1 : RdI W u M) (h2 : RdI W v C) => colS u v M C W h1 h2
   rw [colB_yes hok] at HC
   have HC := Lib.hid HC
   have Hp := Lib.hid hp
   clear hu hv hok hp
   go_enter Tryz.func189, Tryz.ntmps189
   go_wp2_with fail
   refine (HC.out _ hB.cm.rm hB.cm.rc).mono ?_
   rintro e wk ⟨rfl, hb⟩
   replace hB := hB.call hb
   clear hb d0 d1
   go_wp2_with fail
   refine (pixS_no p Hp.out _).mono ?_
   rintro e wj ⟨rfl, rfl⟩
   go_wp2_with fail
   go_ret
   exact ⟨ret_int Hn.out.symm, hB.bw⟩
 ·have Hn := Lib.hid (corA_no (M := M) (C := C) (p := p) fun h => hok h.1)
  have hB := CmW.born hu hv
  obtain ⟨d0, d1⟩ := hB.cm.cells
  have HC := fun (W : World) (h1 : RdI W u M) (h2 : RdI W v C) => colS u v M C W h1 h2
  rw [colB_no hok] at HC
  have HC := Lib.hid HC
  clear hu hv hok
  go_enter Tryz.func189, Tryz.ntmps189
  go_wp2_with fail
  refine (HC.out _ hB.cm.rm hB.cm.rc).mono ?_
  rintro e wk ⟨rfl, hb⟩
  replace hB := hB.call hb
  go_wp2_with fail
  go_ret
  exact ⟨ret_int Hn.out.symm, hB.bw⟩
end Go.Proofs.YtnndifemkichmaaGreat
