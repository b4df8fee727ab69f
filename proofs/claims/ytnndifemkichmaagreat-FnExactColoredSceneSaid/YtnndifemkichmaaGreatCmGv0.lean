/- The contracts of MixChannels, CurveAt, of the program and of its model. No statement is proved here. -/
import Derived.Test.YtnndifemkichmaaGreatMA
import Derived.Test.YtnndifemkichmaaGreatMAv0
import Derived.Test.YtnndifemkichmaaGreatMB
import Derived.Test.YtnndifemkichmaaGreatMBv0
import Derived.Test.YtnndifemkichmaaGreatProg
import Derived.WalkKit
import Derived.ProofKit
import Derived.OpenShut
import Derived.WalkLawsBesides
import Derived.WalkSpells
import Derived.ShutString
import Derived.ChangeOld
import Derived.Below
import Derived.Lib.Hide
import Derived.BigQuiet
import Derived.Deep.QuietTactic
import Derived.Maps.AppendAt
import Derived.Deep.OwnRows
import Derived.Handy
import Derived.Deep.Draws
import Derived.OwnWalk
import Derived.Deep.AppendLies
import Derived.Deep.LoopGhost
import Derived.Deep.Onto
import Derived.Laws.BitsAllLaws
import Derived.Lib.QuoteBits
import Derived.Test.YtnndifemkichmaaGreatShelf
import Derived.Laws.CopyOwn
import Derived.Deep.RegionLaw
import Derived.Deep.RegionHeld3
import Derived.Deep.DeepCutAuto
import Derived.Great.BuildSlice
import Derived.Deep.MidRow
import Derived.Deep.WholeRow
import Derived.Laws.AppendOwn
import Derived.ChangeKeysEq
namespace Go.Proofs.YtnndifemkichmaaGreat
open Go.RowKit
theorem flo_neg {a : Int} (h : a < 0) (b : Int) : a.tdiv b = -((-a) / b) ∧ a.tmod b = -((-a) % b) := by
 constructor
 ·rw [← Int.tdiv_eq_ediv_of_nonneg (show (0 : Int) ≤ -a by omega), Int.neg_tdiv, Int.neg_neg]
 ·rw [← Int.tmod_eq_emod_of_nonneg (show (0 : Int) ≤ -a by omega), Int.neg_tmod, Int.neg_neg]
set_option maxRecDepth 10000 in
theorem floS (a b : Int) (hb : b = 256 ∨ b = 16) (h1 : -1000000 ≤ a) (h2 : a ≤ 1000000) (w : World) :
  Calls Tryz.prog 250 #[.int .i64 a, .int .i64 b] w fun e w' => e = .returned (.int .i64 (a / b)) ∧ w = w' := by
 by_cases h : 0 ≤ a
 ·have h0 : (256 : Int) ≠ 0 ∧ (16 : Int) ≠ 0 := by decide
  rcases hb with rfl | rfl
  all_goals
   have hm : ¬ a % 256 < 0 := by omega
   have hm2 : ¬ a % 16 < 0 := by omega
   go_enter Tryz.func250, Tryz.ntmps250
   go_wp2_with fail
   go_ret
   exact ⟨rfl, rfl⟩
 ·rcases hb with rfl | rfl
  ·obtain ⟨e1, e2⟩ := flo_neg (show a < 0 by omega) 256
   have E1 := Lib.hid e1
   by_cases hr : a.tmod 256 < 0
   ·have hq : -1000000 ≤ a.tdiv 256 ∧ a.tdiv 256 ≤ 1000000 := by rw [e1]; omega
    obtain ⟨q1, q2⟩ := hq
    have HV : Hid (a.tdiv 256 - 1 = a / 256) := by rw [e1]; rw [e2] at hr; exact (by omega : -((-a) / 256) - 1 = a / 256)
    clear e1 e2
    go_enter Tryz.func250, Tryz.ntmps250
    go_wp2_with fail
    go_ret
    exact ⟨ret_int HV.out, rfl⟩
   ·have HV : Hid (a.tdiv 256 = a / 256) := by rw [e1]; rw [e2] at hr; exact (by omega : -((-a) / 256) = a / 256)
    clear e1 e2
    go_enter Tryz.func250, Tryz.ntmps250
    go_wp2_with fail
    go_ret
    exact ⟨ret_int HV.out, rfl⟩
  ·obtain ⟨e1, e2⟩ := flo_neg (show a < 0 by omega) 16
   have E1 := Lib.hid e1
   by_cases hr : a.tmod 16 < 0
   ·have hq : -1000000 ≤ a.tdiv 16 ∧ a.tdiv 16 ≤ 1000000 := by rw [e1]; omega
    obtain ⟨q1, q2⟩ := hq
    have HV : Hid (a.tdiv 16 - 1 = a / 16) := by rw [e1]; rw [e2] at hr; exact (by omega : -((-a) / 16) - 1 = a / 16)
    clear e1 e2
    go_enter Tryz.func250, Tryz.ntmps250
    go_wp2_with fail
    go_ret
    exact ⟨ret_int HV.out, rfl⟩
   ·have HV : Hid (a.tdiv 16 = a / 16) := by rw [e1]; rw [e2] at hr; exact (by omega : -((-a) / 16) = a / 16)
    clear e1 e2
    go_enter Tryz.func250, Tryz.ntmps250
    go_wp2_with fail
    go_ret
    exact ⟨ret_int HV.out, rfl⟩
theorem cm_keep {wk W : World} {b gm o1 o2 o3 : Nat} {x0 x1 x2 x3 : Value} (h : Below wk.heap.size wk W) (h0 : wk.cell? ⟨b, 0, none⟩ = some x0) (h1 : wk.cell? ⟨gm, o1, none⟩ = some x1) (h2 : wk.cell? ⟨gm, o2, none⟩ = some x2) (h3 : wk.cell? ⟨gm, o3, none⟩ = some x3) :
  W.cell? ⟨b, 0, none⟩ = some x0 ∧ W.cell? ⟨gm, o1, none⟩ = some x1 ∧ W.cell? ⟨gm, o2, none⟩ = some x2 ∧ W.cell? ⟨gm, o3, none⟩ = some x3 :=
 have k := fun {p : Addr} {x : Value} (hp : wk.cell? p = some x) => (World.cell?_of_block (h.block p.block (World.block_lt_of_cell? wk _ hp))).trans hp
 ⟨k h0, k h1, k h2, k h3⟩
theorem rise_bd {a b t : Int} (a0 : 0 ≤ a) (a1 : a ≤ 256) (b0 : 0 ≤ b) (b1 : b ≤ 256) (t0 : 0 ≤ t) (t1 : t ≤ 16) : -4096 ≤ (b - a) * t ∧ (b - a) * t ≤ 4096 := by
 have := cur_bd a0 a1 b0 b1 t0 t1
 omega
set_option maxHeartbeats 1000000 in
set_option maxRecDepth 10000 in
theorem mixchS (u v : Value) (M C : List Int) (row r g b : Int) (w : World) (hu : RdI w u M) (hv : RdI w v C) :
  Calls Tryz.prog 230 #[.agg #[u, v], .int .i64 row, .int .i64 r, .int .i64 g, .int .i64 b] w fun e w' => e = .returned (.int .i64 (mixA M C row r g b)) ∧ Below w.heap.size w w' := by
 have hB := CmB.born hu hv
 have K := belI_box w (.cells #[u, v] 91)
 obtain ⟨d0, d1⟩ := hB.cells
 have HC := fun (W : World) (h1 : RdI W u M) (h2 : RdI W v C) => colS u v M C W h1 h2
 clear hu hv
 by_cases hok : colOk M C
 ·rw [colB_yes hok] at HC
  have HC := Lib.hid HC
  have Hok := Lib.hid hok
  by_cases hr : 0 ≤ row ∧ row ≤ 2
  ·by_cases h1 : chOk r
   ·by_cases h2 : chOk g
    ·by_cases h3 : chOk b
     ·obtain ⟨gm, c, e, _, hcl⟩ := rd_block hB.rm (by rw [hok.1]; decide)
      subst e
      rw [hok.1] at hcl hB d0 HC K ⊢
      obtain ⟨n, rfl⟩ := Int.eq_ofNat_of_zero_le hr.1
      have HV := Lib.hid (mixA_yes hok (show n ≤ 2 by omega) h1 h2 h3)
      have Hr := Lib.hid hr
      have Hl := Lib.hid hok.1
      obtain ⟨m0, hm0⟩ : ∃ x, x = M.getD (3 * n) 0 := ⟨_, rfl⟩
      obtain ⟨m1, hm1⟩ : ∃ x, x = M.getD (3 * n + 1) 0 := ⟨_, rfl⟩
      obtain ⟨m2, hm2⟩ : ∃ x, x = M.getD (3 * n + 2) 0 := ⟨_, rfl⟩
      have b0 := mat_pt hok (k := 3 * n) (by omega)
      have b1 := mat_pt hok (k := 3 * n + 1) (by omega)
      have b2 := mat_pt hok (k := 3 * n + 2) (by omega)
      rw [← hm0] at b0
      rw [← hm1] at b1
      rw [← hm2] at b2
      obtain ⟨p0, p0'⟩ := wt_bd b0.1 b0.2 h1
      obtain ⟨p1, p1'⟩ := wt_bd b1.1 b1.2 h2
      obtain ⟨p2, p2'⟩ := wt_bd b2.1 b2.2 h3
      have Hm0 := Lib.hid hm0
      have Hm1 := Lib.hid hm1
      have Hm2 := Lib.hid hm2
      have H1 := Lib.hid h1
      have H2 := Lib.hid h2
      have H3 := Lib.hid h3
      have n2 : n ≤ 2 := by omega
      clear hm0 hm1 hm2 b0 b1 b2 hok hr h1 h2 h3
      go_enter Tryz.func230, Tryz.ntmps230
      go_wp2_with fail
      refine (HC.out _ hB.rm hB.rc).mono ?_
      rintro e wk ⟨rfl, hb⟩
      replace hB := hB.call hb
      replace K := belI_call K hb
      clear hb d0 d1
      obtain ⟨d0, d1⟩ := hB.cells
      go_wp2_with fail
      refine (inS_yes _ 0 2 _ Hr.out.1 Hr.out.2).mono ?_
      rintro e wk ⟨rfl, rfl⟩
      go_wp2_with fail
      refine (inS_yes _ 0 255 _ H1.out.1 H1.out.2).mono ?_
      rintro e wk ⟨rfl, rfl⟩
      go_wp2_with fail
      refine (inS_yes _ 0 255 _ H2.out.1 H2.out.2).mono ?_
      rintro e wk ⟨rfl, rfl⟩
      go_wp2_with fail
      refine (inS_yes _ 0 255 _ H3.out.1 H3.out.2).mono ?_
      rintro e wk ⟨rfl, rfl⟩
      have k0 := rd_cell (k := 3 * n) hB.rm (by have := Hl.out; omega)
      have k1 := rd_cell (k := 3 * n + 1) hB.rm (by have := Hl.out; omega)
      have k2 := rd_cell (k := 3 * n + 2) hB.rm (by have := Hl.out; omega)
      rw [← Hm0.out] at k0
      rw [← Hm1.out] at k1
      rw [← Hm2.out] at k2
      have HM : Hid (mixV M n r g b = max 0 (min 255 ((m0 * r + m1 * g + m2 * b + 128) / 256))) := by unfold mixV; rw [← Hm0.out, ← Hm1.out, ← Hm2.out]; exact rfl
      clear HC Hok d1
      have KB := Lib.hid K
      have HS := Lib.hid (show -1000000 ≤ m0 * r + m1 * g + m2 * b + 128 ∧ m0 * r + m1 * g + m2 * b + 128 ≤ 1000000 from by omega)
      have r0 := wrap_in (m0 * r) (by omega) (by omega)
      have r1 := wrap_in (m1 * g) (by omega) (by omega)
      have r2 := wrap_in (m2 * b) (by omega) (by omega)
      have r3 := wrap_in (m0 * r + m1 * g) (by omega) (by omega)
      have r4 := wrap_in (m0 * r + m1 * g + m2 * b) (by omega) (by omega)
      have r5 := wrap_in (m0 * r + m1 * g + m2 * b + 128) (by omega) (by omega)
      go_upto_region 3 with fail
      clear p0 p0' p1 p1' p2 p2'
      have HF := Lib.hid (fun W : World => floS (m0 * r + m1 * g + m2 * b + 128) 256 (Or.inl rfl) HS.out.1 HS.out.2 W)
      obtain ⟨z, hz⟩ : ∃ z, z = (m0 * r + m1 * g + m2 * b + 128) / 256 := ⟨_, rfl⟩
      rw [← hz] at HF
      have HZ := Lib.hid hz
      clear hz
      obtain rfl | rfl | rfl : n = 0 ∨ n = 1 ∨ n = 2 := by omega
      ·replace k0 : wk.cell? ⟨gm, 0, none⟩ = some (.int .i64 m0) := k0
       replace k1 : wk.cell? ⟨gm, 1, none⟩ = some (.int .i64 m1) := k1
       replace k2 : wk.cell? ⟨gm, 2, none⟩ = some (.int .i64 m2) := k2
       have w0 : IntKind.i64.wrap 0 = 0 := by rfl
       have w1 : IntKind.i64.wrap 1 = 1 := by rfl
       have w2 : IntKind.i64.wrap 2 = 2 := by rfl
       have HKc := Lib.hid (fun (W : World) (h : Below wk.heap.size wk W) => cm_keep h d0 k0 k1 k2)
       refine wp_region_held_drew (S := fun W => Below wk.heap.size wk W) (by kernel_rfl) (Below.refl _ _).drew (fun hS => ?_)
       refine tcH (i := 0) (v := .pointer (some ⟨w.heap.size, 0, none⟩)) rfl (by intro w' hSw; (try dsimp only at hSw); (obtain ⟨i0, i1, i2, i3⟩ := HKc.out _ hSw); go_simp) ?_
       refine tcH (i := 1) (v := .slice (some ⟨gm, 0, none⟩) 9 c) rfl (by intro w' hSw; (try dsimp only at hSw); (obtain ⟨i0, i1, i2, i3⟩ := HKc.out _ hSw); go_simp) ?_
       refine tcH (i := 2) (v := .int .i64 ((0 : Nat) : Int)) rfl (by intro w' hSw; (try dsimp only at hSw); (obtain ⟨i0, i1, i2, i3⟩ := HKc.out _ hSw); go_simp) ?_
       refine tcH (i := 3) (v := .int .i64 (0)) rfl (by intro w' hSw; (try dsimp only at hSw); (obtain ⟨i0, i1, i2, i3⟩ := HKc.out _ hSw); go_simp) ?_
       refine tcH (i := 4) (v := .pointer (some ⟨gm, 0, none⟩)) rfl (by intro w' hSw; (try dsimp only at hSw); (obtain ⟨i0, i1, i2, i3⟩ := HKc.out _ hSw); go_simp) ?_
       refine tcH (i := 5) (v := .int .i64 (m0)) rfl (by intro w' hSw; (try dsimp only at hSw); (obtain ⟨i0, i1, i2, i3⟩ := HKc.out _ hSw); go_simp) ?_
       refine tcH (i := 6) (v := .int .i64 (r)) rfl (by intro w' hSw; (try dsimp only at hSw); (obtain ⟨i0, i1, i2, i3⟩ := HKc.out _ hSw); go_simp) ?_
       refine tcH (i := 7) (v := .int .i64 (m0 * r)) rfl (by intro w' hSw; (try dsimp only at hSw); (obtain ⟨i0, i1, i2, i3⟩ := HKc.out _ hSw); go_simp) ?_
       refine tcH (i := 8) (v := .pointer (some ⟨w.heap.size, 0, none⟩)) rfl (by intro w' hSw; (try dsimp only at hSw); (obtain ⟨i0, i1, i2, i3⟩ := HKc.out _ hSw); go_simp) ?_
       refine tcH (i := 9) (v := .slice (some ⟨gm, 0, none⟩) 9 c) rfl (by intro w' hSw; (try dsimp only at hSw); (obtain ⟨i0, i1, i2, i3⟩ := HKc.out _ hSw); go_simp) ?_
       refine tcH (i := 10) (v := .int .i64 ((0 : Nat) : Int)) rfl (by intro w' hSw; (try dsimp only at hSw); (obtain ⟨i0, i1, i2, i3⟩ := HKc.out _ hSw); go_simp) ?_
       refine tcH (i := 11) (v := .int .i64 (0)) rfl (by intro w' hSw; (try dsimp only at hSw); (obtain ⟨i0, i1, i2, i3⟩ := HKc.out _ hSw); go_simp) ?_
       refine tcH (i := 12) (v := .int .i64 (1)) rfl (by intro w' hSw; (try dsimp only at hSw); (obtain ⟨i0, i1, i2, i3⟩ := HKc.out _ hSw); go_simp) ?_
       refine tcH (i := 13) (v := .pointer (some ⟨gm, 1, none⟩)) rfl (by intro w' hSw; (try dsimp only at hSw); (obtain ⟨i0, i1, i2, i3⟩ := HKc.out _ hSw); go_simp) ?_
       refine tcH (i := 14) (v := .int .i64 (m1)) rfl (by intro w' hSw; (try dsimp only at hSw); (obtain ⟨i0, i1, i2, i3⟩ := HKc.out _ hSw); go_simp) ?_
       refine tcH (i := 15) (v := .int .i64 (g)) rfl (by intro w' hSw; (try dsimp only at hSw); (obtain ⟨i0, i1, i2, i3⟩ := HKc.out _ hSw); go_simp) ?_
       refine tcH (i := 16) (v := .int .i64 (m1 * g)) rfl (by intro w' hSw; (try dsimp only at hSw); (obtain ⟨i0, i1, i2, i3⟩ := HKc.out _ hSw); go_simp) ?_
       refine tcH (i := 17) (v := .int .i64 (m0 * r + m1 * g)) rfl (by intro w' hSw; (try dsimp only at hSw); (obtain ⟨i0, i1, i2, i3⟩ := HKc.out _ hSw); go_simp) ?_
       refine tcH (i := 18) (v := .pointer (some ⟨w.heap.size, 0, none⟩)) rfl (by intro w' hSw; (try dsimp only at hSw); (obtain ⟨i0, i1, i2, i3⟩ := HKc.out _ hSw); go_simp) ?_
       refine tcH (i := 19) (v := .slice (some ⟨gm, 0, none⟩) 9 c) rfl (by intro w' hSw; (try dsimp only at hSw); (obtain ⟨i0, i1, i2, i3⟩ := HKc.out _ hSw); go_simp) ?_
       refine tcH (i := 20) (v := .int .i64 ((0 : Nat) : Int)) rfl (by intro w' hSw; (try dsimp only at hSw); (obtain ⟨i0, i1, i2, i3⟩ := HKc.out _ hSw); go_simp) ?_
       refine tcH (i := 21) (v := .int .i64 (0)) rfl (by intro w' hSw; (try dsimp only at hSw); (obtain ⟨i0, i1, i2, i3⟩ := HKc.out _ hSw); go_simp) ?_
       refine tcH (i := 22) (v := .int .i64 (2)) rfl (by intro w' hSw; (try dsimp only at hSw); (obtain ⟨i0, i1, i2, i3⟩ := HKc.out _ hSw); go_simp) ?_
       refine tcH (i := 23) (v := .pointer (some ⟨gm, 2, none⟩)) rfl (by intro w' hSw; (try dsimp only at hSw); (obtain ⟨i0, i1, i2, i3⟩ := HKc.out _ hSw); go_simp) ?_
       refine tcH (i := 24) (v := .int .i64 (m2)) rfl (by intro w' hSw; (try dsimp only at hSw); (obtain ⟨i0, i1, i2, i3⟩ := HKc.out _ hSw); go_simp) ?_
       refine tcH (i := 25) (v := .int .i64 (b)) rfl (by intro w' hSw; (try dsimp only at hSw); (obtain ⟨i0, i1, i2, i3⟩ := HKc.out _ hSw); go_simp) ?_
       refine tcH (i := 26) (v := .int .i64 (m2 * b)) rfl (by intro w' hSw; (try dsimp only at hSw); (obtain ⟨i0, i1, i2, i3⟩ := HKc.out _ hSw); go_simp) ?_
       refine tcH (i := 27) (v := .int .i64 (m0 * r + m1 * g + m2 * b)) rfl (by intro w' hSw; (try dsimp only at hSw); (obtain ⟨i0, i1, i2, i3⟩ := HKc.out _ hSw); go_simp) ?_
       refine tcH (i := 28) (v := .int .i64 (m0 * r + m1 * g + m2 * b + 128)) rfl (by intro w' hSw; (try dsimp only at hSw); (obtain ⟨i0, i1, i2, i3⟩ := HKc.out _ hSw); go_simp) ?_
       (try simp only [Act.put]); (try simp only [zPa]); (try simp only [zPb, zPc])
       refine wpAnyH_ready (rs := [29]) (by kernel_rfl) (by simp) ?_
       refine (AllReadyH.cons rfl (fun K hK => ?_) AllReadyH.nil)
       ·rw [if_pos (by kernel_rfl)]
        (try simp only [zGa]); (try simp only [zGb]); (try simp only [zGc])
        go_simp
        with_reducible refine (HF.out _).mono ?_
        rintro e wj ⟨rfl, rfl⟩
        dsimp only
        refine hK.out _ _ (hS) (fun hS => ?_)
        clear hK
        (try simp only [Act.put]); (try simp only [zPa]); (try simp only [zPb, zPc])
        refine tcH (i := 30) (v := .int .i64 (min 255 z)) rfl (by intro w' hSw; (try dsimp only at hSw); (obtain ⟨i0, i1, i2, i3⟩ := HKc.out _ hSw); go_simp) ?_
        refine tcH (i := 31) (v := .int .i64 (max 0 (min 255 z))) rfl (by intro w' hSw; (try dsimp only at hSw); (obtain ⟨i0, i1, i2, i3⟩ := HKc.out _ hSw); go_simp) ?_
        refine tcH (i := 32) (v := .int .i64 (max 0 (min 255 z))) rfl (by intro w' hSw; (try dsimp only at hSw); (obtain ⟨i0, i1, i2, i3⟩ := HKc.out _ hSw); go_simp) ?_
        refine wpAnyH_done (by kernel_rfl) ?_ _
        go_wp2_with fail
        go_ret
        exact ⟨ret_int (by rw [HV.out, HM.out, ← HZ.out]), belI_call KB.out hS⟩
      ·replace k0 : wk.cell? ⟨gm, 3, none⟩ = some (.int .i64 m0) := k0
       replace k1 : wk.cell? ⟨gm, 4, none⟩ = some (.int .i64 m1) := k1
       replace k2 : wk.cell? ⟨gm, 5, none⟩ = some (.int .i64 m2) := k2
       have w0 : IntKind.i64.wrap 3 = 3 := by rfl
       have w1 : IntKind.i64.wrap 4 = 4 := by rfl
       have w2 : IntKind.i64.wrap 5 = 5 := by rfl
       have HKc := Lib.hid (fun (W : World) (h : Below wk.heap.size wk W) => cm_keep h d0 k0 k1 k2)
       refine wp_region_held_drew (S := fun W => Below wk.heap.size wk W) (by kernel_rfl) (Below.refl _ _).drew (fun hS => ?_)
       refine tcH (i := 0) (v := .pointer (some ⟨w.heap.size, 0, none⟩)) rfl (by intro w' hSw; (try dsimp only at hSw); (obtain ⟨i0, i1, i2, i3⟩ := HKc.out _ hSw); go_simp) ?_
       refine tcH (i := 1) (v := .slice (some ⟨gm, 0, none⟩) 9 c) rfl (by intro w' hSw; (try dsimp only at hSw); (obtain ⟨i0, i1, i2, i3⟩ := HKc.out _ hSw); go_simp) ?_
       refine tcH (i := 2) (v := .int .i64 ((1 : Nat) : Int)) rfl (by intro w' hSw; (try dsimp only at hSw); (obtain ⟨i0, i1, i2, i3⟩ := HKc.out _ hSw); go_simp) ?_
       refine tcH (i := 3) (v := .int .i64 (3)) rfl (by intro w' hSw; (try dsimp only at hSw); (obtain ⟨i0, i1, i2, i3⟩ := HKc.out _ hSw); go_simp) ?_
       refine tcH (i := 4) (v := .pointer (some ⟨gm, 3, none⟩)) rfl (by intro w' hSw; (try dsimp only at hSw); (obtain ⟨i0, i1, i2, i3⟩ := HKc.out _ hSw); go_simp) ?_
       refine tcH (i := 5) (v := .int .i64 (m0)) rfl (by intro w' hSw; (try dsimp only at hSw); (obtain ⟨i0, i1, i2, i3⟩ := HKc.out _ hSw); go_simp) ?_
       refine tcH (i := 6) (v := .int .i64 (r)) rfl (by intro w' hSw; (try dsimp only at hSw); (obtain ⟨i0, i1, i2, i3⟩ := HKc.out _ hSw); go_simp) ?_
       refine tcH (i := 7) (v := .int .i64 (m0 * r)) rfl (by intro w' hSw; (try dsimp only at hSw); (obtain ⟨i0, i1, i2, i3⟩ := HKc.out _ hSw); go_simp) ?_
       refine tcH (i := 8) (v := .pointer (some ⟨w.heap.size, 0, none⟩)) rfl (by intro w' hSw; (try dsimp only at hSw); (obtain ⟨i0, i1, i2, i3⟩ := HKc.out _ hSw); go_simp) ?_
       refine tcH (i := 9) (v := .slice (some ⟨gm, 0, none⟩) 9 c) rfl (by intro w' hSw; (try dsimp only at hSw); (obtain ⟨i0, i1, i2, i3⟩ := HKc.out _ hSw); go_simp) ?_
       refine tcH (i := 10) (v := .int .i64 ((1 : Nat) : Int)) rfl (by intro w' hSw; (try dsimp only at hSw); (obtain ⟨i0, i1, i2, i3⟩ := HKc.out _ hSw); go_simp) ?_
       refine tcH (i := 11) (v := .int .i64 (3)) rfl (by intro w' hSw; (try dsimp only at hSw); (obtain ⟨i0, i1, i2, i3⟩ := HKc.out _ hSw); go_simp) ?_
       refine tcH (i := 12) (v := .int .i64 (4)) rfl (by intro w' hSw; (try dsimp only at hSw); (obtain ⟨i0, i1, i2, i3⟩ := HKc.out _ hSw); go_simp) ?_
       refine tcH (i := 13) (v := .pointer (some ⟨gm, 4, none⟩)) rfl (by intro w' hSw; (try dsimp only at hSw); (obtain ⟨i0, i1, i2, i3⟩ := HKc.out _ hSw); go_simp) ?_
       refine tcH (i := 14) (v := .int .i64 (m1)) rfl (by intro w' hSw; (try dsimp only at hSw); (obtain ⟨i0, i1, i2, i3⟩ := HKc.out _ hSw); go_simp) ?_
       refine tcH (i := 15) (v := .int .i64 (g)) rfl (by intro w' hSw; (try dsimp only at hSw); (obtain ⟨i0, i1, i2, i3⟩ := HKc.out _ hSw); go_simp) ?_
       refine tcH (i := 16) (v := .int .i64 (m1 * g)) rfl (by intro w' hSw; (try dsimp only at hSw); (obtain ⟨i0, i1, i2, i3⟩ := HKc.out _ hSw); go_simp) ?_
       refine tcH (i := 17) (v := .int .i64 (m0 * r + m1 * g)) rfl (by intro w' hSw; (try dsimp only at hSw); (obtain ⟨i0, i1, i2, i3⟩ := HKc.out _ hSw); go_simp) ?_
       refine tcH (i := 18) (v := .pointer (some ⟨w.heap.size, 0, none⟩)) rfl (by intro w' hSw; (try dsimp only at hSw); (obtain ⟨i0, i1, i2, i3⟩ := HKc.out _ hSw); go_simp) ?_
       refine tcH (i := 19) (v := .slice (some ⟨gm, 0, none⟩) 9 c) rfl (by intro w' hSw; (try dsimp only at hSw); (obtain ⟨i0, i1, i2, i3⟩ := HKc.out _ hSw); go_simp) ?_
       refine tcH (i := 20) (v := .int .i64 ((1 : Nat) : Int)) rfl (by intro w' hSw; (try dsimp only at hSw); (obtain ⟨i0, i1, i2, i3⟩ := HKc.out _ hSw); go_simp) ?_
       refine tcH (i := 21) (v := .int .i64 (3)) rfl (by intro w' hSw; (try dsimp only at hSw); (obtain ⟨i0, i1, i2, i3⟩ := HKc.out _ hSw); go_simp) ?_
       refine tcH (i := 22) (v := .int .i64 (5)) rfl (by intro w' hSw; (try dsimp only at hSw); (obtain ⟨i0, i1, i2, i3⟩ := HKc.out _ hSw); go_simp) ?_
       refine tcH (i := 23) (v := .pointer (some ⟨gm, 5, none⟩)) rfl (by intro w' hSw; (try dsimp only at hSw); (obtain ⟨i0, i1, i2, i3⟩ := HKc.out _ hSw); go_simp) ?_
       refine tcH (i := 24) (v := .int .i64 (m2)) rfl (by intro w' hSw; (try dsimp only at hSw); (obtain ⟨i0, i1, i2, i3⟩ := HKc.out _ hSw); go_simp) ?_
       refine tcH (i := 25) (v := .int .i64 (b)) rfl (by intro w' hSw; (try dsimp only at hSw); (obtain ⟨i0, i1, i2, i3⟩ := HKc.out _ hSw); go_simp) ?_
       refine tcH (i := 26) (v := .int .i64 (m2 * b)) rfl (by intro w' hSw; (try dsimp only at hSw); (obtain ⟨i0, i1, i2, i3⟩ := HKc.out _ hSw); go_simp) ?_
       refine tcH (i := 27) (v := .int .i64 (m0 * r + m1 * g + m2 * b)) rfl (by intro w' hSw; (try dsimp only at hSw); (obtain ⟨i0, i1, i2, i3⟩ := HKc.out _ hSw); go_simp) ?_
       refine tcH (i := 28) (v := .int .i64 (m0 * r + m1 * g + m2 * b + 128)) rfl (by intro w' hSw; (try dsimp only at hSw); (obtain ⟨i0, i1, i2, i3⟩ := HKc.out _ hSw); go_simp) ?_
       (try simp only [Act.put]); (try simp only [zPa]); (try simp only [zPb, zPc])
       refine wpAnyH_ready (rs := [29]) (by kernel_rfl) (by simp) ?_
       refine (AllReadyH.cons rfl (fun K hK => ?_) AllReadyH.nil)
       ·rw [if_pos (by kernel_rfl)]
        (try simp only [zGa]); (try simp only [zGb]); (try simp only [zGc])
        go_simp
        with_reducible refine (HF.out _).mono ?_
        rintro e wj ⟨rfl, rfl⟩
        dsimp only
        refine hK.out _ _ (hS) (fun hS => ?_)
        clear hK
        (try simp only [Act.put]); (try simp only [zPa]); (try simp only [zPb, zPc])
        refine tcH (i := 30) (v := .int .i64 (min 255 z)) rfl (by intro w' hSw; (try dsimp only at hSw); (obtain ⟨i0, i1, i2, i3⟩ := HKc.out _ hSw); go_simp) ?_
        refine tcH (i := 31) (v := .int .i64 (max 0 (min 255 z))) rfl (by intro w' hSw; (try dsimp only at hSw); (obtain ⟨i0, i1, i2, i3⟩ := HKc.out _ hSw); go_simp) ?_
        refine tcH (i := 32) (v := .int .i64 (max 0 (min 255 z))) rfl (by intro w' hSw; (try dsimp only at hSw); (obtain ⟨i0, i1, i2, i3⟩ := HKc.out _ hSw); go_simp) ?_
        refine wpAnyH_done (by kernel_rfl) ?_ _
        go_wp2_with fail
        go_ret
        exact ⟨ret_int (by rw [HV.out, HM.out, ← HZ.out]), belI_call KB.out hS⟩
      ·replace k0 : wk.cell? ⟨gm, 6, none⟩ = some (.int .i64 m0) := k0
       replace k1 : wk.cell? ⟨gm, 7, none⟩ = some (.int .i64 m1) := k1
       replace k2 : wk.cell? ⟨gm, 8, none⟩ = some (.int .i64 m2) := k2
       have w0 : IntKind.i64.wrap 6 = 6 := by rfl
       have w1 : IntKind.i64.wrap 7 = 7 := by rfl
       have w2 : IntKind.i64.wrap 8 = 8 := by rfl
       have HKc := Lib.hid (fun (W : World) (h : Below wk.heap.size wk W) => cm_keep h d0 k0 k1 k2)
       refine wp_region_held_drew (S := fun W => Below wk.heap.size wk W) (by kernel_rfl) (Below.refl _ _).drew (fun hS => ?_)
       refine tcH (i := 0) (v := .pointer (some ⟨w.heap.size, 0, none⟩)) rfl (by intro w' hSw; (try dsimp only at hSw); (obtain ⟨i0, i1, i2, i3⟩ := HKc.out _ hSw); go_simp) ?_
       refine tcH (i := 1) (v := .slice (some ⟨gm, 0, none⟩) 9 c) rfl (by intro w' hSw; (try dsimp only at hSw); (obtain ⟨i0, i1, i2, i3⟩ := HKc.out _ hSw); go_simp) ?_
       refine tcH (i := 2) (v := .int .i64 ((2 : Nat) : Int)) rfl (by intro w' hSw; (try dsimp only at hSw); (obtain ⟨i0, i1, i2, i3⟩ := HKc.out _ hSw); go_simp) ?_
       refine tcH (i := 3) (v := .int .i64 (6)) rfl (by intro w' hSw; (try dsimp only at hSw); (obtain ⟨i0, i1, i2, i3⟩ := HKc.out _ hSw); go_simp) ?_
       refine tcH (i := 4) (v := .pointer (some ⟨gm, 6, none⟩)) rfl (by intro w' hSw; (try dsimp only at hSw); (obtain ⟨i0, i1, i2, i3⟩ := HKc.out _ hSw); go_simp) ?_
       refine tcH (i := 5) (v := .int .i64 (m0)) rfl (by intro w' hSw; (try dsimp only at hSw); (obtain ⟨i0, i1, i2, i3⟩ := HKc.out _ hSw); go_simp) ?_
       refine tcH (i := 6) (v := .int .i64 (r)) rfl (by intro w' hSw; (try dsimp only at hSw); (obtain ⟨i0, i1, i2, i3⟩ := HKc.out _ hSw); go_simp) ?_
       refine tcH (i := 7) (v := .int .i64 (m0 * r)) rfl (by intro w' hSw; (try dsimp only at hSw); (obtain ⟨i0, i1, i2, i3⟩ := HKc.out _ hSw); go_simp) ?_
       refine tcH (i := 8) (v := .pointer (some ⟨w.heap.size, 0, none⟩)) rfl (by intro w' hSw; (try dsimp only at hSw); (obtain ⟨i0, i1, i2, i3⟩ := HKc.out _ hSw); go_simp) ?_
       refine tcH (i := 9) (v := .slice (some ⟨gm, 0, none⟩) 9 c) rfl (by intro w' hSw; (try dsimp only at hSw); (obtain ⟨i0, i1, i2, i3⟩ := HKc.out _ hSw); go_simp) ?_
       refine tcH (i := 10) (v := .int .i64 ((2 : Nat) : Int)) rfl (by intro w' hSw; (try dsimp only at hSw); (obtain ⟨i0, i1, i2, i3⟩ := HKc.out _ hSw); go_simp) ?_
       refine tcH (i := 11) (v := .int .i64 (6)) rfl (by intro w' hSw; (try dsimp only at hSw); (obtain ⟨i0, i1, i2, i3⟩ := HKc.out _ hSw); go_simp) ?_
       refine tcH (i := 12) (v := .int .i64 (7)) rfl (by intro w' hSw; (try dsimp only at hSw); (obtain ⟨i0, i1, i2, i3⟩ := HKc.out _ hSw); go_simp) ?_
       refine tcH (i := 13) (v := .pointer (some ⟨gm, 7, none⟩)) rfl (by intro w' hSw; (try dsimp only at hSw); (obtain ⟨i0, i1, i2, i3⟩ := HKc.out _ hSw); go_simp) ?_
       refine tcH (i := 14) (v := .int .i64 (m1)) rfl (by intro w' hSw; (try dsimp only at hSw); (obtain ⟨i0, i1, i2, i3⟩ := HKc.out _ hSw); go_simp) ?_
       refine tcH (i := 15) (v := .int .i64 (g)) rfl (by intro w' hSw; (try dsimp only at hSw); (obtain ⟨i0, i1, i2, i3⟩ := HKc.out _ hSw); go_simp) ?_
       refine tcH (i := 16) (v := .int .i64 (m1 * g)) rfl (by intro w' hSw; (try dsimp only at hSw); (obtain ⟨i0, i1, i2, i3⟩ := HKc.out _ hSw); go_simp) ?_
       refine tcH (i := 17) (v := .int .i64 (m0 * r + m1 * g)) rfl (by intro w' hSw; (try dsimp only at hSw); (obtain ⟨i0, i1, i2, i3⟩ := HKc.out _ hSw); go_simp) ?_
       refine tcH (i := 18) (v := .pointer (some ⟨w.heap.size, 0, none⟩)) rfl (by intro w' hSw; (try dsimp only at hSw); (obtain ⟨i0, i1, i2, i3⟩ := HKc.out _ hSw); go_simp) ?_
       refine tcH (i := 19) (v := .slice (some ⟨gm, 0, none⟩) 9 c) rfl (by intro w' hSw; (try dsimp only at hSw); (obtain ⟨i0, i1, i2, i3⟩ := HKc.out _ hSw); go_simp) ?_
       refine tcH (i := 20) (v := .int .i64 ((2 : Nat) : Int)) rfl (by intro w' hSw; (try dsimp only at hSw); (obtain ⟨i0, i1, i2, i3⟩ := HKc.out _ hSw); go_simp) ?_
       refine tcH (i := 21) (v := .int .i64 (6)) rfl (by intro w' hSw; (try dsimp only at hSw); (obtain ⟨i0, i1, i2, i3⟩ := HKc.out _ hSw); go_simp) ?_
       refine tcH (i := 22) (v := .int .i64 (8)) rfl (by intro w' hSw; (try dsimp only at hSw); (obtain ⟨i0, i1, i2, i3⟩ := HKc.out _ hSw); go_simp) ?_
       refine tcH (i := 23) (v := .pointer (some ⟨gm, 8, none⟩)) rfl (by intro w' hSw; (try dsimp only at hSw); (obtain ⟨i0, i1, i2, i3⟩ := HKc.out _ hSw); go_simp) ?_
       refine tcH (i := 24) (v := .int .i64 (m2)) rfl (by intro w' hSw; (try dsimp only at hSw); (obtain ⟨i0, i1, i2, i3⟩ := HKc.out _ hSw); go_simp) ?_
       refine tcH (i := 25) (v := .int .i64 (b)) rfl (by intro w' hSw; (try dsimp only at hSw); (obtain ⟨i0, i1, i2, i3⟩ := HKc.out _ hSw); go_simp) ?_
       refine tcH (i := 26) (v := .int .i64 (m2 * b)) rfl (by intro w' hSw; (try dsimp only at hSw); (obtain ⟨i0, i1, i2, i3⟩ := HKc.out _ hSw); go_simp) ?_
       refine tcH (i := 27) (v := .int .i64 (m0 * r + m1 * g + m2 * b)) rfl (by intro w' hSw; (try dsimp only at hSw); (obtain ⟨i0, i1, i2, i3⟩ := HKc.out _ hSw); go_simp) ?_
       refine tcH (i := 28) (v := .int .i64 (m0 * r + m1 * g + m2 * b + 128)) rfl (by intro w' hSw; (try dsimp only at hSw); (obtain ⟨i0, i1, i2, i3⟩ := HKc.out _ hSw); go_simp) ?_
       (try simp only [Act.put]); (try simp only [zPa]); (try simp only [zPb, zPc])
       refine wpAnyH_ready (rs := [29]) (by kernel_rfl) (by simp) ?_
       refine (AllReadyH.cons rfl (fun K hK => ?_) AllReadyH.nil)
       ·rw [if_pos (by kernel_rfl)]
        (try simp only [zGa]); (try simp only [zGb]); (try simp only [zGc])
        go_simp
        with_reducible refine (HF.out _).mono ?_
        rintro e wj ⟨rfl, rfl⟩
        dsimp only
        refine hK.out _ _ (hS) (fun hS => ?_)
        clear hK
        (try simp only [Act.put]); (try simp only [zPa]); (try simp only [zPb, zPc])
        refine tcH (i := 30) (v := .int .i64 (min 255 z)) rfl (by intro w' hSw; (try dsimp only at hSw); (obtain ⟨i0, i1, i2, i3⟩ := HKc.out _ hSw); go_simp) ?_
        refine tcH (i := 31) (v := .int .i64 (max 0 (min 255 z))) rfl (by intro w' hSw; (try dsimp only at hSw); (obtain ⟨i0, i1, i2, i3⟩ := HKc.out _ hSw); go_simp) ?_
        refine tcH (i := 32) (v := .int .i64 (max 0 (min 255 z))) rfl (by intro w' hSw; (try dsimp only at hSw); (obtain ⟨i0, i1, i2, i3⟩ := HKc.out _ hSw); go_simp) ?_
        refine wpAnyH_done (by kernel_rfl) ?_ _
        go_wp2_with fail
        go_ret
        exact ⟨ret_int (by rw [HV.out, HM.out, ← HZ.out]), belI_call KB.out hS⟩
     ·have Hn := Lib.hid (mixA_no (M := M) (C := C) (row := row) (r := r) (g := g) (b := b) fun h => h3 h.2.2.2.2.2)
      have Hr := Lib.hid hr
      have Hh1 := Lib.hid h1
      have Hh2 := Lib.hid h2
      have Hh3 := Lib.hid (ch_no h3)
      clear hok hr h1 h2 h3
      go_enter Tryz.func230, Tryz.ntmps230
      go_wp2_with fail
      refine (HC.out _ hB.rm hB.rc).mono ?_
      rintro e wk ⟨rfl, hb⟩
      replace hB := hB.call hb
      replace K := belI_call K hb
      clear hb d0 d1
      obtain ⟨d0, d1⟩ := hB.cells
      go_wp2_with fail
      refine (inS_yes _ 0 2 _ Hr.out.1 Hr.out.2).mono ?_
      rintro e wk ⟨rfl, rfl⟩
      go_wp2_with fail
      refine (inS_yes _ 0 255 _ Hh1.out.1 Hh1.out.2).mono ?_
      rintro e wk ⟨rfl, rfl⟩
      go_wp2_with fail
      refine (inS_yes _ 0 255 _ Hh2.out.1 Hh2.out.2).mono ?_
      rintro e wk ⟨rfl, rfl⟩
      go_wp2_with fail
      refine (inS_no _ 0 255 _ Hh3.out).mono ?_
      rintro e wk ⟨rfl, rfl⟩
      go_wp2_with fail
      go_ret
      exact ⟨ret_int Hn.out.symm, K⟩
    ·have Hn := Lib.hid (mixA_no (M := M) (C := C) (row := row) (r := r) (g := g) (b := b) fun h => h2 h.2.2.2.2.1)
     have Hr := Lib.hid hr
     have Hh1 := Lib.hid h1
     have Hh2 := Lib.hid (ch_no h2)
     clear hok hr h1 h2
     go_enter Tryz.func230, Tryz.ntmps230
     go_wp2_with fail
     refine (HC.out _ hB.rm hB.rc).mono ?_
     rintro e wk ⟨rfl, hb⟩
     replace hB := hB.call hb
     replace K := belI_call K hb
     clear hb d0 d1
     obtain ⟨d0, d1⟩ := hB.cells
     go_wp2_with fail
     refine (inS_yes _ 0 2 _ Hr.out.1 Hr.out.2).mono ?_
     rintro e wk ⟨rfl, rfl⟩
     go_wp2_with fail
     refine (inS_yes _ 0 255 _ Hh1.out.1 Hh1.out.2).mono ?_
     rintro e wk ⟨rfl, rfl⟩
     go_wp2_with fail
     refine (inS_no _ 0 255 _ Hh2.out).mono ?_
     rintro e wk ⟨rfl, rfl⟩
     go_wp2_with fail
     go_ret
     exact ⟨ret_int Hn.out.symm, K⟩
   ·have Hn := Lib.hid (mixA_no (M := M) (C := C) (row := row) (r := r) (g := g) (b := b) fun h => h1 h.2.2.2.1)
    have Hr := Lib.hid hr
    have Hh1 := Lib.hid (ch_no h1)
    clear hok hr  h1
    go_enter Tryz.func230, Tryz.ntmps230
    go_wp2_with fail
    refine (HC.out _ hB.rm hB.rc).mono ?_
    rintro e wk ⟨rfl, hb⟩
    replace hB := hB.call hb
    replace K := belI_call K hb
    clear hb d0 d1
    obtain ⟨d0, d1⟩ := hB.cells
    go_wp2_with fail
    refine (inS_yes _ 0 2 _ Hr.out.1 Hr.out.2).mono ?_
    rintro e wk ⟨rfl, rfl⟩
    go_wp2_with fail
    refine (inS_no _ 0 255 _ Hh1.out).mono ?_
    rintro e wk ⟨rfl, rfl⟩
    go_wp2_with fail
    go_ret
    exact ⟨ret_int Hn.out.symm, K⟩
  ·have hr' : row < 0 ∨ 2 < row := by omega
   have Hn := Lib.hid (mixA_no (M := M) (C := C) (row := row) (r := r) (g := g) (b := b) fun h => hr ⟨h.2.1, h.2.2.1⟩)
   have Hr := Lib.hid hr'
   clear hok hr hr'
   go_enter Tryz.func230, Tryz.ntmps230
   go_wp2_with fail
   refine (HC.out _ hB.rm hB.rc).mono ?_
   rintro e wk ⟨rfl, hb⟩
   replace hB := hB.call hb
   replace K := belI_call K hb
   clear hb d0 d1
   obtain ⟨d0, d1⟩ := hB.cells
   go_wp2_with fail
   refine (inS_no _ 0 2 _ Hr.out).mono ?_
   rintro e wk ⟨rfl, rfl⟩
   go_wp2_with fail
   go_ret
   exact ⟨ret_int Hn.out.symm, K⟩
 ·rw [colB_no hok] at HC
  have HC := Lib.hid HC
  have Hn := Lib.hid (mixA_no (M := M) (C := C) (row := row) (r := r) (g := g) (b := b) fun h => hok h.1)
  clear hok
  go_enter Tryz.func230, Tryz.ntmps230
  go_wp2_with fail
  refine (HC.out _ hB.rm hB.rc).mono ?_
  rintro e wk ⟨rfl, hb⟩
  replace hB := hB.call hb
  replace K := belI_call K hb
  clear hb d0 d1
  go_wp2_with fail
  go_ret
  exact ⟨ret_int Hn.out.symm, K⟩
set_option maxHeartbeats 1000000 in
set_option maxRecDepth 10000 in
theorem curatS (u v : Value) (M C : List Int) (x : Int) (w : World) (hu : RdI w u M) (hv : RdI w v C) :
  Calls Tryz.prog 229 #[.agg #[u, v], .int .i64 x] w fun e w' => e = .returned (.int .i64 (curA M C x)) ∧ Below w.heap.size w w' := by
 have hB := CmB.born hu hv
 have K := belI_box w (.cells #[u, v] 91)
 obtain ⟨d0, d1⟩ := hB.cells
 have HC := fun (W : World) (h1 : RdI W u M) (h2 : RdI W v C) => colS u v M C W h1 h2
 clear hu hv
 by_cases hok : colOk M C
 ·rw [colB_yes hok] at HC
  have HC := Lib.hid HC
  by_cases hx : chOk x
  ·obtain ⟨n, rfl⟩ := Int.eq_ofNat_of_zero_le hx.1
   have hn : n ≤ 255 := by have := hx.2; omega
   have Hn := Lib.hid (curA_yes hok hn)
   have Hx := Lib.hid hx
   obtain ⟨gm, c, e, _, hcl⟩ := rd_block hB.rc (by rw [hok.2.1]; decide)
   subst e
   rw [hok.2.1] at hcl hB d1 HC K ⊢
   have Hl := Lib.hid hok.2.1
   obtain ⟨k, hk⟩ : ∃ k, k = n / 16 := ⟨_, rfl⟩
   obtain ⟨t, ht⟩ : ∃ t, t = n % 16 := ⟨_, rfl⟩
   have k16 : k ≤ 15 := by omega
   have t16 : t ≤ 15 := by omega
   obtain ⟨a, ha⟩ : ∃ a, a = C.getD k 0 := ⟨_, rfl⟩
   obtain ⟨b, hb⟩ : ∃ b, b = C.getD (k + 1) 0 := ⟨_, rfl⟩
   have p := cur_pt hok (k := k) (by omega)
   have q := cur_pt hok (k := k + 1) (by omega)
   rw [← ha] at p
   rw [← hb] at q
   have HV : Hid (curV C n = min 255 (a + ((b - a) * t) / 16)) := by unfold curV; rw [← hk, ← ht, ← ha, ← hb, cur_alt]; exact rfl
   obtain ⟨p0, p1⟩ := p
   obtain ⟨q0, q1⟩ := q
   obtain ⟨s0, s1⟩ := rise_bd (a := a) (b := b) (t := (t : Int)) p0 p1 q0 q1 (by omega) (by omega)
   have Ha := Lib.hid ha
   have Hb := Lib.hid hb
   have Hk := Lib.hid hk
   have Ht := Lib.hid ht
   clear hok hx ha hb hk ht
   go_enter Tryz.func229, Tryz.ntmps229
   go_wp2_with fail
   refine (HC.out _ hB.rm hB.rc).mono ?_
   rintro e wk ⟨rfl, hb⟩
   replace hB := hB.call hb
   replace K := belI_call K hb
   clear hb d0 d1
   obtain ⟨d0, d1⟩ := hB.cells
   go_wp2_with fail
   refine (inS_yes _ 0 255 _ Hx.out.1 Hx.out.2).mono ?_
   rintro e wk ⟨rfl, rfl⟩
   have k0 := rd_cell (k := k) hB.rc (by have := Hl.out; omega)
   have k1 := rd_cell (k := k + 1) hB.rc (by have := Hl.out; omega)
   rw [← Ha.out] at k0
   rw [← Hb.out] at k1
   have k1' : (k : Int) + 1 ≤ 16 := by omega
   have k0' : (0 : Int) ≤ (k : Int) := by omega
   have kt : ((k : Int) + 1).toNat = k + 1 := by omega
   clear HC
   have h16 : (n : Int) / 16 = (k : Int) := by have := Hk.out; omega
   have h17 : (n : Int) % 16 = (t : Int) := by have := Ht.out; omega
   go_wp2_with fail
   refine (floS ((b - a) * t) 16 (Or.inr rfl) (by omega) (by omega) _).mono ?_
   rintro e wj ⟨rfl, rfl⟩
   go_wp2_with fail
   go_ret
   exact ⟨ret_int (by rw [Hn.out, HV.out]), K⟩
  ·have Hn := Lib.hid (curA_no (M := M) (C := C) (v := x) fun h => hx h.2)
   have Hx := Lib.hid (ch_no hx)
   clear hok hx
   go_enter Tryz.func229, Tryz.ntmps229
   go_wp2_with fail
   refine (HC.out _ hB.rm hB.rc).mono ?_
   rintro e wk ⟨rfl, hb⟩
   replace hB := hB.call hb
   replace K := belI_call K hb
   clear hb d0 d1
   obtain ⟨d0, d1⟩ := hB.cells
   go_wp2_with fail
   refine (inS_no _ 0 255 _ Hx.out).mono ?_
   rintro e wk ⟨rfl, rfl⟩
   go_wp2_with fail
   go_ret
   exact ⟨ret_int Hn.out.symm, K⟩
 ·rw [colB_no hok] at HC
  have HC := Lib.hid HC
  have Hn := Lib.hid (curA_no (M := M) (C := C) (v := x) fun h => hok h.1)
  clear hok
  go_enter Tryz.func229, Tryz.ntmps229
  go_wp2_with fail
  refine (HC.out _ hB.rm hB.rc).mono ?_
  rintro e wk ⟨rfl, hb⟩
  replace hB := hB.call hb
  replace K := belI_call K hb
  clear hb d0 d1
  go_wp2_with fail
  go_ret
  exact ⟨ret_int Hn.out.symm, K⟩
end Go.Proofs.YtnndifemkichmaaGreat
