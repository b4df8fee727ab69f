/- The contracts of mixed, curved, MixChannels, CurveAt, of the program and of its model. No statement is proved here. -/
import Derived.Test.YtaggldhlnjbnhaaBase
import Derived.Test.YtaggldhlnjbnhaaRd
import Derived.Test.YtaggldhlnjbnhaaIntR
import Derived.Test.YtaggldhlnjbnhaaFrame
import Derived.Test.YtaggldhlnjbnhaaImR
import Derived.Test.YtaggldhlnjbnhaaPixM
import Derived.Test.YtaggldhlnjbnhaaImV
import Derived.Test.YtaggldhlnjbnhaaBlk4
import Derived.Test.YtaggldhlnjbnhaaRectEq
import Derived.Test.YtaggldhlnjbnhaaClampC
import Derived.Test.YtaggldhlnjbnhaaPixA
import Derived.Test.YtaggldhlnjbnhaaBk
import Derived.Test.YtaggldhlnjbnhaaHasC
import Derived.Test.YtaggldhlnjbnhaaRds
import Derived.Test.YtaggldhlnjbnhaaCpyB
import Derived.Test.YtaggldhlnjbnhaaColM
import Derived.Test.YtaggldhlnjbnhaaCmB
import Derived.Test.YtaggldhlnjbnhaaProg
import Derived.WalkKit
import Derived.ProofKit
import Derived.OpenShut
import Derived.WalkLawsBesides
import Derived.WalkSpells
import Derived.ShutString
import Derived.ChangeOld
import Derived.Below
import Derived.Lib.Hide
import Derived.BigQuiet
import Derived.Deep.QuietTactic
import Derived.Maps.AppendAt
import Derived.Deep.OwnRows
import Derived.Handy
import Derived.Deep.Draws
import Derived.OwnWalk
import Derived.Deep.AppendLies
import Derived.Deep.LoopGhost
import Derived.Deep.Onto
import Derived.Laws.BitsAllLaws
import Derived.Lib.QuoteBits
import Derived.Test.YtaggldhlnjbnhaaShelf
import Derived.Laws.CopyOwn
import Derived.Deep.RegionLaw
import Derived.Deep.RegionHeld3
import Derived.Deep.DeepCutAuto
import Derived.Great.BuildSlice
import Derived.Deep.MidRow
import Derived.Deep.WholeRow
import Derived.Laws.AppendOwn
import Derived.ChangeKeysEq
namespace Go.Proofs.Ytaggldhlnjbnhaa
open Go.RowKit
theorem tdiv_clamp (s : Int) : clamp (s.tdiv 256) 0 255 = max 0 (min 255 (s / 256)) := by
  unfold clamp
  by_cases h : 0 ≤ s
  · rw [Int.tdiv_eq_ediv_of_nonneg h]; omega
  · have e : s.tdiv 256 = -((-s) / 256) := by
      rw [← Int.tdiv_eq_ediv_of_nonneg (by omega), Int.neg_tdiv, Int.neg_neg]
    rw [e]; omega
theorem tdiv_bd {s : Int} (h1 : -1000000 ≤ s) (h2 : s ≤ 1000000) : -1000000 ≤ s.tdiv 256 ∧ s.tdiv 256 ≤ 1000000 := by
  by_cases h : 0 ≤ s
  · rw [Int.tdiv_eq_ediv_of_nonneg h]; omega
  · have e : s.tdiv 256 = -((-s) / 256) := by
      rw [← Int.tdiv_eq_ediv_of_nonneg (by omega), Int.neg_tdiv, Int.neg_neg]
    rw [e]; omega
/-- The cells of a list that is read from its block's head on. -/
theorem rd_cell {W : World} {g n c k : Nat} {L : List Int} (h : RdI W (.slice (some ⟨g, 0, none⟩) n c) L) (hk : k < L.length) : W.cell? ⟨g, k, none⟩ = some (.int .i64 (L.getD k 0)) := by
  obtain ⟨g', x, e, hx, hc⟩ := h.at_ hk
  injection e with e
  injection e with e1
  subst e1
  rw [List.getD_eq_getElem?_getD, hx]
  exact hc
set_option maxHeartbeats 1000000 in
set_option maxRecDepth 10000 in
theorem mixedI (u v : Value) (M C : List Int) (row : Nat) (c0 r g b : Int) (w : World) (hok : colOk M C) (hrow : row ≤ 2) (h1 : chOk r) (h2 : chOk g) (h3 : chOk b) (hu : RdI w u M) :
    Calls Try.prog 90 #[.agg #[u, v], .int .i64 row, .agg #[.int .i64 c0, .int .i64 r, .int .i64 g, .int .i64 b]] w fun e w' => e = .returned (.int .i64 (mixV M row r g b)) ∧ Below w.heap.size w w' := by
  have hl := hok.1
  obtain ⟨gm, c, rfl, hgl, hcl⟩ := rd_block hu (by omega)
  obtain ⟨m0, hm0⟩ : ∃ x, x = M.getD (3 * row) 0 := ⟨_, rfl⟩
  obtain ⟨m1, hm1⟩ : ∃ x, x = M.getD (3 * row + 1) 0 := ⟨_, rfl⟩
  obtain ⟨m2, hm2⟩ : ∃ x, x = M.getD (3 * row + 2) 0 := ⟨_, rfl⟩
  have b0 := mat_pt hok (k := 3 * row) (by omega)
  have b1 := mat_pt hok (k := 3 * row + 1) (by omega)
  have b2 := mat_pt hok (k := 3 * row + 2) (by omega)
  have HV : Hid (mixV M row r g b = max 0 (min 255 ((m0 * r + m1 * g + m2 * b + 128) / 256))) := by rw [hm0, hm1, hm2]; exact rfl
  rw [← hm0] at b0
  rw [← hm1] at b1
  rw [← hm2] at b2
  obtain ⟨p0, p0'⟩ := wt_bd b0.1 b0.2 h1
  obtain ⟨p1, p1'⟩ := wt_bd b1.1 b1.2 h2
  obtain ⟨p2, p2'⟩ := wt_bd b2.1 b2.2 h3
  rw [hl] at hcl hu ⊢
  obtain ⟨w0, hw0⟩ : ∃ w0, w0 = (w.alloc (.cells #[.slice (some ⟨gm, 0, none⟩) 9 c, v] 49)).alloc (.cells #[.int .i64 c0, .int .i64 r, .int .i64 g, .int .i64 b] 70) := ⟨_, rfl⟩
  have hrd : RdI w0 (.slice (some ⟨gm, 0, none⟩) 9 c) M := by rw [hw0]; exact (hu.alloc _).alloc _
  have hB : BkAt w0 w.heap.size 49 #[.slice (some ⟨gm, 0, none⟩) 9 c, v] := by rw [hw0]; exact (BkAt.new _ _ _).alloc _
  have hG : ChAt w0 (w.heap.size + 1) c0 r g b := by rw [hw0]; exact ChAt.newAt (by simp) _ _ _ _
  have K : Below w.heap.size w w0 := by rw [hw0]; exact belI_call (belI_box _ _) (belI_box _ _)
  have k0 : w0.cell? ⟨gm, 3 * row, none⟩ = some (.int .i64 m0) := by rw [hm0]; exact rd_cell hrd (by omega)
  have k1 : w0.cell? ⟨gm, 3 * row + 1, none⟩ = some (.int .i64 m1) := by rw [hm1]; exact rd_cell hrd (by omega)
  have k2 : w0.cell? ⟨gm, 3 * row + 2, none⟩ = some (.int .i64 m2) := by rw [hm2]; exact rd_cell hrd (by omega)
  have HW := Lib.hid hw0
  have HK := Lib.hid K
  have d0 := hB.cell 0 rfl
  have d1 := hB.cell 1 rfl
  obtain ⟨e0, e1, e2, e3⟩ := hG.cells
  have HS := Lib.hid (tdiv_bd (s := 128 + m0 * r + m1 * g + m2 * b) (by omega) (by omega))
  clear hm0 hm1 hm2 b0 b1 b2 hl hok hu hrd hB hG K h1 h2 h3 hgl
  rw [hw0] at d0 d1 e0 e1 e2 e3 k0 k1 k2
  clear hw0
  obtain rfl | rfl | rfl : row = 0 ∨ row = 1 ∨ row = 2 := by omega
  all_goals
    go_enter Try.func90, Try.ntmps90
    go_wp2_with fail
    rw [← HW.out] at d0 d1 e0 e1 e2 e3 k0 k1 k2 ⊢
    go_loopw [7, 19] (fun s i wr => ∃ (k : Nat) (t : Int), k ≤ 3 ∧ i = .int .i64 k ∧ s = .int .i64 t ∧ Hid (t = 128 + (if 0 < k then m0 * r else 0) + (if 1 < k then m1 * g else 0) + (if 2 < k then m2 * b else 0)) ∧ wr = w0) (fun _ i _ => 3 - (intOf i).toNat)
    case atStart => exact ⟨0, 128, by omega, rfl, rfl, Lib.hid rfl, rfl⟩
    case round =>
      obtain ⟨k, t, hk, rfl, rfl, Ht, rfl⟩ := hrel
      obtain rfl | rfl | rfl | rfl : k = 0 ∨ k = 1 ∨ k = 2 ∨ k = 3 := by omega
      · obtain rfl : t = 128 := by simpa using Ht.out
        go_wp2_with fail
        go_roundw
        case rel => exact ⟨1, _, by omega, rfl, rfl, Lib.hid (by simp), by first | rfl | trivial⟩
        case measure => simp [intOf]
      · obtain rfl : t = 128 + m0 * r := by simpa using Ht.out
        go_wp2_with fail
        go_roundw
        case rel => exact ⟨2, _, by omega, rfl, rfl, Lib.hid (by simp), by first | rfl | trivial⟩
        case measure => simp [intOf]
      · obtain rfl : t = 128 + m0 * r + m1 * g := by simpa using Ht.out
        go_wp2_with fail
        go_roundw
        case rel => exact ⟨3, _, by omega, rfl, rfl, Lib.hid (by simp), by first | rfl | trivial⟩
        case measure => simp [intOf]
      · obtain rfl : t = 128 + m0 * r + m1 * g + m2 * b := by simpa using Ht.out
        go_wp2_with fail
        refine (clampI _ 0 255 _).mono ?_
        rintro e w' ⟨rfl, rfl⟩
        go_wp2_with fail
        go_ret
        exact ⟨ret_int (by rw [tdiv_clamp, HV.out, show 128 + m0 * r + m1 * g + m2 * b = m0 * r + m1 * g + m2 * b + 128 by omega]), HK.out⟩
set_option maxHeartbeats 1000000 in
set_option maxRecDepth 10000 in
theorem curvedI (u v : Value) (M C : List Int) (x : Nat) (w : World) (hok : colOk M C) (hx : x ≤ 255) (hv : RdI w v C) :
    Calls Try.prog 89 #[.agg #[u, v], .int .i64 x] w fun e w' => e = .returned (.int .i64 (curV C x)) ∧ Below w.heap.size w w' := by
  have hl := hok.2.1
  obtain ⟨gm, c, rfl, hgl, hcl⟩ := rd_block hv (by omega)
  obtain ⟨k, hk⟩ : ∃ k, k = x / 16 := ⟨_, rfl⟩
  obtain ⟨t, ht⟩ : ∃ t, t = x % 16 := ⟨_, rfl⟩
  have k16 : k ≤ 15 := by omega
  have t16 : t ≤ 15 := by omega
  obtain ⟨a, ha⟩ : ∃ a, a = C.getD k 0 := ⟨_, rfl⟩
  obtain ⟨b, hb⟩ : ∃ b, b = C.getD (k + 1) 0 := ⟨_, rfl⟩
  have p := cur_pt hok (k := k) (by omega)
  have q := cur_pt hok (k := k + 1) (by omega)
  rw [← ha] at p
  rw [← hb] at q
  obtain ⟨s0, s1⟩ := cur_bd p.1 p.2 q.1 q.2 (t := (t : Int)) (by omega) (by omega)
  have HV : Hid (curV C x = min 255 (curL a b t)) := by unfold curV; rw [← hk, ← ht, ← ha, ← hb]; exact rfl
  obtain ⟨p0, p1⟩ := p
  obtain ⟨q0, q1⟩ := q
  rw [hl] at hcl hv ⊢
  obtain ⟨w0, hw0⟩ : ∃ w0, w0 = w.alloc (.cells #[u, .slice (some ⟨gm, 0, none⟩) 17 c] 49) := ⟨_, rfl⟩
  have hrd : RdI w0 (.slice (some ⟨gm, 0, none⟩) 17 c) C := by rw [hw0]; exact hv.alloc _
  have hB : BkAt w0 w.heap.size 49 #[u, .slice (some ⟨gm, 0, none⟩) 17 c] := by rw [hw0]; exact BkAt.new _ _ _
  have K : Below w.heap.size w w0 := by rw [hw0]; exact belI_box _ _
  have k0 : w0.cell? ⟨gm, k, none⟩ = some (.int .i64 a) := by rw [ha]; exact rd_cell hrd (by omega)
  have k1 : w0.cell? ⟨gm, k + 1, none⟩ = some (.int .i64 b) := by rw [hb]; exact rd_cell hrd (by omega)
  have d1 : w0.cell? ⟨w.heap.size, 1, none⟩ = some (.slice (some ⟨gm, 0, none⟩) 17 c) := hB.cell 1 rfl
  have HW := Lib.hid hw0
  have HK := Lib.hid K
  have Hk := Lib.hid hk
  have Ht := Lib.hid ht
  clear ha hb hl hok hv hrd hB K hgl hk ht
  rw [hw0] at d1 k0 k1
  clear hw0
  go_enter Try.func89, Try.ntmps89
  go_upto_region 2 with fail
  rw [show (x : Int) / 16 = (k : Int) from by have := Hk.out; omega, show (x : Int) % 16 = (t : Int) from by have := Ht.out; omega]
  rw [← HW.out] at d1 k0 k1 ⊢
  have k1' : (k : Int) + 1 ≤ 16 := by omega
  have k0' : (0 : Int) ≤ (k : Int) := by omega
  have kt : ((k : Int) + 1).toNat = k + 1 := by omega
  go_quiet (fail)
  go_wp2_with fail
  go_ret
  exact ⟨ret_int (by rw [HV.out]; unfold curL; omega), below_drewN HK.out _⟩
end Go.Proofs.Ytaggldhlnjbnhaa
