/- The contracts of the canvas' frame and pixel, of PixelOf, of the program and of its model. No statement is proved here. -/
import Derived.Test.YtfolphadhmgbiaaMA
import Derived.Test.YtfolphadhmgbiaaImR
import Derived.Test.YtfolphadhmgbiaaImO
import Derived.Test.YtfolphadhmgbiaaProg
import Derived.WalkKit
import Derived.ProofKit
import Derived.OpenShut
import Derived.WalkLawsBesides
import Derived.WalkSpells
import Derived.ShutString
import Derived.ChangeOld
import Derived.Below
import Derived.Lib.Hide
import Derived.BigQuiet
import Derived.Deep.QuietTactic
import Derived.Maps.AppendAt
import Derived.Deep.OwnRows
import Derived.Handy
import Derived.Deep.Draws
import Derived.OwnWalk
import Derived.Deep.AppendLies
import Derived.Deep.LoopGhost
import Derived.Deep.Onto
import Derived.Laws.BitsAllLaws
import Derived.Lib.QuoteBits
import Derived.Deep.RegionHeld3
import Derived.Deep.DeepCutAuto
namespace Go.Proofs.Ytfolphadhmgbiaa
open Go.RowKit
/-- A pixel of an image; -1 if there is none. -/
def pxAt (W H : Int) (L : List Int) (x y : Int) : Int := if 0 ≤ x ∧ x < W ∧ 0 ≤ y ∧ y < H then L.getD (y * W + x).toNat 0 else -1
open Classical in
noncomputable def pxOf (W H : Int) (L : List Int) (x y : Int) : Int := if imOk W H L then pxAt W H L x y else -1
/-- The place of a pixel. -/
theorem px_place {W H x y : Int} {L : List Int} (h : imOk W H L) (hx : 0 ≤ x ∧ x < W) (hy : 0 ≤ y ∧ y < H) :
    0 ≤ y * W ∧ y * W ≤ 240 ∧ 0 ≤ y * W + x ∧ y * W + x < (L.length : Int) ∧ L.length ≤ 256 := by
  obtain ⟨⟨s1, s2, s3, s4⟩, hl, _⟩ := h
  have m1 := sz_mul (W := W) (H := H) ⟨s1, s2, s3, s4⟩
  have h1 : 0 ≤ y * W := Int.mul_nonneg hy.1 (by omega)
  have h2 : y * W ≤ 15 * 16 := Int.mul_le_mul (by omega) s2 (by omega) (by omega)
  have h3 : (y + 1) * W ≤ H * W := Int.mul_le_mul_of_nonneg_right (by omega) (by omega)
  rw [Int.add_mul, Int.one_mul, Int.mul_comm H W] at h3
  omega
theorem frameI (W H : Int) (A : Option Addr) (n c : Nat) (w : World) :
    Calls Try.prog 123 #[.agg #[.int .i64 W, .int .i64 H, .slice A n c]] w fun e w' => e = .returned (.agg #[.int .i64 0, .int .i64 0, .int .i64 W, .int .i64 H]) ∧ Below w.heap.size w w' := by
  go_enter Try.func123, Try.ntmps123
  go_wp2_with fail
  exact bodyPost_ret (v := .agg #[.int .i64 0, .int .i64 0, .int .i64 W, .int .i64 H]) (by simp [results, Try.results123, go_sem]) rfl ⟨rfl, by repeat (first | exact Below.refl _ _ | refine Below.setCell ?_ (by simp; try omega) _ | refine Below.alloc ?_ (by simp; try omega) _)⟩
theorem pixelI (W H x y : Int) (v : Value) (L : List Int) (w : World) (h : imOk W H L) (hx : 0 ≤ x ∧ x < W) (hy : 0 ≤ y ∧ y < H) (hv : RdI w v L) :
    Calls Try.prog 121 #[.agg #[.int .i64 W, .int .i64 H, v], .int .i64 x, .int .i64 y] w fun e w' => e = .returned (.int .i64 (L.getD (y * W + x).toNat 0)) ∧ Below w.heap.size w w' := by
  have hv2 := hv.alloc (.cells #[.int .i64 W, .int .i64 H, v] 136)
  have hw := (Below.refl w.heap.size w).alloc (Nat.le_refl _) (.cells #[.int .i64 W, .int .i64 H, v] 136)
  obtain ⟨m0, m1, p0, p1, pn⟩ := px_place h hx hy
  obtain ⟨A, c, rfl⟩ := hv.form
  obtain ⟨m, hm⟩ := Int.eq_ofNat_of_zero_le m0
  obtain ⟨x, rfl⟩ := Int.eq_ofNat_of_zero_le hx.1
  obtain ⟨g, p, rfl, hp, hc⟩ := hv2.at_ (k := m + x) (by omega)
  have Hp : Hid (L.getD (y * W + (x : Int)).toNat 0 = p) := Lib.hid (by
    rw [show (y * W + (x : Int)).toNat = m + x by omega, List.getD_eq_getElem?_getD, hp]; rfl)
  obtain ⟨n, hn⟩ : ∃ n, n = L.length := ⟨_, rfl⟩
  rw [← hn] at p1 pn hw hc ⊢
  rw [hm] at p1 m1
  have Hw := Lib.hid hw
  clear hv hv2 hp hw hn h p0
  have hy0 := hy.1
  have hmx : (m : Int) + (x : Int) < (n : Int) := p1
  have hm2 : (m : Int) ≤ 240 := m1
  go_enter Try.func121, Try.ntmps121
  go_wp2_with fail
  go_ret
  exact ⟨ret_int Hp.out.symm, Hw.out⟩
theorem rc_frame {W H : Int} (h : szOk W H) : (⟨0, 0, W, H⟩ : Rc).ok := by
  unfold szOk at h; unfold Rc.ok; dsimp only; omega
theorem pxOf_no {W H x y : Int} {L : List Int} (h : ¬ imOk W H L) : pxOf W H L x y = -1 := if_neg h
theorem pxOf_in {W H x y : Int} {L : List Int} (h : imOk W H L) (hx : 0 ≤ x ∧ x < W) (hy : 0 ≤ y ∧ y < H) : pxOf W H L x y = L.getD (y * W + x).toNat 0 := by
  unfold pxOf; rw [if_pos h]; unfold pxAt; rw [if_pos ⟨hx.1, hx.2, hy.1, hy.2⟩]
theorem pxOf_out {W H x y : Int} {L : List Int} (h : imOk W H L) (hxy : ¬ (0 ≤ x ∧ x < W ∧ 0 ≤ y ∧ y < H)) : pxOf W H L x y = -1 := by
  unfold pxOf; rw [if_pos h]; unfold pxAt; rw [if_neg hxy]
/-- What PixelOf answers. -/
def PxAns (W H : Int) (L : List Int) (x y : Int) (w : World) (e : Ending) (w' : World) : Prop := e = .returned (.int .i64 (pxOf W H L x y)) ∧ Below w.heap.size w w'
set_option maxHeartbeats 600000 in
theorem pxI (W H x y : Int) (v : Value) (L : List Int) (w : World) (hv : RdI w v L) :
    Calls Try.prog 68 #[.agg #[.int .i64 W, .int .i64 H, v], .int .i64 x, .int .i64 y] w (PxAns W H L x y w) := by
  have hv2 := hv.alloc (.cells #[.int .i64 W, .int .i64 H, v] 35)
  have hI := ImAt.new w 35 W H v
  have hw := (Below.refl w.heap.size w).alloc (Nat.le_refl _) (.cells #[.int .i64 W, .int .i64 H, v] 35)
  obtain ⟨A, c, rfl⟩ := hv.form
  obtain ⟨n, hn⟩ : ∃ n, n = L.length := ⟨_, rfl⟩
  rw [← hn] at hv2 hI hw ⊢
  clear hv hn
  by_cases ho : imOk W H L
  · have Ho := Lib.hid ho
    have hF := rc_frame ho.1
    have HF := Lib.hid hF
    by_cases hin : 0 ≤ x ∧ x < W ∧ 0 ≤ y ∧ y < H
    · obtain ⟨hx0, hx1, hy0, hy1⟩ := hin
      have HB : hasB ⟨0, 0, W, H⟩ x y = true := has_yes ⟨hF, by dsimp only; omega⟩
      have HA := Lib.hid (pxOf_in ho ⟨hx0, hx1⟩ ⟨hy0, hy1⟩)
      have HBh := Lib.hid HB
      clear ho hF HB
      obtain ⟨c0, c1, c2⟩ := hI.cells
      go_enter Try.func68, Try.ntmps68
      go_wp2_with fail
      refine (imI W H _ L _ hv2).mono ?_
      rintro e w1 ⟨rfl, hb⟩
      rw [imB_yes Ho.out]
      have hv2 := hv2.call hb
      have hw := belI_call hw hb
      have hI := hI.call hb
      clear hb c0 c1 c2
      obtain ⟨c0, c1, c2⟩ := hI.cells
      go_wp2_with fail
      refine (frameI W H _ _ _ _).mono ?_
      rintro e w2 ⟨rfl, hb⟩
      have hv2 := hv2.call hb
      have hw := belI_call hw hb
      have hI := hI.call hb
      clear hb c0 c1 c2
      obtain ⟨c0, c1, c2⟩ := hI.cells
      go_wp2_with fail
      refine (hasI_any ⟨0, 0, W, H⟩ x y _).mono ?_
      rintro e w3 ⟨rfl, hb⟩
      rw [HBh.out]
      have hv2 := hv2.call hb
      have hw := belI_call hw hb
      have hI := hI.call hb
      clear hb c0 c1 c2
      obtain ⟨c0, c1, c2⟩ := hI.cells
      go_wp2_with fail
      refine (pixelI W H x y _ L _ Ho.out ⟨hx0, hx1⟩ ⟨hy0, hy1⟩ hv2).mono ?_
      rintro e w4 ⟨rfl, hb⟩
      have hw := belI_call hw hb
      clear hb c0 c1 c2 hI hv2
      go_wp2_with fail
      go_ret
      exact ⟨ret_int HA.out.symm, hw⟩
    · have HB : hasB ⟨0, 0, W, H⟩ x y = false := has_no (by dsimp only; omega)
      have HA := Lib.hid (pxOf_out ho hin)
      have HBh := Lib.hid HB
      clear ho hF HB hin
      obtain ⟨c0, c1, c2⟩ := hI.cells
      go_enter Try.func68, Try.ntmps68
      go_wp2_with fail
      refine (imI W H _ L _ hv2).mono ?_
      rintro e w1 ⟨rfl, hb⟩
      rw [imB_yes Ho.out]
      have hw := belI_call hw hb
      have hI := hI.call hb
      clear hb c0 c1 c2 hv2
      obtain ⟨c0, c1, c2⟩ := hI.cells
      go_wp2_with fail
      refine (frameI W H _ _ _ _).mono ?_
      rintro e w2 ⟨rfl, hb⟩
      have hw := belI_call hw hb
      clear hb c0 c1 c2 hI
      go_wp2_with fail
      refine (hasI_any ⟨0, 0, W, H⟩ x y _).mono ?_
      rintro e w3 ⟨rfl, hb⟩
      rw [HBh.out]
      have hw := belI_call hw hb
      clear hb
      go_wp2_with fail
      go_ret
      exact ⟨ret_int HA.out.symm, hw⟩
  · have Ho := Lib.hid ho
    have HA := Lib.hid (pxOf_no (x := x) (y := y) ho)
    clear ho
    obtain ⟨c0, c1, c2⟩ := hI.cells
    go_enter Try.func68, Try.ntmps68
    go_wp2_with fail
    refine (imI W H _ L _ hv2).mono ?_
    rintro e w1 ⟨rfl, hb⟩
    rw [imB_no Ho.out]
    have hw := belI_call hw hb
    clear hb c0 c1 c2 hv2 hI
    go_wp2_with fail
    go_ret
    exact ⟨ret_int HA.out.symm, hw⟩
set_option maxHeartbeats 600000 in
theorem l05At_any (W H x y : Int) (v : Value) (L : List Int) (w : World) (h : imOk W H L) (hv : RdI w v L) :
    Calls Try.prog 80 #[.agg #[.int .i64 W, .int .i64 H, v], .int .i64 x, .int .i64 y] w fun e w' => e = .returned (.int .i64 (pxAt W H L x y)) ∧ Below w.heap.size w w' := by
  have hv2 := hv.alloc (.cells #[.int .i64 W, .int .i64 H, v] 35)
  have hw := (Below.refl w.heap.size w).alloc (Nat.le_refl _) (.cells #[.int .i64 W, .int .i64 H, v] 35)
  obtain ⟨A, c, rfl⟩ := hv.form
  by_cases hin : 0 ≤ x ∧ x < W ∧ 0 ≤ y ∧ y < H
  · obtain ⟨hx0, hx1, hy0, hy1⟩ := hin
    obtain ⟨m0, m1, p0, p1, pn⟩ := px_place h ⟨hx0, hx1⟩ ⟨hy0, hy1⟩
    obtain ⟨m, hm⟩ := Int.eq_ofNat_of_zero_le m0
    obtain ⟨x, rfl⟩ := Int.eq_ofNat_of_zero_le hx0
    obtain ⟨g, p, rfl, hp, hc⟩ := hv2.at_ (k := m + x) (by omega)
    have Hp : Hid (pxAt W H L (x : Int) y = p) := Lib.hid (by
      unfold pxAt
      rw [if_pos ⟨hx0, hx1, hy0, hy1⟩, show (y * W + (x : Int)).toNat = m + x by omega, List.getD_eq_getElem?_getD, hp]; rfl)
    obtain ⟨n, hn⟩ : ∃ n, n = L.length := ⟨_, rfl⟩
    rw [← hn] at p1 pn hw hc ⊢
    rw [hm] at p1 m1
    have Hw := Lib.hid hw
    clear hv hv2 hp hw hn h p0
    have hmx : (m : Int) + (x : Int) < (n : Int) := p1
    have hm2 : (m : Int) ≤ 240 := m1
    go_enter Try.func80, Try.ntmps80
    go_wp2_with fail
    go_ret
    exact ⟨ret_int Hp.out.symm, Hw.out⟩
  · have Hp : Hid (pxAt W H L x y = -1) := Lib.hid (if_neg hin)
    have Hw := Lib.hid hw
    clear hv hv2 hw h
    by_cases hx0 : x < 0
    · clear hin
      go_enter Try.func80, Try.ntmps80
      go_wp2_with fail
      go_ret
      exact ⟨ret_int Hp.out.symm, Hw.out⟩
    · by_cases hx1 : x ≥ W
      · clear hin
        go_enter Try.func80, Try.ntmps80
        go_wp2_with fail
        go_ret
        exact ⟨ret_int Hp.out.symm, Hw.out⟩
      · by_cases hy0 : y < 0
        · clear hin
          go_enter Try.func80, Try.ntmps80
          go_wp2_with fail
          go_ret
          exact ⟨ret_int Hp.out.symm, Hw.out⟩
        · have hy1 : y ≥ H := by omega
          clear hin
          go_enter Try.func80, Try.ntmps80
          go_wp2_with fail
          go_ret
          exact ⟨ret_int Hp.out.symm, Hw.out⟩
end Go.Proofs.Ytfolphadhmgbiaa
