/- Texts of mine in one file: LwM, LyC. No statement is proved here. -/
import Derived.Test.YtokniebejilcbaaMAv123
import Derived.Test.YtokniebejilcbaaMA
import Derived.Test.YtokniebejilcbaaMBv012
import Derived.Test.YtokniebejilcbaaMAv12
import Derived.Test.YtokniebejilcbaaProg
import Derived.WalkKit
import Derived.ProofKit
import Derived.OpenShut
import Derived.WalkLawsBesides
import Derived.WalkSpells
import Derived.ShutString
import Derived.ChangeOld
import Derived.Below
import Derived.Lib.Hide
import Derived.BigQuiet
import Derived.Deep.QuietTactic
import Derived.Maps.AppendAt
import Derived.Deep.OwnRows
import Derived.Handy
import Derived.Deep.Draws
import Derived.OwnWalk
import Derived.Deep.AppendLies
import Derived.Deep.LoopGhost
import Derived.Deep.Onto
import Derived.Laws.BitsAllLaws
import Derived.Lib.QuoteBits
import Derived.Test.YtokniebejilcbaaShelf
import Derived.Laws.CopyOwn
import Derived.Deep.RegionLaw
import Derived.Deep.RegionHeld3
import Derived.Deep.DeepCutAuto
import Derived.Great.BuildSlice
import Derived.Deep.MidRow
import Derived.Deep.WholeRow
import Derived.Laws.AppendOwn
namespace Go.Proofs.Ytokniebejilcbaa
open Go.RowKit
open Classical in
noncomputable def wpl (W H l x y : Int) : Int :=
 if szOk W H ∧ (l = 0 ∨ l = 1) ∧ 0 ≤ x ∧ x < W ∧ 0 ≤ y ∧ y < H then (if l = 0 then y * W + x else (y / 4 * ((W + 3) / 4) + x / 4) * 16 + y % 4 * 4 + x % 4) else -1
theorem wpl_0 {W H x y : Int} (h : szOk W H) (hx : 0 ≤ x ∧ x < W) (hy : 0 ≤ y ∧ y < H) : wpl W H 0 x y = y * W + x := by
 unfold wpl; rw [if_pos ⟨h, Or.inl rfl, hx.1, hx.2, hy.1, hy.2⟩, if_pos rfl]
theorem wpl_1 {W H x y : Int} (h : szOk W H) (hx : 0 ≤ x ∧ x < W) (hy : 0 ≤ y ∧ y < H) : wpl W H 1 x y = (y / 4 * ((W + 3) / 4) + x / 4) * 16 + y % 4 * 4 + x % 4 := by
 unfold wpl; rw [if_pos ⟨h, Or.inr rfl, hx.1, hx.2, hy.1, hy.2⟩, if_neg (by omega)]
theorem wpl_no {W H l x y : Int} (h : ¬ (szOk W H ∧ (l = 0 ∨ l = 1) ∧ 0 ≤ x ∧ x < W ∧ 0 ≤ y ∧ y < H)) : wpl W H l x y = -1 := if_neg h
theorem wpl_bd {W H l x y : Int} (h : szOk W H) (hl : l = 0 ∨ l = 1) (hx : 0 ≤ x ∧ x < W) (hy : 0 ≤ y ∧ y < H) : 0 ≤ wpl W H l x y ∧ wpl W H l x y < wct W H l := by
 obtain ⟨h1, h2, h3, h4⟩ := h
 obtain ⟨hx1, hx2⟩ := hx
 obtain ⟨hy1, hy2⟩ := hy
 rcases hl with rfl | rfl
 ·rw [wct_0 ⟨h1, h2, h3, h4⟩, wpl_0 ⟨h1, h2, h3, h4⟩ ⟨hx1, hx2⟩ ⟨hy1, hy2⟩]
  have h5 : 0 ≤ y * W := Int.mul_nonneg hy1 (by omega)
  have h6 : (y + 1) * W ≤ H * W := Int.mul_le_mul_of_nonneg_right (by omega) (by omega)
  rw [Int.add_mul, Int.one_mul, Int.mul_comm H W] at h6
  omega
 ·rw [wct_1 ⟨h1, h2, h3, h4⟩, wpl_1 ⟨h1, h2, h3, h4⟩ ⟨hx1, hx2⟩ ⟨hy1, hy2⟩]
  obtain ⟨a, ha⟩ : ∃ a, a = (W + 3) / 4 := ⟨_, rfl⟩
  obtain ⟨b, hb⟩ : ∃ b, b = (H + 3) / 4 := ⟨_, rfl⟩
  obtain ⟨p, hp⟩ : ∃ p, p = y / 4 := ⟨_, rfl⟩
  rw [← ha, ← hb, ← hp]
  have h5 : 0 ≤ p * a := Int.mul_nonneg (by omega) (by omega)
  have h6 : (p + 1) * a ≤ b * a := Int.mul_le_mul_of_nonneg_right (by omega) (by omega)
  rw [Int.add_mul, Int.one_mul] at h6
  have h7 : a * 4 * (b * 4) = b * a * 16 := by rw [Int.mul_assoc a 4, Int.mul_comm b a, ← Int.mul_assoc 4 b 4, Int.mul_comm 4 b, ← Int.mul_assoc a, ← Int.mul_assoc a]; omega
  rw [h7]
  omega
end Go.Proofs.Ytokniebejilcbaa
namespace Go.Proofs.Ytokniebejilcbaa
open Go.RowKit
def IntBe (q : Int) (w : World) (e : Ending) (w' : World) : Prop := e = .returned (.int .i64 q) ∧ Below w.heap.size w w'
theorem wplS_yes (W H l x y : Int) (h : szOk W H) (hl : l = 0 ∨ l = 1) (hx : 0 ≤ x ∧ x < W) (hy : 0 ≤ y ∧ y < H) (w : World) : Calls Try.prog 14 #[.int .i64 W, .int .i64 H, .int .i64 l, .int .i64 x, .int .i64 y] w (IntIs (wpl W H l x y) w) := by
 have HC := fun V => wctS W H l V
 unfold IntIs at HC
 have hb := wpl_bd h hl hx hy
 have hc := wct_bd h hl
 obtain ⟨q, hq⟩ : ∃ q, q = wct W H l := ⟨_, rfl⟩
 rw [← hq] at HC hb hc
 have hqn : ¬ q < 0 := by omega
 have HC := Lib.hid HC
 obtain ⟨hx1, hx2⟩ := hx
 obtain ⟨hy1, hy2⟩ := hy
 obtain ⟨h1, h2, h3, h4⟩ := id h
 rcases hl with rfl | rfl
 ·have HV := Lib.hid (wpl_0 h ⟨hx1, hx2⟩ ⟨hy1, hy2⟩)
  rw [HV.out] at hb
  have hm : 0 ≤ y * W := Int.mul_nonneg hy1 (by omega)
  obtain ⟨hb1, hb2⟩ := hb
  clear h hq
  go_enter Try.func14, Try.ntmps14
  go_wp2_with (first | (go_at_call 12; (with_reducible refine (HC.out _).mono ?_); rintro e w' ⟨rfl, rfl⟩) | (go_at_call 61; (with_reducible refine (inS_yes _ _ _ _ (by omega) (by omega)).mono ?_); rintro e w' ⟨rfl, rfl⟩))
  go_ret
  exact ⟨ret_int HV.out.symm, rfl⟩
 ·have HV := Lib.hid (wpl_1 h ⟨hx1, hx2⟩ ⟨hy1, hy2⟩)
  rw [HV.out] at hb
  have hm : 0 ≤ y / 4 * ((W + 3) / 4) := Int.mul_nonneg (by omega) (by omega)
  obtain ⟨hb1, hb2⟩ := hb
  clear h hq
  go_enter Try.func14, Try.ntmps14
  go_wp2_with (first | (go_at_call 12; (with_reducible refine (HC.out _).mono ?_); rintro e w' ⟨rfl, rfl⟩) | (go_at_call 61; (with_reducible refine (inS_yes _ _ _ _ (by omega) (by omega)).mono ?_); rintro e w' ⟨rfl, rfl⟩))
  go_ret
  exact ⟨ret_int HV.out.symm, rfl⟩
theorem wplS_no (W H l x y : Int) (h : ¬ (szOk W H ∧ (l = 0 ∨ l = 1) ∧ 0 ≤ x ∧ x < W ∧ 0 ≤ y ∧ y < H)) (w : World) : Calls Try.prog 14 #[.int .i64 W, .int .i64 H, .int .i64 l, .int .i64 x, .int .i64 y] w (IntIs (wpl W H l x y) w) := by
 have HC := fun V => wctS W H l V
 unfold IntIs at HC
 have HV := Lib.hid (wpl_no h)
 by_cases hc : szOk W H ∧ (l = 0 ∨ l = 1)
 ·have hcb := wct_bd hc.1 hc.2
  obtain ⟨h1, h2, h3, h4⟩ := hc.1
  obtain ⟨q, hq⟩ : ∃ q, q = wct W H l := ⟨_, rfl⟩
  rw [← hq] at HC hcb
  have hqn : ¬ q < 0 := by omega
  have HC := Lib.hid HC
  have h' : ¬ (0 ≤ x ∧ x < W ∧ 0 ≤ y ∧ y < H) := fun k => h ⟨hc.1, hc.2, k⟩
  clear h hq hc
  by_cases hx : 0 ≤ x ∧ x < W
  ·obtain ⟨hx1, hx2⟩ := hx
   have HY := Lib.hid (show y < 0 ∨ H - 1 < y by omega)
   clear h'
   go_enter Try.func14, Try.ntmps14
   go_wp2_with (first | (go_at_call 12; (with_reducible refine (HC.out _).mono ?_); rintro e w' ⟨rfl, rfl⟩) | (go_at_call 61; (with_reducible refine (inS_yes x _ _ _ (by omega) (by omega)).mono ?_); rintro e w' ⟨rfl, rfl⟩) | (go_at_call 61; (with_reducible refine (inS_no _ _ _ _ HY.out).mono ?_); rintro e w' ⟨rfl, rfl⟩))
   go_ret
   exact ⟨ret_int HV.out.symm, rfl⟩
  ·have HX := Lib.hid (show x < 0 ∨ W - 1 < x by omega)
   clear h' hx
   go_enter Try.func14, Try.ntmps14
   go_wp2_with (first | (go_at_call 12; (with_reducible refine (HC.out _).mono ?_); rintro e w' ⟨rfl, rfl⟩) | (go_at_call 61; (with_reducible refine (inS_no _ _ _ _ HX.out).mono ?_); rintro e w' ⟨rfl, rfl⟩))
   go_ret
   exact ⟨ret_int HV.out.symm, rfl⟩
 ·rw [wct_no hc] at HC
  have HC := Lib.hid HC
  clear h hc
  go_enter Try.func14, Try.ntmps14
  go_wp2_with (go_at_call 12; (with_reducible refine (HC.out _).mono ?_); rintro e w' ⟨rfl, rfl⟩)
  go_ret
  exact ⟨ret_int HV.out.symm, rfl⟩
theorem wplS (W H l x y : Int) (w : World) : Calls Try.prog 14 #[.int .i64 W, .int .i64 H, .int .i64 l, .int .i64 x, .int .i64 y] w (IntIs (wpl W H l x y) w) := by
 by_cases h : szOk W H ∧ (l = 0 ∨ l = 1) ∧ 0 ≤ x ∧ x < W ∧ 0 ≤ y ∧ y < H
 ·obtain ⟨h0, hl, h1, h2, h3, h4⟩ := h
  exact wplS_yes W H l x y h0 hl ⟨h1, h2⟩ ⟨h3, h4⟩ w
 ·exact wplS_no W H l x y h w
theorem wplI_yes (W H l x y : Int) (h : szOk W H) (hl : l = 0 ∨ l = 1) (hx : 0 ≤ x ∧ x < W) (hy : 0 ≤ y ∧ y < H) (w : World) : Calls Try.prog 15 #[.int .i64 W, .int .i64 H, .int .i64 l, .int .i64 x, .int .i64 y] w (IntBe (wpl W H l x y) w) := by
 have HC := fun V => wctI W H l V
 unfold IntIs at HC
 have hb := wpl_bd h hl hx hy
 have hc := wct_bd h hl
 obtain ⟨q, hq⟩ : ∃ q, q = wct W H l := ⟨_, rfl⟩
 rw [← hq] at HC hb hc
 have hqn : ¬ q < 0 := by omega
 have HC := Lib.hid HC
 obtain ⟨hx1, hx2⟩ := hx
 obtain ⟨hy1, hy2⟩ := hy
 obtain ⟨h1, h2, h3, h4⟩ := id h
 have HP := fun V => hasI_any ⟨0, 0, W, H⟩ x y V
 rw [has_yes ⟨show Rc.ok _ by unfold Rc.ok; simp only; omega, by simp only; omega⟩] at HP
 dsimp only at HP
 have HP := Lib.hid HP
 rcases hl with rfl | rfl
 ·have HV := Lib.hid (wpl_0 h ⟨hx1, hx2⟩ ⟨hy1, hy2⟩)
  rw [HV.out] at hb
  have hm : 0 ≤ y * W := Int.mul_nonneg hy1 (by omega)
  obtain ⟨hb1, hb2⟩ := hb
  clear h hq
  go_enter Try.func15, Try.ntmps15
  go_wp2_with (go_at_call 13; (with_reducible refine (HC.out _).mono ?_); rintro e w' ⟨rfl, rfl⟩)
  refine (HP.out _).mono ?_
  rintro e w1 ⟨rfl, hb⟩
  go_wp2_with fail
  go_ret
  exact ⟨ret_int HV.out.symm, hb⟩
 ·have HV := Lib.hid (wpl_1 h ⟨hx1, hx2⟩ ⟨hy1, hy2⟩)
  rw [HV.out] at hb
  have hm : 0 ≤ y / 4 * ((W + 3) / 4) := Int.mul_nonneg (by omega) (by omega)
  obtain ⟨hb1, hb2⟩ := hb
  have HA := Lib.hid (tilI W h1 h2)
  unfold IntIs at HA
  clear h hq
  go_enter Try.func15, Try.ntmps15
  go_wp2_with (go_at_call 13; (with_reducible refine (HC.out _).mono ?_); rintro e w' ⟨rfl, rfl⟩)
  refine (HP.out _).mono ?_
  rintro e w1 ⟨rfl, hb⟩
  go_wp2_with (go_at_call 63; (with_reducible refine (HA.out _).mono ?_); rintro e w' ⟨rfl, rfl⟩)
  go_ret
  exact ⟨ret_int (by rw [HV.out]; omega), hb⟩
theorem wplI_no (W H l x y : Int) (h : ¬ (szOk W H ∧ (l = 0 ∨ l = 1) ∧ 0 ≤ x ∧ x < W ∧ 0 ≤ y ∧ y < H)) (w : World) : Calls Try.prog 15 #[.int .i64 W, .int .i64 H, .int .i64 l, .int .i64 x, .int .i64 y] w (IntBe (wpl W H l x y) w) := by
 have HC := fun V => wctI W H l V
 unfold IntIs at HC
 have HV := Lib.hid (wpl_no h)
 by_cases hc : szOk W H ∧ (l = 0 ∨ l = 1)
 ·have hcb := wct_bd hc.1 hc.2
  obtain ⟨q, hq⟩ : ∃ q, q = wct W H l := ⟨_, rfl⟩
  rw [← hq] at HC hcb
  have hqn : ¬ q < 0 := by omega
  have HC := Lib.hid HC
  have HP := fun V => hasI_any ⟨0, 0, W, H⟩ x y V
  rw [has_no fun k => by have h2 := k.2; simp only at h2; exact h ⟨hc.1, hc.2, by omega⟩] at HP
  dsimp only at HP
  have HP := Lib.hid HP
  clear h hq hc hcb
  go_enter Try.func15, Try.ntmps15
  go_wp2_with (go_at_call 13; (with_reducible refine (HC.out _).mono ?_); rintro e w' ⟨rfl, rfl⟩)
  refine (HP.out _).mono ?_
  rintro e w1 ⟨rfl, hb⟩
  go_wp2_with fail
  go_ret
  exact ⟨ret_int HV.out.symm, hb⟩
 ·rw [wct_no hc] at HC
  have HC := Lib.hid HC
  clear h hc
  go_enter Try.func15, Try.ntmps15
  go_wp2_with (go_at_call 13; (with_reducible refine (HC.out _).mono ?_); rintro e w' ⟨rfl, rfl⟩)
  go_ret
  exact ⟨ret_int HV.out.symm, Below.refl _ _⟩
theorem wplI (W H l x y : Int) (w : World) : Calls Try.prog 15 #[.int .i64 W, .int .i64 H, .int .i64 l, .int .i64 x, .int .i64 y] w (IntBe (wpl W H l x y) w) := by
 by_cases h : szOk W H ∧ (l = 0 ∨ l = 1) ∧ 0 ≤ x ∧ x < W ∧ 0 ≤ y ∧ y < H
 ·obtain ⟨h0, hl, h1, h2, h3, h4⟩ := h
  exact wplI_yes W H l x y h0 hl ⟨h1, h2⟩ ⟨h3, h4⟩ w
 ·exact wplI_no W H l x y h w
end Go.Proofs.Ytokniebejilcbaa
