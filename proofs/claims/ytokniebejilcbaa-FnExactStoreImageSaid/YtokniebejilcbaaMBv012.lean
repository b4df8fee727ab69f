/- Texts of mine in one file: LwM, LyC. No statement is proved here. -/
import Derived.Test.YtokniebejilcbaaMAv012
import Derived.Test.YtokniebejilcbaaMA
import Derived.Test.YtokniebejilcbaaProg
import Derived.WalkKit
import Derived.ProofKit
import Derived.OpenShut
import Derived.WalkLawsBesides
import Derived.WalkSpells
import Derived.ShutString
import Derived.ChangeOld
import Derived.Below
import Derived.Lib.Hide
import Derived.BigQuiet
import Derived.Deep.QuietTactic
import Derived.Maps.AppendAt
import Derived.Deep.OwnRows
import Derived.Handy
import Derived.Deep.Draws
import Derived.OwnWalk
import Derived.Deep.AppendLies
import Derived.Deep.LoopGhost
import Derived.Deep.Onto
import Derived.Laws.BitsAllLaws
import Derived.Lib.QuoteBits
import Derived.Test.YtokniebejilcbaaShelf
import Derived.Laws.CopyOwn
import Derived.Deep.RegionLaw
import Derived.Deep.RegionHeld3
import Derived.Deep.DeepCutAuto
import Derived.Great.BuildSlice
import Derived.Deep.MidRow
import Derived.Deep.WholeRow
import Derived.Laws.AppendOwn
namespace Go.Proofs.Ytokniebejilcbaa
open Go.RowKit
open Classical in
noncomputable def wct (W H l : Int) : Int := if szOk W H ∧ l = 0 then W * H else if szOk W H ∧ l = 1 then (W + 3) / 4 * 4 * ((H + 3) / 4 * 4) else -1
theorem wct_0 {W H : Int} (h : szOk W H) : wct W H 0 = W * H := if_pos ⟨h, rfl⟩
theorem wct_1 {W H : Int} (h : szOk W H) : wct W H 1 = (W + 3) / 4 * 4 * ((H + 3) / 4 * 4) := by
 unfold wct; rw [if_neg (fun k => by have := k.2; omega), if_pos ⟨h, rfl⟩]
theorem wct_no {W H l : Int} (h : ¬ (szOk W H ∧ (l = 0 ∨ l = 1))) : wct W H l = -1 := by
 unfold wct; rw [if_neg (fun k => h ⟨k.1, Or.inl k.2⟩), if_neg (fun k => h ⟨k.1, Or.inr k.2⟩)]
theorem wct_bd {W H l : Int} (h : szOk W H) (hl : l = 0 ∨ l = 1) : 1 ≤ wct W H l ∧ wct W H l ≤ 256 := by
 rcases hl with rfl | rfl
 ·rw [wct_0 h]; exact ⟨sz_pos h, (sz_mul h).2⟩
 ·rw [wct_1 h]
  obtain ⟨h1, h2, h3, h4⟩ := h
  obtain ⟨a, ha⟩ : ∃ a, a = (W + 3) / 4 * 4 := ⟨_, rfl⟩
  obtain ⟨b, hb⟩ : ∃ b, b = (H + 3) / 4 * 4 := ⟨_, rfl⟩
  rw [← ha, ← hb]
  exact ⟨sz_pos (W := a) (H := b) ⟨by omega, by omega, by omega, by omega⟩, (sz_mul (W := a) (H := b) ⟨by omega, by omega, by omega, by omega⟩).2⟩
end Go.Proofs.Ytokniebejilcbaa
namespace Go.Proofs.Ytokniebejilcbaa
open Go.RowKit
def IntIs (q : Int) (w : World) (e : Ending) (w' : World) : Prop := e = .returned (.int .i64 q) ∧ w = w'
theorem wct_4 {W H : Int} (h : szOk W H) : wct W H 1 = (W + 3) / 4 * ((H + 3) / 4) * 4 * 4 := by
 rw [wct_1 h, Int.mul_assoc ((W + 3) / 4) 4, Int.mul_comm 4 ((H + 3) / 4 * 4), Int.mul_assoc ((H + 3) / 4), ← Int.mul_assoc ((W + 3) / 4), Int.mul_assoc _ 4 4]
theorem til_bd {W H : Int} (h : szOk W H) : 1 ≤ (W + 3) / 4 * ((H + 3) / 4) ∧ (W + 3) / 4 * ((H + 3) / 4) ≤ 16 := by
 have h1 := wct_bd h (Or.inr rfl)
 rw [wct_4 h] at h1
 omega
theorem wctS (W H l : Int) (w : World) : Calls Try.prog 12 #[.int .i64 W, .int .i64 H, .int .i64 l] w (IntIs (wct W H l) w) := by
 by_cases h : szOk W H
 ·obtain ⟨h1, h2, h3, h4⟩ := id h
  by_cases e0 : l = 0
  ·subst e0
   have h5 := sz_mul h
   have HV := Lib.hid (wct_0 h)
   obtain ⟨h6, h7⟩ := h5
   clear h
   go_enter Try.func12, Try.ntmps12
   go_wp2_with ((go_at_call 61; (with_reducible refine (inS_yes _ _ _ _ (by omega) (by omega)).mono ?_); rintro e w' ⟨rfl, rfl⟩))
   go_ret
   exact ⟨ret_int HV.out.symm, rfl⟩
  ·by_cases e1 : l = 1
   ·subst e1
    have h5 := wct_bd h (Or.inr rfl)
    rw [wct_1 h] at h5
    obtain ⟨h6, h7⟩ := h5
    have HV := Lib.hid (wct_1 h)
    clear h e0
    go_enter Try.func12, Try.ntmps12
    go_wp2_with ((go_at_call 61; (with_reducible refine (inS_yes _ _ _ _ (by omega) (by omega)).mono ?_); rintro e w' ⟨rfl, rfl⟩))
    go_ret
    exact ⟨ret_int HV.out.symm, rfl⟩
   ·have HV := Lib.hid (wct_no (W := W) (H := H) (l := l) fun k => by have := k.2; omega)
    clear h
    go_enter Try.func12, Try.ntmps12
    go_wp2_with ((go_at_call 61; (with_reducible refine (inS_yes _ _ _ _ (by omega) (by omega)).mono ?_); rintro e w' ⟨rfl, rfl⟩))
    go_ret
    exact ⟨ret_int HV.out.symm, rfl⟩
 ·have HV := Lib.hid (wct_no (W := W) (H := H) (l := l) fun k => h k.1)
  unfold szOk at h
  by_cases h1 : 1 ≤ W ∧ W ≤ 16
  ·have H7 := Lib.hid (show H < 1 ∨ 16 < H by omega)
   obtain ⟨h1, h2⟩ := h1
   clear h
   go_enter Try.func12, Try.ntmps12
   go_wp2_with (first | (go_at_call 61; (with_reducible refine (inS_yes _ _ _ _ (by omega) (by omega)).mono ?_); rintro e w' ⟨rfl, rfl⟩) | (go_at_call 61; (with_reducible refine (inS_no _ _ _ _ H7.out).mono ?_); rintro e w' ⟨rfl, rfl⟩))
   go_ret
   exact ⟨ret_int HV.out.symm, rfl⟩
  ·have H7 := Lib.hid (show W < 1 ∨ 16 < W by omega)
   clear h h1
   go_enter Try.func12, Try.ntmps12
   go_wp2_with (first | (go_at_call 61; (with_reducible refine (inS_no _ _ _ _ H7.out).mono ?_); rintro e w' ⟨rfl, rfl⟩))
   go_ret
   exact ⟨ret_int HV.out.symm, rfl⟩
theorem tilI (W : Int) (h1 : 1 ≤ W) (h2 : W ≤ 16) (w : World) : Calls Try.prog 63 #[.int .i64 W] w (IntIs ((W + 3) / 4) w) := by
 have HV : Hid ((W + 4 - 1) / 4 = (W + 3) / 4) := Lib.hid (by omega)
 go_enter Try.func63, Try.ntmps63
 go_wp2_with fail
 go_ret
 exact ⟨ret_int (by first | rfl | exact HV.out), rfl⟩
theorem wctI (W H l : Int) (w : World) : Calls Try.prog 13 #[.int .i64 W, .int .i64 H, .int .i64 l] w (IntIs (wct W H l) w) := by
 by_cases h : szOk W H
 ·have Hz := Lib.hid h
  obtain ⟨h1, h2, h3, h4⟩ := id h
  by_cases e0 : l = 0
  ·subst e0
   have h5 := sz_mul h
   have HV := Lib.hid (wct_0 h)
   obtain ⟨h6, h7⟩ := h5
   clear h
   go_enter Try.func13, Try.ntmps13
   go_wp2_with (go_at_call 62; (with_reducible refine (szI_yes _ _ Hz.out _).mono ?_); rintro e w' ⟨rfl, rfl⟩)
   go_ret
   exact ⟨ret_int HV.out.symm, rfl⟩
  ·by_cases e1 : l = 1
   ·subst e1
    have HV := Lib.hid (wct_4 h)
    obtain ⟨h6, h7⟩ := til_bd h
    have HA := Lib.hid (tilI W h1 h2)
    have HB := Lib.hid (tilI H h3 h4)
    unfold IntIs at HA HB
    obtain ⟨a, ha⟩ : ∃ a, a = (W + 3) / 4 := ⟨_, rfl⟩
    obtain ⟨b, hb⟩ : ∃ b, b = (H + 3) / 4 := ⟨_, rfl⟩
    rw [← ha] at HV HA h6 h7
    rw [← hb] at HV HB h6 h7
    clear h e0 ha hb
    go_enter Try.func13, Try.ntmps13
    go_wp2_with (first | (go_at_call 62; (with_reducible refine (szI_yes _ _ Hz.out _).mono ?_); rintro e w' ⟨rfl, rfl⟩) | (go_at_call 63; (with_reducible refine (HA.out _).mono ?_); rintro e w' ⟨rfl, rfl⟩) | (go_at_call 63; (with_reducible refine (HB.out _).mono ?_); rintro e w' ⟨rfl, rfl⟩))
    go_ret
    exact ⟨ret_int HV.out.symm, rfl⟩
   ·have HV := Lib.hid (wct_no (W := W) (H := H) (l := l) fun k => by have := k.2; omega)
    clear h
    go_enter Try.func13, Try.ntmps13
    go_wp2_with (go_at_call 62; (with_reducible refine (szI_yes _ _ Hz.out _).mono ?_); rintro e w' ⟨rfl, rfl⟩)
    go_ret
    exact ⟨ret_int HV.out.symm, rfl⟩
 ·have HV := Lib.hid (wct_no (W := W) (H := H) (l := l) fun k => h k.1)
  have Hz := Lib.hid h
  clear h
  go_enter Try.func13, Try.ntmps13
  go_wp2_with (go_at_call 62; (with_reducible refine (szI_no _ _ Hz.out _).mono ?_); rintro e w' ⟨rfl, rfl⟩)
  go_ret
  exact ⟨ret_int HV.out.symm, rfl⟩
end Go.Proofs.Ytokniebejilcbaa
