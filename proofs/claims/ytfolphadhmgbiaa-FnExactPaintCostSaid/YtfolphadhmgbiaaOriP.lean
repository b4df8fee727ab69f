/- The contracts of OrientPoint, OrientSize, ThenOrient and UndoOrient, of the program and of its model. No statement is proved here. -/
import Derived.Test.YtfolphadhmgbiaaMA
import Derived.Test.YtfolphadhmgbiaaImR
import Derived.Test.YtfolphadhmgbiaaImO
import Derived.Test.YtfolphadhmgbiaaOriC
import Derived.Test.YtfolphadhmgbiaaOriQ
import Derived.Test.YtfolphadhmgbiaaProg
import Derived.WalkKit
import Derived.ProofKit
import Derived.OpenShut
import Derived.WalkLawsBesides
import Derived.WalkSpells
import Derived.ShutString
import Derived.ChangeOld
import Derived.Below
import Derived.Lib.Hide
import Derived.Deep.MidRow
import Derived.Deep.WholeRow
import Derived.Maps.AppendAt
import Derived.BigQuiet
import Derived.Deep.QuietTactic
import Derived.Deep.OwnRows
import Derived.Handy
import Derived.Deep.Draws
import Derived.OwnWalk
import Derived.Deep.AppendLies
import Derived.Deep.LoopGhost
import Derived.Deep.Onto
import Derived.Laws.BitsAllLaws
import Derived.Lib.QuoteBits
import Derived.Deep.RegionHeld3
import Derived.Deep.DeepCutAuto
namespace Go.Proofs.Ytfolphadhmgbiaa
open Go.RowKit
open Classical in
noncomputable def opM (w h o x y : Int) : Int × Int := if orOk o ∧ (⟨w, h, x, y⟩ : Pp).ok then ((Pp.ori o ⟨w, h, x, y⟩).x, (Pp.ori o ⟨w, h, x, y⟩).y) else (-1, -1)
theorem op_yes {w h o x y : Int} (h1 : orOk o) (h2 : (⟨w, h, x, y⟩ : Pp).ok) : opM w h o x y = ((Pp.ori o ⟨w, h, x, y⟩).x, (Pp.ori o ⟨w, h, x, y⟩).y) := if_pos ⟨h1, h2⟩
theorem op_no {w h o x y : Int} (h0 : ¬ (orOk o ∧ (⟨w, h, x, y⟩ : Pp).ok)) : opM w h o x y = (-1, -1) := if_neg h0
open Classical in
noncomputable def osM (w h o : Int) : Int × Int := if szOk w h ∧ orOk o then (orW w h o, orH w h o) else (0, 0)
theorem os_yes {w h o : Int} (h1 : szOk w h) (h2 : orOk o) : osM w h o = (orW w h o, orH w h o) := if_pos ⟨h1, h2⟩
theorem os_no {w h o : Int} (h0 : ¬ (szOk w h ∧ orOk o)) : osM w h o = (0, 0) := if_neg h0
/-- What answers two numbers. -/
def TwoAns (p : Int × Int) (w : World) (e : Ending) (w' : World) : Prop := e = .returned (.tuple #[.int .i64 p.1, .int .i64 p.2]) ∧ Below w.heap.size w w'
theorem ret_two {a b : Int} {p : Int × Int} (h : p = (a, b)) : Ending.returned (.tuple #[.int .i64 a, .int .i64 b]) = .returned (.tuple #[.int .i64 p.1, .int .i64 p.2]) := by rw [h]
theorem or_no {o : Int} (h : ¬ orOk o) : o < 0 ∨ 7 < o := by unfold orOk at h; omega
set_option maxHeartbeats 600000 in
theorem osI (a b o : Int) (w : World) : Calls Try.prog 124 #[.int .i64 a, .int .i64 b, .int .i64 o] w (TwoAns (osM a b o) w) := by
  by_cases hs : szOk a b
  · by_cases ho : orOk o
    · have HA := Lib.hid (os_yes hs ho)
      have Hs := Lib.hid hs
      have Ho := Lib.hid ho
      have hp : (⟨a, b, 0, 0⟩ : Pp).ok := by unfold szOk at hs; unfold Pp.ok; dsimp only; omega
      have Hp := Lib.hid hp
      have R := fun W => orPt_any ⟨a, b, 0, 0⟩ o ho hp W
      have e1 := ori_w ho ⟨a, b, 0, 0⟩
      have e2 := ori_h ho ⟨a, b, 0, 0⟩
      dsimp only at R e1 e2
      unfold PpAns at R
      rw [e1, e2] at R
      have HR := Lib.hid R
      clear hs ho hp R e1 e2
      go_enter Try.func124, Try.ntmps124
      go_wp2_with fail
      refine (szI_yes _ _ Hs.out _).mono ?_
      rintro e w' ⟨rfl, rfl⟩
      go_wp2_with fail
      refine (isOrI_yes _ Ho.out _).mono ?_
      rintro e w' ⟨rfl, rfl⟩
      go_wp2_with fail
      refine (HR.out _).mono ?_
      rintro e w2 ⟨rfl, hb⟩
      have Hb := Lib.hid hb
      clear hb
      go_wp2_with fail
      go_quiet (fail)
      go_wp2_with fail
      go_ret2
      exact ⟨ret_two HA.out, below_drewN (Hb.out.alloc Hb.out.size _) _⟩
    · have HA := Lib.hid (os_no (w := a) (h := b) fun h => ho h.2)
      have Hs := Lib.hid hs
      have Ho := Lib.hid ho
      clear hs ho
      go_enter Try.func124, Try.ntmps124
      go_wp2_with fail
      refine (szI_yes _ _ Hs.out _).mono ?_
      rintro e w' ⟨rfl, rfl⟩
      go_wp2_with fail
      refine (isOrI_no _ Ho.out _).mono ?_
      rintro e w' ⟨rfl, rfl⟩
      go_wp2_with fail
      go_ret2
      exact ⟨ret_two HA.out, Below.refl _ _⟩
  · have HA := Lib.hid (os_no (o := o) fun h => hs h.1)
    have Hs := Lib.hid hs
    clear hs
    go_enter Try.func124, Try.ntmps124
    go_wp2_with fail
    refine (szI_no _ _ Hs.out _).mono ?_
    rintro e w' ⟨rfl, rfl⟩
    go_wp2_with fail
    go_ret2
    exact ⟨ret_two HA.out, Below.refl _ _⟩
set_option maxHeartbeats 600000 in
theorem osS (a b o : Int) (w : World) : Calls Try.prog 142 #[.int .i64 a, .int .i64 b, .int .i64 o] w (TwoAns (osM a b o) w) := by
  by_cases ha : 1 ≤ a ∧ a ≤ 16
  · obtain ⟨a1, a2⟩ := ha
    by_cases hb : 1 ≤ b ∧ b ≤ 16
    · obtain ⟨b1, b2⟩ := hb
      by_cases ho : 0 ≤ o ∧ o ≤ 7
      · obtain ⟨o1, o2⟩ := ho
        have HA := Lib.hid (os_yes (w := a) (h := b) (o := o) ⟨a1, a2, b1, b2⟩ ⟨o1, o2⟩)
        by_cases hq : o % 2 = 1
        · have HE := Lib.hid (show osM a b o = (b, a) by rw [HA.out]; unfold orW orH; rw [if_pos hq, if_pos hq])
          go_enter Try.func142, Try.ntmps142
          go_wp2_with ((go_at_call 85; (with_reducible refine (inS_yes _ _ _ _ (by omega) (by omega)).mono ?_); rintro e w' ⟨rfl, rfl⟩))
          go_ret2
          exact ⟨ret_two HE.out, Below.refl _ _⟩
        · have HE := Lib.hid (show osM a b o = (a, b) by rw [HA.out]; unfold orW orH; rw [if_neg hq, if_neg hq])
          go_enter Try.func142, Try.ntmps142
          go_wp2_with ((go_at_call 85; (with_reducible refine (inS_yes _ _ _ _ (by omega) (by omega)).mono ?_); rintro e w' ⟨rfl, rfl⟩))
          go_ret2
          exact ⟨ret_two HE.out, Below.refl _ _⟩
      · have HA := Lib.hid (os_no (w := a) (h := b) (o := o) fun h => ho h.2)
        have h7 : o < 0 ∨ 7 < o := by omega
        have H7 := Lib.hid h7
        clear h7 ho
        go_enter Try.func142, Try.ntmps142
        go_wp2_with (first | (go_at_call 85; (with_reducible refine (inS_yes _ _ _ _ (by omega) (by omega)).mono ?_); rintro e w' ⟨rfl, rfl⟩) | (go_at_call 85; (with_reducible refine (inS_no _ _ _ _ H7.out).mono ?_); rintro e w' ⟨rfl, rfl⟩))
        go_ret2
        exact ⟨ret_two HA.out, Below.refl _ _⟩
    · have HA := Lib.hid (os_no (w := a) (h := b) (o := o) fun h => hb ⟨h.1.2.2.1, h.1.2.2.2⟩)
      have h7 : b < 1 ∨ 16 < b := by omega
      have H7 := Lib.hid h7
      clear h7 hb
      go_enter Try.func142, Try.ntmps142
      go_wp2_with (first | (go_at_call 85; (with_reducible refine (inS_yes _ _ _ _ (by omega) (by omega)).mono ?_); rintro e w' ⟨rfl, rfl⟩) | (go_at_call 85; (with_reducible refine (inS_no _ _ _ _ H7.out).mono ?_); rintro e w' ⟨rfl, rfl⟩))
      go_ret2
      exact ⟨ret_two HA.out, Below.refl _ _⟩
  · have HA := Lib.hid (os_no (w := a) (h := b) (o := o) fun h => ha ⟨h.1.1, h.1.2.1⟩)
    have h7 : a < 1 ∨ 16 < a := by omega
    have H7 := Lib.hid h7
    clear h7 ha
    go_enter Try.func142, Try.ntmps142
    go_wp2_with (first | (go_at_call 85; (with_reducible refine (inS_no _ _ _ _ H7.out).mono ?_); rintro e w' ⟨rfl, rfl⟩))
    go_ret2
    exact ⟨ret_two HA.out, Below.refl _ _⟩
set_option maxHeartbeats 1000000 in
theorem opS_ok (a b o x y : Int) (ho : orOk o) (hp : (⟨a, b, x, y⟩ : Pp).ok) (w : World) : Calls Try.prog 180 #[.int .i64 a, .int .i64 b, .int .i64 o, .int .i64 x, .int .i64 y] w (TwoAns ((Pp.ori o ⟨a, b, x, y⟩).x, (Pp.ori o ⟨a, b, x, y⟩).y) w) := by
  have Ho := Lib.hid ho
  have Hp := Lib.hid hp
  obtain ⟨o1, o2⟩ := ho
  obtain ⟨p1, p2, p3, p4, p5, p6, p7, p8⟩ := hp
  dsimp only at *
  obtain ⟨q, hq⟩ : ∃ q : Pp, q = Pp.rep Pp.mir (o / 4).toNat ⟨a, b, x, y⟩ := ⟨_, rfl⟩
  have hqo : q.ok := by rw [hq]; exact Pp.rep_ok (fun _ => Pp.mir_ok) _ Hp.out
  have hA : (Pp.ori o ⟨a, b, x, y⟩) = Pp.rep Pp.qt (o % 4).toNat q := by rw [hq]; rfl
  rw [hA]
  obtain ⟨r, hr⟩ : ∃ r : Nat, (r : Int) = o % 4 := ⟨(o % 4).toNat, by omega⟩
  have hr3 : r ≤ 3 := by omega
  rw [show (o % 4).toNat = r by omega]
  have hr' : o % 4 = (r : Int) := hr.symm
  have Hq := Lib.hid hqo
  by_cases h4 : 4 ≤ o
  · have e : q = ⟨a, b, a - 1 - x, y⟩ := by rw [hq, show (o / 4).toNat = 1 by omega]; rfl
    clear hq hA hr hqo
    subst e
    go_enter Try.func180, Try.ntmps180
    go_wp2_with ((go_at_call 85; (with_reducible refine (inS_yes _ _ _ _ (by omega) (by omega)).mono ?_); rintro e w' ⟨rfl, rfl⟩))
    go_loopw [0, 1, 3, 4, 12] (fun s0 s1 s3 s4 i wr => ∃ (k : Nat) (c : Pp), k ≤ r ∧ i = .int .i64 k ∧ s0 = .int .i64 c.w ∧ s1 = .int .i64 c.h ∧ s3 = .int .i64 c.x ∧ s4 = .int .i64 c.y ∧ Hid (c = Pp.rep Pp.qt k ⟨a, b, a - 1 - x, y⟩) ∧ c.ok ∧ wr = w) (fun _ _ _ _ i _ => r - (intOf i).toNat)
    case atStart => exact ⟨0, ⟨a, b, a - 1 - x, y⟩, Nat.zero_le _, rfl, rfl, rfl, rfl, rfl, Lib.hid rfl, Hq.out, rfl⟩
    case round =>
      obtain ⟨k, c, hk, rfl, rfl, rfl, rfl, rfl, Hc, hc, rfl⟩ := hrel
      obtain ⟨cw, ch, cx, cy⟩ := c
      have hc2 := hc
      obtain ⟨c1, c2, c3, c4, c5, c6, c7, c8⟩ := hc2
      dsimp only at *
      by_cases hlt : k < r
      · have k1 : (k : Int) < (r : Int) := by omega
        go_wp2_with fail
        go_roundw
        case rel => exact ⟨k + 1, ⟨ch, cw, ch - 1 - cy, cx⟩, by omega, by go_num, rfl, rfl, rfl, rfl, Lib.hid (by show _ = Pp.qt _; rw [← Hc.out]; rfl), Pp.qt_ok hc, by first | rfl | trivial⟩
        case measure => simp [intOf]; omega
      · obtain rfl : k = r := by omega
        go_wp2_with fail
        go_ret2
        exact ⟨ret_two (by rw [← Hc.out]), Below.refl _ _⟩
  · have e : q = ⟨a, b, x, y⟩ := by rw [hq, show (o / 4).toNat = 0 by omega]; rfl
    clear hq hA hr hqo
    subst e
    go_enter Try.func180, Try.ntmps180
    go_wp2_with ((go_at_call 85; (with_reducible refine (inS_yes _ _ _ _ (by omega) (by omega)).mono ?_); rintro e w' ⟨rfl, rfl⟩))
    go_loopw [0, 1, 3, 4, 12] (fun s0 s1 s3 s4 i wr => ∃ (k : Nat) (c : Pp), k ≤ r ∧ i = .int .i64 k ∧ s0 = .int .i64 c.w ∧ s1 = .int .i64 c.h ∧ s3 = .int .i64 c.x ∧ s4 = .int .i64 c.y ∧ Hid (c = Pp.rep Pp.qt k ⟨a, b, x, y⟩) ∧ c.ok ∧ wr = w) (fun _ _ _ _ i _ => r - (intOf i).toNat)
    case atStart => exact ⟨0, ⟨a, b, x, y⟩, Nat.zero_le _, rfl, rfl, rfl, rfl, rfl, Lib.hid rfl, Hq.out, rfl⟩
    case round =>
      obtain ⟨k, c, hk, rfl, rfl, rfl, rfl, rfl, Hc, hc, rfl⟩ := hrel
      obtain ⟨cw, ch, cx, cy⟩ := c
      have hc2 := hc
      obtain ⟨c1, c2, c3, c4, c5, c6, c7, c8⟩ := hc2
      dsimp only at *
      by_cases hlt : k < r
      · have k1 : (k : Int) < (r : Int) := by omega
        go_wp2_with fail
        go_roundw
        case rel => exact ⟨k + 1, ⟨ch, cw, ch - 1 - cy, cx⟩, by omega, by go_num, rfl, rfl, rfl, rfl, Lib.hid (by show _ = Pp.qt _; rw [← Hc.out]; rfl), Pp.qt_ok hc, by first | rfl | trivial⟩
        case measure => simp [intOf]; omega
      · obtain rfl : k = r := by omega
        go_wp2_with fail
        go_ret2
        exact ⟨ret_two (by rw [← Hc.out]), Below.refl _ _⟩
theorem opS_bad (a b o x y : Int) (w : World) (h : ¬ (orOk o ∧ (⟨a, b, x, y⟩ : Pp).ok)) : Calls Try.prog 180 #[.int .i64 a, .int .i64 b, .int .i64 o, .int .i64 x, .int .i64 y] w (TwoAns (-1, -1) w) := by
  unfold orOk Pp.ok at h
  dsimp only at h
  by_cases ha : 1 ≤ a ∧ a ≤ 16
  · obtain ⟨a1, a2⟩ := ha
    by_cases hb : 1 ≤ b ∧ b ≤ 16
    · obtain ⟨b1, b2⟩ := hb
      by_cases ho : 0 ≤ o ∧ o ≤ 7
      · obtain ⟨o1, o2⟩ := ho
        by_cases hx : 0 ≤ x ∧ x ≤ a - 1
        · obtain ⟨x1, x2⟩ := hx
          have H7 := Lib.hid (show y < 0 ∨ b - 1 < y by omega)
          clear h
          go_enter Try.func180, Try.ntmps180
          go_wp2_with (first | (go_at_call 85; (with_reducible refine (inS_yes _ _ _ _ (by omega) (by omega)).mono ?_); rintro e w' ⟨rfl, rfl⟩) | (go_at_call 85; (with_reducible refine (inS_no _ _ _ _ H7.out).mono ?_); rintro e w' ⟨rfl, rfl⟩))
          go_ret2
          exact ⟨rfl, Below.refl _ _⟩
        · have H7 := Lib.hid (show x < 0 ∨ a - 1 < x by omega)
          clear h hx
          go_enter Try.func180, Try.ntmps180
          go_wp2_with (first | (go_at_call 85; (with_reducible refine (inS_yes _ _ _ _ (by omega) (by omega)).mono ?_); rintro e w' ⟨rfl, rfl⟩) | (go_at_call 85; (with_reducible refine (inS_no _ _ _ _ H7.out).mono ?_); rintro e w' ⟨rfl, rfl⟩))
          go_ret2
          exact ⟨rfl, Below.refl _ _⟩
      · have H7 := Lib.hid (show o < 0 ∨ 7 < o by omega)
        clear h ho
        go_enter Try.func180, Try.ntmps180
        go_wp2_with (first | (go_at_call 85; (with_reducible refine (inS_yes _ _ _ _ (by omega) (by omega)).mono ?_); rintro e w' ⟨rfl, rfl⟩) | (go_at_call 85; (with_reducible refine (inS_no _ _ _ _ H7.out).mono ?_); rintro e w' ⟨rfl, rfl⟩))
        go_ret2
        exact ⟨rfl, Below.refl _ _⟩
    · have H7 := Lib.hid (show b < 1 ∨ 16 < b by omega)
      clear h hb
      go_enter Try.func180, Try.ntmps180
      go_wp2_with (first | (go_at_call 85; (with_reducible refine (inS_yes _ _ _ _ (by omega) (by omega)).mono ?_); rintro e w' ⟨rfl, rfl⟩) | (go_at_call 85; (with_reducible refine (inS_no _ _ _ _ H7.out).mono ?_); rintro e w' ⟨rfl, rfl⟩))
      go_ret2
      exact ⟨rfl, Below.refl _ _⟩
  · have H7 := Lib.hid (show a < 1 ∨ 16 < a by omega)
    clear h ha
    go_enter Try.func180, Try.ntmps180
    go_wp2_with (go_at_call 85; (with_reducible refine (inS_no _ _ _ _ H7.out).mono ?_); rintro e w' ⟨rfl, rfl⟩)
    go_ret2
    exact ⟨rfl, Below.refl _ _⟩
theorem opS (a b o x y : Int) (w : World) : Calls Try.prog 180 #[.int .i64 a, .int .i64 b, .int .i64 o, .int .i64 x, .int .i64 y] w (TwoAns (opM a b o x y) w) := by
  by_cases h : orOk o ∧ (⟨a, b, x, y⟩ : Pp).ok
  · rw [op_yes h.1 h.2]; exact opS_ok a b o x y h.1 h.2 w
  · rw [op_no h]; exact opS_bad a b o x y w h
end Go.Proofs.Ytfolphadhmgbiaa
