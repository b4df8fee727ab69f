/- The contracts of spec.ChannelOf, spec.MakePixel, spec.Over, spec.Fade. No statement is proved here. -/
import Derived.Test.YtflehkbalnikiaaMA
import Derived.Test.YtflehkbalnikiaaPixM
import Derived.Test.YtflehkbalnikiaaPixC
import Derived.Test.YtflehkbalnikiaaProg
import Derived.WalkKit
import Derived.ProofKit
import Derived.OpenShut
import Derived.WalkLawsBesides
import Derived.WalkSpells
import Derived.ShutString
import Derived.ChangeOld
import Derived.Below
import Derived.Lib.Hide
import Derived.Laws.BitsAllLaws
import Derived.Lib.QuoteBits
namespace Go.Proofs.Ytflehkbalnikiaa
open Go.RowKit
theorem chan_no {p k : Int} (h : ¬ (pixOk p ∧ 0 ≤ k ∧ k ≤ 3)) : chan p k = -1 := if_neg h
theorem chan_0 {p : Int} (h : pixOk p) : chan p 0 = p / 16777216 := by unfold chan; rw [if_pos ⟨h, by omega, by omega⟩]; rfl
theorem chan_1 {p : Int} (h : pixOk p) : chan p 1 = p / 65536 % 256 := by unfold chan; rw [if_pos ⟨h, by omega, by omega⟩]; rfl
theorem chan_2 {p : Int} (h : pixOk p) : chan p 2 = p / 256 % 256 := by unfold chan; rw [if_pos ⟨h, by omega, by omega⟩]; rfl
theorem chan_3 {p : Int} (h : pixOk p) : chan p 3 = p % 256 := by unfold chan; rw [if_pos ⟨h, by omega, by omega⟩]; rfl
theorem chS_in (p k : Int) (h : pixOk p) (h0 : 0 ≤ k) (h1 : k ≤ 3) (w : World) :
    Calls Try.prog 85 #[.int .i64 p, .int .i64 k] w fun e w' => e = .returned (.int .i64 (chan p k)) ∧ w = w' := by
  have H := Lib.hid h
  obtain ⟨p0, p1⟩ := h
  obtain rfl | rfl | rfl | rfl : k = 0 ∨ k = 1 ∨ k = 2 ∨ k = 3 := by omega
  all_goals
    go_enter Try.func85, Try.ntmps85
    go_wp2_with fail
    refine (pixS_yes p H.out _).mono ?_
    rintro e w' ⟨rfl, rfl⟩
    go_wp2_with fail
    refine (inS_yes _ 0 3 _ (by omega) (by omega)).mono ?_
    rintro e w' ⟨rfl, rfl⟩
    go_wp2
    go_ret
  · exact ⟨ret_int (by rw [chan_0 H.out, and255 _ (by omega) (by omega)]; omega), rfl⟩
  · exact ⟨ret_int (by rw [chan_1 H.out, and255 _ (by omega) (by omega)]), rfl⟩
  · exact ⟨ret_int (by rw [chan_2 H.out, and255 _ (by omega) (by omega)]), rfl⟩
  · exact ⟨ret_int (by rw [chan_3 H.out, and255 _ (by omega) (by omega)]), rfl⟩
theorem chS_any (p k : Int) (w : World) :
    Calls Try.prog 85 #[.int .i64 p, .int .i64 k] w fun e w' => e = .returned (.int .i64 (chan p k)) ∧ w = w' := by
  by_cases hp : pixOk p
  · by_cases hk : 0 ≤ k ∧ k ≤ 3
    · exact chS_in p k hp hk.1 hk.2 w
    · have Hn : Hid (chan p k = -1) := chan_no fun h => hk h.2
      have Hp := Lib.hid hp
      have hk' : k < 0 ∨ 3 < k := by omega
      have Hk := Lib.hid hk'
      clear hk hk' hp
      go_enter Try.func85, Try.ntmps85
      go_wp2_with fail
      refine (pixS_yes p Hp.out _).mono ?_
      rintro e w' ⟨rfl, rfl⟩
      go_wp2_with fail
      refine (inS_no _ 0 3 _ Hk.out).mono ?_
      rintro e w' ⟨rfl, rfl⟩
      go_wp2
      go_ret
      exact ⟨ret_int Hn.out.symm, rfl⟩
  · have Hn : Hid (chan p k = -1) := chan_no fun h => hp h.1
    have Hp := Lib.hid hp
    clear hp
    go_enter Try.func85, Try.ntmps85
    go_wp2_with fail
    refine (pixS_no p Hp.out _).mono ?_
    rintro e w' ⟨rfl, rfl⟩
    go_wp2
    go_ret
    exact ⟨ret_int Hn.out.symm, rfl⟩
theorem fadeS_in (p al : Int) (hp : pixOk p) (ha : chOk al) (w : World) :
    Calls Try.prog 76 #[.int .i64 p, .int .i64 al] w fun e w' => e = .returned (.int .i64 (fade p al)) ∧ w = w' := by
  have Hn : Hid (fade p al = fadeK p al) := if_pos ⟨hp, ha⟩
  obtain ⟨x, hx⟩ : ∃ x, x = pxPart (p / 16777216) al := ⟨_, rfl⟩
  obtain ⟨x0, x1⟩ : chOk x := by rw [hx]; exact part_ok (ch_0 hp) ha
  have hP := partS_ok (p / 16777216) al (ch_0 hp) ha
  have hC := chS_in p 0 hp (by omega) (by omega)
  rw [chan_0 hp] at hC
  rw [← hx] at hP
  have HP := Lib.hid hP
  have HC := Lib.hid hC
  have HX := Lib.hid hx
  have Hp := Lib.hid hp
  have Ha := Lib.hid ha
  have hm : bits .and .i64 p 16777215 = p % 16777216 := and24 p hp.1 (by have := hp.2; omega)
  clear hP hC hx hp ha
  go_enter Try.func76, Try.ntmps76
  go_wp2_with fail
  refine (pixS_yes p Hp.out _).mono ?_
  rintro e w' ⟨rfl, rfl⟩
  go_wp2_with fail
  refine (inS_yes _ 0 255 _ Ha.out.1 Ha.out.2).mono ?_
  rintro e w' ⟨rfl, rfl⟩
  go_wp2_with fail
  refine (HC.out _).mono ?_
  rintro e w' ⟨rfl, rfl⟩
  go_wp2_with fail
  refine (HP.out _).mono ?_
  rintro e w' ⟨rfl, rfl⟩
  go_wp2
  go_ret
  exact ⟨ret_int (by rw [Hn.out]; unfold fadeK pack4; rw [← HX.out]; omega), rfl⟩
theorem fadeS_any (p al : Int) (w : World) :
    Calls Try.prog 76 #[.int .i64 p, .int .i64 al] w fun e w' => e = .returned (.int .i64 (fade p al)) ∧ w = w' := by
  by_cases hp : pixOk p
  · by_cases ha : chOk al
    · exact fadeS_in p al hp ha w
    · have Hn : Hid (fade p al = -1) := if_neg fun h => ha h.2
      have Hp := Lib.hid hp
      have Ha := Lib.hid ha
      clear hp ha
      go_enter Try.func76, Try.ntmps76
      go_wp2_with fail
      refine (pixS_yes p Hp.out _).mono ?_
      rintro e w' ⟨rfl, rfl⟩
      go_wp2_with fail
      refine (inS_no _ 0 255 _ (ch_no Ha.out)).mono ?_
      rintro e w' ⟨rfl, rfl⟩
      go_wp2
      go_ret
      exact ⟨ret_int Hn.out.symm, rfl⟩
  · have Hn : Hid (fade p al = -1) := if_neg fun h => hp h.1
    have Hp := Lib.hid hp
    clear hp
    go_enter Try.func76, Try.ntmps76
    go_wp2_with fail
    refine (pixS_no p Hp.out _).mono ?_
    rintro e w' ⟨rfl, rfl⟩
    go_wp2
    go_ret
    exact ⟨ret_int Hn.out.symm, rfl⟩
end Go.Proofs.Ytflehkbalnikiaa
