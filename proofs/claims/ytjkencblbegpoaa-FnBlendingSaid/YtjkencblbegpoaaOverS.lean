/- The contracts of spec.Over, spec.Blend. No statement is proved here. -/
import Derived.Test.YtjkencblbegpoaaPixS
namespace Go.Proofs.Ytjkencblbegpoaa
open Go.RowKit

theorem over_no {p q : Int} (h : ¬ (pixOk p ∧ pixOk q)) : over p q = -1 := if_neg h
theorem over_yes {p q : Int} (hp : pixOk p) (hq : pixOk q) : over p q = overK p q := if_pos ⟨hp, hq⟩

set_option maxHeartbeats 600000 in
theorem overS_in (p q : Int) (hp : pixOk p) (hq : pixOk q) (w : World) :
    Calls Try.prog 21 #[.int .i64 p, .int .i64 q] w fun e w' => e = .returned (.int .i64 (over p q)) ∧ w = w' := by
  have Hn : Hid (over p q = overK p q) := over_yes hp hq
  obtain ⟨al, ha⟩ : ∃ x, x = p / 16777216 := ⟨_, rfl⟩
  obtain ⟨x1, hx1⟩ : ∃ x, x = p / 65536 % 256 := ⟨_, rfl⟩
  obtain ⟨x2, hx2⟩ : ∃ x, x = p / 256 % 256 := ⟨_, rfl⟩
  obtain ⟨x3, hx3⟩ : ∃ x, x = p % 256 := ⟨_, rfl⟩
  obtain ⟨y1, hy1⟩ : ∃ x, x = q / 65536 % 256 := ⟨_, rfl⟩
  obtain ⟨y2, hy2⟩ : ∃ x, x = q / 256 % 256 := ⟨_, rfl⟩
  obtain ⟨y3, hy3⟩ : ∃ x, x = q % 256 := ⟨_, rfl⟩
  have hal : chOk al := by rw [ha]; exact ch_0 hp
  have hbl : chOk (255 - al) := by unfold chOk at hal ⊢; omega
  have Cp0 := Lib.hid (chS_in p 0 hp (by omega) (by omega))
  have Cp1 := Lib.hid (chS_in p 1 hp (by omega) (by omega))
  have Cp2 := Lib.hid (chS_in p 2 hp (by omega) (by omega))
  have Cp3 := Lib.hid (chS_in p 3 hp (by omega) (by omega))
  have Cq1 := Lib.hid (chS_in q 1 hq (by omega) (by omega))
  have Cq2 := Lib.hid (chS_in q 2 hq (by omega) (by omega))
  have Cq3 := Lib.hid (chS_in q 3 hq (by omega) (by omega))
  rw [chan_0 hp, ← ha] at Cp0
  rw [chan_1 hp, ← hx1] at Cp1
  rw [chan_2 hp, ← hx2] at Cp2
  rw [chan_3 hp, ← hx3] at Cp3
  rw [chan_1 hq, ← hy1] at Cq1
  rw [chan_2 hq, ← hy2] at Cq2
  rw [chan_3 hq, ← hy3] at Cq3
  have k1 : chOk x1 := by rw [hx1]; exact ch_1 p
  have k2 : chOk x2 := by rw [hx2]; exact ch_2 p
  have k3 : chOk x3 := by rw [hx3]; exact ch_3 p
  have l1 : chOk y1 := by rw [hy1]; exact ch_1 q
  have l2 : chOk y2 := by rw [hy2]; exact ch_2 q
  have l3 : chOk y3 := by rw [hy3]; exact ch_3 q
  have P1 := Lib.hid (partS_ok x1 al k1 hal)
  have P2 := Lib.hid (partS_ok x2 al k2 hal)
  have P3 := Lib.hid (partS_ok x3 al k3 hal)
  have Q1 := Lib.hid (partS_ok y1 (255 - al) l1 hbl)
  have Q2 := Lib.hid (partS_ok y2 (255 - al) l2 hbl)
  have Q3 := Lib.hid (partS_ok y3 (255 - al) l3 hbl)
  obtain ⟨a1, ea1⟩ : ∃ x, x = pxPart x1 al := ⟨_, rfl⟩
  obtain ⟨a2, ea2⟩ : ∃ x, x = pxPart x2 al := ⟨_, rfl⟩
  obtain ⟨a3, ea3⟩ : ∃ x, x = pxPart x3 al := ⟨_, rfl⟩
  obtain ⟨b1, eb1⟩ : ∃ x, x = pxPart y1 (255 - al) := ⟨_, rfl⟩
  obtain ⟨b2, eb2⟩ : ∃ x, x = pxPart y2 (255 - al) := ⟨_, rfl⟩
  obtain ⟨b3, eb3⟩ : ∃ x, x = pxPart y3 (255 - al) := ⟨_, rfl⟩
  obtain ⟨a10, a11⟩ : chOk a1 := by rw [ea1]; exact part_ok k1 hal
  obtain ⟨a20, a21⟩ : chOk a2 := by rw [ea2]; exact part_ok k2 hal
  obtain ⟨a30, a31⟩ : chOk a3 := by rw [ea3]; exact part_ok k3 hal
  obtain ⟨b10, b11⟩ : chOk b1 := by rw [eb1]; exact part_ok l1 hbl
  obtain ⟨b20, b21⟩ : chOk b2 := by rw [eb2]; exact part_ok l2 hbl
  obtain ⟨b30, b31⟩ : chOk b3 := by rw [eb3]; exact part_ok l3 hbl
  rw [overK, ← ha, ← hx1, ← hx2, ← hx3, ← hy1, ← hy2, ← hy3, mixC, mixC, mixC, ← ea1, ← ea2, ← ea3, ← eb1, ← eb2, ← eb3, pack4] at Hn
  rw [← ea1] at P1
  rw [← ea2] at P2
  rw [← ea3] at P3
  rw [← eb1] at Q1
  rw [← eb2] at Q2
  rw [← eb3] at Q3
  obtain ⟨al0, al1⟩ := hal
  have Hp := Lib.hid hp
  have Hq := Lib.hid hq
  clear ha hx1 hx2 hx3 hy1 hy2 hy3 ea1 ea2 ea3 eb1 eb2 eb3 hbl k1 k2 k3 l1 l2 l3 hp hq
  go_enter Try.func21, Try.ntmps21
  go_wp2_with fail
  refine (pixS_yes p Hp.out _).mono ?_
  rintro e w' ⟨rfl, rfl⟩
  go_wp2_with fail
  refine (pixS_yes q Hq.out _).mono ?_
  rintro e w' ⟨rfl, rfl⟩
  go_wp2_with fail
  refine (Cp0.out _).mono ?_
  rintro e w' ⟨rfl, rfl⟩
  go_wp2_with fail
  go_loop [6, 7] (fun s i => (i = .int .i64 1 ∧ s = .int .i64 255) ∨ (i = .int .i64 2 ∧ s = .int .i64 (65280 + a1 + b1)) ∨ (i = .int .i64 3 ∧ s = .int .i64 ((65280 + a1 + b1) * 256 + a2 + b2)) ∨ (i = .int .i64 4 ∧ s = .int .i64 (((65280 + a1 + b1) * 256 + a2 + b2) * 256 + a3 + b3))) (fun _ i => 4 - (intOf i).toNat)
  case atStart => exact .inl ⟨rfl, rfl⟩
  case round =>
    rcases hrel with ⟨rfl, rfl⟩ | ⟨rfl, rfl⟩ | ⟨rfl, rfl⟩ | ⟨rfl, rfl⟩
    · go_wp2_with fail
      refine (Cp1.out _).mono ?_
      rintro e w' ⟨rfl, rfl⟩
      go_wp2_with fail
      refine (P1.out _).mono ?_
      rintro e w' ⟨rfl, rfl⟩
      go_wp2_with fail
      refine (Cq1.out _).mono ?_
      rintro e w' ⟨rfl, rfl⟩
      go_wp2_with fail
      refine (Q1.out _).mono ?_
      rintro e w' ⟨rfl, rfl⟩
      go_wp2_with fail
      go_round
      case rel => exact .inr (.inl ⟨rfl, rfl⟩)
      case measure => simp [intOf]
    · go_wp2_with fail
      refine (Cp2.out _).mono ?_
      rintro e w' ⟨rfl, rfl⟩
      go_wp2_with fail
      refine (P2.out _).mono ?_
      rintro e w' ⟨rfl, rfl⟩
      go_wp2_with fail
      refine (Cq2.out _).mono ?_
      rintro e w' ⟨rfl, rfl⟩
      go_wp2_with fail
      refine (Q2.out _).mono ?_
      rintro e w' ⟨rfl, rfl⟩
      go_wp2_with fail
      go_round
      case rel => exact .inr (.inr (.inl ⟨rfl, rfl⟩))
      case measure => simp [intOf]
    · go_wp2_with fail
      refine (Cp3.out _).mono ?_
      rintro e w' ⟨rfl, rfl⟩
      go_wp2_with fail
      refine (P3.out _).mono ?_
      rintro e w' ⟨rfl, rfl⟩
      go_wp2_with fail
      refine (Cq3.out _).mono ?_
      rintro e w' ⟨rfl, rfl⟩
      go_wp2_with fail
      refine (Q3.out _).mono ?_
      rintro e w' ⟨rfl, rfl⟩
      go_wp2_with fail
      go_round
      case rel => exact .inr (.inr (.inr ⟨rfl, rfl⟩))
      case measure => simp [intOf]
    · go_wp2_with fail
      go_ret
      exact ⟨ret_int (by rw [Hn.out]; omega), rfl⟩
theorem overS_any (p q : Int) (w : World) :
    Calls Try.prog 21 #[.int .i64 p, .int .i64 q] w fun e w' => e = .returned (.int .i64 (over p q)) ∧ w = w' := by
  by_cases hp : pixOk p
  · by_cases hq : pixOk q
    · exact overS_in p q hp hq w
    · have Hn : Hid (over p q = -1) := over_no fun h => hq h.2
      have Hp := Lib.hid hp
      have Hq := Lib.hid hq
      clear hp hq
      go_enter Try.func21, Try.ntmps21
      go_wp2_with fail
      refine (pixS_yes p Hp.out _).mono ?_
      rintro e w' ⟨rfl, rfl⟩
      go_wp2_with fail
      refine (pixS_no q Hq.out _).mono ?_
      rintro e w' ⟨rfl, rfl⟩
      go_wp2
      go_ret
      exact ⟨ret_int Hn.out.symm, rfl⟩
  · have Hn : Hid (over p q = -1) := over_no fun h => hp h.1
    have Hp := Lib.hid hp
    clear hp
    go_enter Try.func21, Try.ntmps21
    go_wp2_with fail
    refine (pixS_no p Hp.out _).mono ?_
    rintro e w' ⟨rfl, rfl⟩
    go_wp2
    go_ret
    exact ⟨ret_int Hn.out.symm, rfl⟩
end Go.Proofs.Ytjkencblbegpoaa
