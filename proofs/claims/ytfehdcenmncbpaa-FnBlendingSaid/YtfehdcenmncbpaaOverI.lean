/- The contract of impl.Over. No statement is proved here. -/
import Derived.Test.YtfehdcenmncbpaaBase
import Derived.Test.YtfehdcenmncbpaaPixM
import Derived.Test.YtfehdcenmncbpaaPixC
import Derived.Test.YtfehdcenmncbpaaPixI
import Derived.Test.YtfehdcenmncbpaaPixA
import Derived.Test.YtfehdcenmncbpaaOverS
import Derived.Test.YtfehdcenmncbpaaProg
import Derived.WalkKit
import Derived.ProofKit
import Derived.OpenShut
import Derived.WalkLawsBesides
import Derived.WalkSpells
import Derived.ShutString
import Derived.ChangeOld
import Derived.Below
import Derived.Lib.Hide
import Derived.Laws.BitsAllLaws
import Derived.Lib.QuoteBits
import Derived.Deep.RegionHeld3
namespace Go.Proofs.Ytfehdcenmncbpaa
open Go.RowKit
set_option maxHeartbeats 1000000 in
theorem overI_in (p q : Int) (hp : pixOk p) (hq : pixOk q) (w : World) :
    Calls Try.prog 44 #[.int .i64 p, .int .i64 q] w fun e w' => e = .returned (.int .i64 (over p q)) ∧ Below w.heap.size w w' := by
  have Hn : Hid (over p q = overK p q) := over_yes hp hq
  obtain ⟨al, ha⟩ : ∃ x, x = p / 16777216 := ⟨_, rfl⟩
  obtain ⟨x1, hx1⟩ : ∃ x, x = p / 65536 % 256 := ⟨_, rfl⟩
  obtain ⟨x2, hx2⟩ : ∃ x, x = p / 256 % 256 := ⟨_, rfl⟩
  obtain ⟨x3, hx3⟩ : ∃ x, x = p % 256 := ⟨_, rfl⟩
  obtain ⟨y0, hy0⟩ : ∃ x, x = q / 16777216 := ⟨_, rfl⟩
  obtain ⟨y1, hy1⟩ : ∃ x, x = q / 65536 % 256 := ⟨_, rfl⟩
  obtain ⟨y2, hy2⟩ : ∃ x, x = q / 256 % 256 := ⟨_, rfl⟩
  obtain ⟨y3, hy3⟩ : ∃ x, x = q % 256 := ⟨_, rfl⟩
  have hal : chOk al := by rw [ha]; exact ch_0 hp
  have hbl : chOk (255 - al) := by unfold chOk at hal ⊢; omega
  have Up := Lib.hid (unpackedI p hp)
  have Uq := Lib.hid (unpackedI q hq)
  rw [← ha, ← hx1, ← hx2, ← hx3] at Up
  rw [← hy0, ← hy1, ← hy2, ← hy3] at Uq
  have k1 : chOk x1 := by rw [hx1]; exact ch_1 p
  have k2 : chOk x2 := by rw [hx2]; exact ch_2 p
  have k3 : chOk x3 := by rw [hx3]; exact ch_3 p
  have l1 : chOk y1 := by rw [hy1]; exact ch_1 q
  have l2 : chOk y2 := by rw [hy2]; exact ch_2 q
  have l3 : chOk y3 := by rw [hy3]; exact ch_3 q
  have M1 : Hid (chOk (mixC x1 y1 al)) := mix_ok k1 l1 hal
  have M2 : Hid (chOk (mixC x2 y2 al)) := mix_ok k2 l2 hal
  have M3 : Hid (chOk (mixC x3 y3 al)) := mix_ok k3 l3 hal
  have P1 := Lib.hid (partI_ok x1 al k1 hal)
  have P2 := Lib.hid (partI_ok x2 al k2 hal)
  have P3 := Lib.hid (partI_ok x3 al k3 hal)
  have Q1 := Lib.hid (partI_ok y1 (255 - al) l1 hbl)
  have Q2 := Lib.hid (partI_ok y2 (255 - al) l2 hbl)
  have Q3 := Lib.hid (partI_ok y3 (255 - al) l3 hbl)
  obtain ⟨a1, ea1⟩ : ∃ x, x = pxPart x1 al := ⟨_, rfl⟩
  obtain ⟨a2, ea2⟩ : ∃ x, x = pxPart x2 al := ⟨_, rfl⟩
  obtain ⟨a3, ea3⟩ : ∃ x, x = pxPart x3 al := ⟨_, rfl⟩
  obtain ⟨b1, eb1⟩ : ∃ x, x = pxPart y1 (255 - al) := ⟨_, rfl⟩
  obtain ⟨b2, eb2⟩ : ∃ x, x = pxPart y2 (255 - al) := ⟨_, rfl⟩
  obtain ⟨b3, eb3⟩ : ∃ x, x = pxPart y3 (255 - al) := ⟨_, rfl⟩
  obtain ⟨a10, a11⟩ : chOk a1 := by rw [ea1]; exact part_ok k1 hal
  obtain ⟨a20, a21⟩ : chOk a2 := by rw [ea2]; exact part_ok k2 hal
  obtain ⟨a30, a31⟩ : chOk a3 := by rw [ea3]; exact part_ok k3 hal
  obtain ⟨b10, b11⟩ : chOk b1 := by rw [eb1]; exact part_ok l1 hbl
  obtain ⟨b20, b21⟩ : chOk b2 := by rw [eb2]; exact part_ok l2 hbl
  obtain ⟨b30, b31⟩ : chOk b3 := by rw [eb3]; exact part_ok l3 hbl
  rw [overK, ← ha, ← hx1, ← hx2, ← hx3, ← hy1, ← hy2, ← hy3, mixC, mixC, mixC, ← ea1, ← ea2, ← ea3, ← eb1, ← eb2, ← eb3] at Hn
  rw [mixC, ← ea1, ← eb1] at M1
  rw [mixC, ← ea2, ← eb2] at M2
  rw [mixC, ← ea3, ← eb3] at M3
  rw [← ea1] at P1
  rw [← ea2] at P2
  rw [← ea3] at P3
  rw [← eb1] at Q1
  rw [← eb2] at Q2
  rw [← eb3] at Q3
  obtain ⟨al0, al1⟩ := hal
  have Hp := Lib.hid hp
  have Hq := Lib.hid hq
  have s1 : IntKind.i64.wrap (a1 + b1) = a1 + b1 := IntWalk.i64_in _ (by omega)
  have s2 : IntKind.i64.wrap (a2 + b2) = a2 + b2 := IntWalk.i64_in _ (by omega)
  have s3 : IntKind.i64.wrap (a3 + b3) = a3 + b3 := IntWalk.i64_in _ (by omega)
  have s4 : IntKind.i64.wrap (255 - al) = 255 - al := IntWalk.i64_in _ (by omega)
  clear ha hx1 hx2 hx3 hy0 hy1 hy2 hy3 ea1 ea2 ea3 eb1 eb2 eb3 hbl k1 k2 k3 l1 l2 l3 hp hq
  go_enter Try.func44, Try.ntmps44
  go_wp2_with fail
  refine (pixI_yes p Hp.out _).mono ?_
  rintro e w' ⟨rfl, rfl⟩
  go_wp2_with fail
  refine (pixI_yes q Hq.out _).mono ?_
  rintro e w' ⟨rfl, rfl⟩
  go_wp2_with fail
  refine (Up.out _).mono ?_
  rintro e w1 ⟨rfl, K⟩
  go_wp2_with fail
  refine (Uq.out _).mono ?_
  rintro e w2 ⟨rfl, hb⟩
  replace K := px_call K hb
  have hlw := K.size
  clear hb
  go_wp2_with fail
  go_loopw [9] (fun i wr => ∃ (k : Nat) (m1 m2 m3 : Int), 1 ≤ k ∧ k ≤ 4 ∧ i = .int .i64 k ∧ Hid ((1 < k → m1 = a1 + b1) ∧ (2 < k → m2 = a2 + b2) ∧ (3 < k → m3 = a3 + b3)) ∧
    ChAt wr w2.heap.size al x1 x2 x3 ∧ ChAt wr (w2.heap.size + 1) y0 y1 y2 y3 ∧ ChAt wr (w2.heap.size + 1 + 1) 255 m1 m2 m3 ∧ Below w.heap.size w wr) (fun i _ => 4 - (intOf i).toNat)
  case atStart =>
    exact ⟨1, 0, 0, 0, by omega, by omega, rfl, ⟨fun h => by omega, fun h => by omega, fun h => by omega⟩, ((ChAt.new w2 al x1 x2 x3).alloc _).alloc _, (ChAt.newAt (by simp) y0 y1 y2 y3).alloc _, ChAt.newAt (by simp) 255 0 0 0,
      ((K.alloc K.size _).alloc (by simp; omega) _).alloc (by simp; omega) _⟩
  case round =>
    clear K
    obtain ⟨k, m1, m2, m3, hk0, hk, rfl, Hm, hU, hL, hM, K⟩ := hrel
    have hsz := hM.lt
    have mf := hM.frozen
    have hsz1 := hL.lt
    have hsz0 := hU.lt
    obtain ⟨u0, u1, u2, u3⟩ := hU.cells
    obtain ⟨v0, v1, v2, v3⟩ := hL.cells
    obtain ⟨n0, n1, n2, n3⟩ := hM.cells
    have HU := Lib.hid hU
    have HL := Lib.hid hL
    have HM := Lib.hid hM
    have HK := Lib.hid K
    clear hU hL hM K
    obtain rfl | rfl | rfl | rfl : k = 1 ∨ k = 2 ∨ k = 3 ∨ k = 4 := by omega
    · have P := P1
      have Q := Q1
      clear P1 P2 P3 Q1 Q2 Q3
      clear u0 u2 u3 v0 v2 v3
      go_wp2_with fail
      go_region_held3 (fun w' => w'.cell? ⟨w2.heap.size, 1, none⟩ = some (.int .i64 x1) ∧ w'.cell? ⟨w2.heap.size + 1, 1, none⟩ = some (.int .i64 y1))
        (first | exact ⟨((HU.out.far (p := ⟨w2.heap.size + 1 + 1, 1, none⟩) (by show w2.heap.size ≠ w2.heap.size + 1 + 1; omega) _).drew.cells).2.1, ((HL.out.far (p := ⟨w2.heap.size + 1 + 1, 1, none⟩) (by show w2.heap.size + 1 ≠ w2.heap.size + 1 + 1; omega) _).drew.cells).2.1⟩ | go_keep | fail)
        (first | (go_at_call 76; (with_reducible refine (P.out _).mono ?_); rintro e w' ⟨rfl, rfl⟩) | (go_at_call 76; (with_reducible refine (Q.out _).mono ?_); rintro e w' ⟨rfl, rfl⟩))
      all_goals
        go_wp2_with fail
        go_roundw
        case rel => exact ⟨2, _, m2, m3, by omega, by omega, rfl, ⟨fun _ => rfl, fun h => by omega, fun h => by omega⟩, HU.out.drew.far (by show w2.heap.size ≠ w2.heap.size + 1 + 1; omega) _, HL.out.drew.far (by show w2.heap.size + 1 ≠ w2.heap.size + 1 + 1; omega) _, HM.out.drew.set1 _, HK.out.drew.setCell (by simp; omega) _⟩
        case measure => simp [intOf]
    · have P := P2
      have Q := Q2
      clear P1 P2 P3 Q1 Q2 Q3
      clear u0 u1 u3 v0 v1 v3
      go_wp2_with fail
      go_region_held3 (fun w' => w'.cell? ⟨w2.heap.size, 2, none⟩ = some (.int .i64 x2) ∧ w'.cell? ⟨w2.heap.size + 1, 2, none⟩ = some (.int .i64 y2))
        (first | exact ⟨((HU.out.far (p := ⟨w2.heap.size + 1 + 1, 2, none⟩) (by show w2.heap.size ≠ w2.heap.size + 1 + 1; omega) _).drew.cells).2.2.1, ((HL.out.far (p := ⟨w2.heap.size + 1 + 1, 2, none⟩) (by show w2.heap.size + 1 ≠ w2.heap.size + 1 + 1; omega) _).drew.cells).2.2.1⟩ | go_keep | fail)
        (first | (go_at_call 76; (with_reducible refine (P.out _).mono ?_); rintro e w' ⟨rfl, rfl⟩) | (go_at_call 76; (with_reducible refine (Q.out _).mono ?_); rintro e w' ⟨rfl, rfl⟩))
      all_goals
        go_wp2_with fail
        go_roundw
        case rel => exact ⟨3, m1, _, m3, by omega, by omega, rfl, ⟨fun _ => Hm.out.1 (by omega), fun _ => rfl, fun h => by omega⟩, HU.out.drew.far (by show w2.heap.size ≠ w2.heap.size + 1 + 1; omega) _, HL.out.drew.far (by show w2.heap.size + 1 ≠ w2.heap.size + 1 + 1; omega) _, HM.out.drew.set2 _, HK.out.drew.setCell (by simp; omega) _⟩
        case measure => simp [intOf]
    · have P := P3
      have Q := Q3
      clear P1 P2 P3 Q1 Q2 Q3
      clear u0 u1 u2 v0 v1 v2
      go_wp2_with fail
      go_region_held3 (fun w' => w'.cell? ⟨w2.heap.size, 3, none⟩ = some (.int .i64 x3) ∧ w'.cell? ⟨w2.heap.size + 1, 3, none⟩ = some (.int .i64 y3))
        (first | exact ⟨((HU.out.far (p := ⟨w2.heap.size + 1 + 1, 3, none⟩) (by show w2.heap.size ≠ w2.heap.size + 1 + 1; omega) _).drew.cells).2.2.2, ((HL.out.far (p := ⟨w2.heap.size + 1 + 1, 3, none⟩) (by show w2.heap.size + 1 ≠ w2.heap.size + 1 + 1; omega) _).drew.cells).2.2.2⟩ | go_keep | fail)
        (first | (go_at_call 76; (with_reducible refine (P.out _).mono ?_); rintro e w' ⟨rfl, rfl⟩) | (go_at_call 76; (with_reducible refine (Q.out _).mono ?_); rintro e w' ⟨rfl, rfl⟩))
      all_goals
        go_wp2_with fail
        go_roundw
        case rel => exact ⟨4, m1, m2, _, by omega, by omega, rfl, ⟨fun _ => Hm.out.1 (by omega), fun _ => Hm.out.2.1 (by omega), fun _ => rfl⟩, HU.out.drew.far (by show w2.heap.size ≠ w2.heap.size + 1 + 1; omega) _, HL.out.drew.far (by show w2.heap.size + 1 ≠ w2.heap.size + 1 + 1; omega) _, HM.out.drew.set3 _, HK.out.drew.setCell (by simp; omega) _⟩
        case measure => simp [intOf]
    · obtain rfl : m1 = a1 + b1 := Hm.out.1 (by omega)
      obtain rfl : m2 = a2 + b2 := Hm.out.2.1 (by omega)
      obtain rfl : m3 = a3 + b3 := Hm.out.2.2 (by omega)
      go_wp2_with fail
      refine (packedI 255 _ _ _ ch_255 M1.out M2.out M3.out _).mono ?_
      rintro e w3 ⟨rfl, hb⟩
      go_wp2_with fail
      go_ret
      exact ⟨ret_int Hn.out.symm, px_call HK.out hb⟩
theorem overI_any (p q : Int) (w : World) :
    Calls Try.prog 44 #[.int .i64 p, .int .i64 q] w fun e w' => e = .returned (.int .i64 (over p q)) ∧ Below w.heap.size w w' := by
  by_cases hp : pixOk p
  · by_cases hq : pixOk q
    · exact overI_in p q hp hq w
    · have Hn : Hid (over p q = -1) := over_no fun h => hq h.2
      have Hp := Lib.hid hp
      have Hq := Lib.hid hq
      clear hp hq
      go_enter Try.func44, Try.ntmps44
      go_wp2_with fail
      refine (pixI_yes p Hp.out _).mono ?_
      rintro e w' ⟨rfl, rfl⟩
      go_wp2_with fail
      refine (pixI_no q Hq.out _).mono ?_
      rintro e w' ⟨rfl, rfl⟩
      go_wp2
      go_ret
      exact ⟨ret_int Hn.out.symm, Below.refl _ _⟩
  · have Hn : Hid (over p q = -1) := over_no fun h => hp h.1
    have Hp := Lib.hid hp
    clear hp
    go_enter Try.func44, Try.ntmps44
    go_wp2_with fail
    refine (pixI_no p Hp.out _).mono ?_
    rintro e w' ⟨rfl, rfl⟩
    go_wp2
    go_ret
    exact ⟨ret_int Hn.out.symm, Below.refl _ _⟩
end Go.Proofs.Ytfehdcenmncbpaa
