/- The contract of impl.MakePixel, impl.Fade. No statement is proved here. -/
import Derived.Test.YtflehkbalnikiaaMA
import Derived.Test.YtflehkbalnikiaaPixM
import Derived.Test.YtflehkbalnikiaaPixC
import Derived.Test.YtflehkbalnikiaaPixI
import Derived.Test.YtflehkbalnikiaaPixA
import Derived.Test.YtflehkbalnikiaaProg
import Derived.WalkKit
import Derived.ProofKit
import Derived.OpenShut
import Derived.WalkLawsBesides
import Derived.WalkSpells
import Derived.ShutString
import Derived.ChangeOld
import Derived.Below
import Derived.Lib.Hide
import Derived.Laws.BitsAllLaws
import Derived.Lib.QuoteBits
import Derived.Deep.RegionHeld3
import Derived.ChangeKeysEq
namespace Go.Proofs.Ytflehkbalnikiaa
open Go.RowKit
theorem fadeI_in (p al : Int) (hp : pixOk p) (ha : chOk al) (w : World) :
    Calls Try.prog 80 #[.int .i64 p, .int .i64 al] w fun e w' => e = .returned (.int .i64 (fade p al)) ∧ Below w.heap.size w w' := by
  have Hn : Hid (fade p al = fadeK p al) := if_pos ⟨hp, ha⟩
  obtain ⟨c0, h0⟩ : ∃ x, x = p / 16777216 := ⟨_, rfl⟩
  obtain ⟨c1, h1⟩ : ∃ x, x = p / 65536 % 256 := ⟨_, rfl⟩
  obtain ⟨c2, h2⟩ : ∃ x, x = p / 256 % 256 := ⟨_, rfl⟩
  obtain ⟨c3, h3⟩ : ∃ x, x = p % 256 := ⟨_, rfl⟩
  have HU := Lib.hid (unpackedI p hp)
  have Hc0 : Hid (chOk c0) := by rw [h0]; exact ch_0 hp
  have Hc1 : Hid (chOk c1) := by rw [h1]; exact ch_1 p
  have Hc2 : Hid (chOk c2) := by rw [h2]; exact ch_2 p
  have Hc3 : Hid (chOk c3) := by rw [h3]; exact ch_3 p
  rw [fadeK, ← h0, ← h1, ← h2, ← h3] at Hn
  rw [← h0, ← h1, ← h2, ← h3] at HU
  have HP := Lib.hid (partI_ok c0 al Hc0.out ha)
  have Hx := Lib.hid (part_ok Hc0.out ha)
  obtain ⟨x, hx⟩ : ∃ x, x = pxPart c0 al := ⟨_, rfl⟩
  rw [← hx] at HP Hn Hx
  have Hp := Lib.hid hp
  have Ha := Lib.hid ha
  clear h0 h1 h2 h3 hx hp ha
  go_enter Try.func80, Try.ntmps80
  go_wp2_with fail
  refine (pixI_yes p Hp.out _).mono ?_
  rintro e w' ⟨rfl, rfl⟩
  go_wp2_with fail
  refine (inI_yes _ 0 255 _ Ha.out.1 Ha.out.2).mono ?_
  rintro e w' ⟨rfl, rfl⟩
  go_wp2_with fail
  refine (HU.out _).mono ?_
  rintro e w1 ⟨rfl, K⟩
  go_wp2_with fail
  refine (HP.out _).mono ?_
  rintro e w' ⟨rfl, rfl⟩
  go_wp2_with fail
  refine (packedI x c1 c2 c3 Hx.out Hc1.out Hc2.out Hc3.out _).mono ?_
  rintro e w2 ⟨rfl, hb⟩
  go_wp2_with fail
  go_ret
  exact ⟨ret_int Hn.out.symm, px_call (by repeat first | exact K | refine Below.setCell ?_ (by have := K.size; first | (simp; done) | (simp; omega)) _ | refine Below.alloc ?_ (by have := K.size; first | (simp; done) | (simp; omega)) _) hb⟩
theorem fadeI_any (p al : Int) (w : World) :
    Calls Try.prog 80 #[.int .i64 p, .int .i64 al] w fun e w' => e = .returned (.int .i64 (fade p al)) ∧ Below w.heap.size w w' := by
  by_cases hp : pixOk p
  · by_cases ha : chOk al
    · exact fadeI_in p al hp ha w
    · have Hn : Hid (fade p al = -1) := if_neg fun h => ha h.2
      have Hp := Lib.hid hp
      have Ha := Lib.hid ha
      clear hp ha
      go_enter Try.func80, Try.ntmps80
      go_wp2_with fail
      refine (pixI_yes p Hp.out _).mono ?_
      rintro e w' ⟨rfl, rfl⟩
      go_wp2_with fail
      refine (inI_no _ 0 255 _ (ch_no Ha.out)).mono ?_
      rintro e w' ⟨rfl, rfl⟩
      go_wp2
      go_ret
      exact ⟨ret_int Hn.out.symm, Below.refl _ _⟩
  · have Hn : Hid (fade p al = -1) := if_neg fun h => hp h.1
    have Hp := Lib.hid hp
    clear hp
    go_enter Try.func80, Try.ntmps80
    go_wp2_with fail
    refine (pixI_no p Hp.out _).mono ?_
    rintro e w' ⟨rfl, rfl⟩
    go_wp2
    go_ret
    exact ⟨ret_int Hn.out.symm, Below.refl _ _⟩
end Go.Proofs.Ytflehkbalnikiaa
