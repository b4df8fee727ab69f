/- The contracts of spec.ChannelOf, spec.MakePixel, spec.Over, spec.Fade. No statement is proved here. -/
import Derived.Test.YtaggldhlnjbnhaaBase
import Derived.Test.YtaggldhlnjbnhaaRectC
import Derived.Test.YtaggldhlnjbnhaaPixM
import Derived.Test.YtaggldhlnjbnhaaPixC
import Derived.Test.YtaggldhlnjbnhaaProg
import Derived.WalkKit
import Derived.ProofKit
import Derived.OpenShut
import Derived.WalkLawsBesides
import Derived.WalkSpells
import Derived.ShutString
import Derived.ChangeOld
import Derived.Below
import Derived.Lib.Hide
import Derived.Laws.BitsAllLaws
import Derived.Lib.QuoteBits
namespace Go.Proofs.Ytaggldhlnjbnhaa
open Go.RowKit
theorem chan_no {p k : Int} (h : ¬ (pixOk p ∧ 0 ≤ k ∧ k ≤ 3)) : chan p k = -1 := if_neg h
theorem chan_0 {p : Int} (h : pixOk p) : chan p 0 = p / 16777216 := by unfold chan; rw [if_pos ⟨h, by omega, by omega⟩]; rfl
theorem chan_1 {p : Int} (h : pixOk p) : chan p 1 = p / 65536 % 256 := by unfold chan; rw [if_pos ⟨h, by omega, by omega⟩]; rfl
theorem chan_2 {p : Int} (h : pixOk p) : chan p 2 = p / 256 % 256 := by unfold chan; rw [if_pos ⟨h, by omega, by omega⟩]; rfl
theorem chan_3 {p : Int} (h : pixOk p) : chan p 3 = p % 256 := by unfold chan; rw [if_pos ⟨h, by omega, by omega⟩]; rfl
theorem chS_in (p k : Int) (h : pixOk p) (h0 : 0 ≤ k) (h1 : k ≤ 3) (w : World) :
    Calls Try.prog 22 #[.int .i64 p, .int .i64 k] w fun e w' => e = .returned (.int .i64 (chan p k)) ∧ w = w' := by
  have H := Lib.hid h
  obtain ⟨p0, p1⟩ := h
  obtain rfl | rfl | rfl | rfl : k = 0 ∨ k = 1 ∨ k = 2 ∨ k = 3 := by omega
  all_goals
    go_enter Try.func22, Try.ntmps22
    go_wp2_with fail
    refine (pixS_yes p H.out _).mono ?_
    rintro e w' ⟨rfl, rfl⟩
    go_wp2_with fail
    refine (inS_yes _ 0 3 _ (by omega) (by omega)).mono ?_
    rintro e w' ⟨rfl, rfl⟩
    go_wp2
    go_ret
  · exact ⟨ret_int (by rw [chan_0 H.out, and255 _ (by omega) (by omega)]; omega), rfl⟩
  · exact ⟨ret_int (by rw [chan_1 H.out, and255 _ (by omega) (by omega)]), rfl⟩
  · exact ⟨ret_int (by rw [chan_2 H.out, and255 _ (by omega) (by omega)]), rfl⟩
  · exact ⟨ret_int (by rw [chan_3 H.out, and255 _ (by omega) (by omega)]), rfl⟩
theorem chS_any (p k : Int) (w : World) :
    Calls Try.prog 22 #[.int .i64 p, .int .i64 k] w fun e w' => e = .returned (.int .i64 (chan p k)) ∧ w = w' := by
  by_cases hp : pixOk p
  · by_cases hk : 0 ≤ k ∧ k ≤ 3
    · exact chS_in p k hp hk.1 hk.2 w
    · have Hn : Hid (chan p k = -1) := chan_no fun h => hk h.2
      have Hp := Lib.hid hp
      have hk' : k < 0 ∨ 3 < k := by omega
      have Hk := Lib.hid hk'
      clear hk hk' hp
      go_enter Try.func22, Try.ntmps22
      go_wp2_with fail
      refine (pixS_yes p Hp.out _).mono ?_
      rintro e w' ⟨rfl, rfl⟩
      go_wp2_with fail
      refine (inS_no _ 0 3 _ Hk.out).mono ?_
      rintro e w' ⟨rfl, rfl⟩
      go_wp2
      go_ret
      exact ⟨ret_int Hn.out.symm, rfl⟩
  · have Hn : Hid (chan p k = -1) := chan_no fun h => hp h.1
    have Hp := Lib.hid hp
    clear hp
    go_enter Try.func22, Try.ntmps22
    go_wp2_with fail
    refine (pixS_no p Hp.out _).mono ?_
    rintro e w' ⟨rfl, rfl⟩
    go_wp2
    go_ret
    exact ⟨ret_int Hn.out.symm, rfl⟩
theorem mk_yes {a r g b : Int} (ha : chOk a) (hr : chOk r) (hg : chOk g) (hb : chOk b) : mkPix a r g b = pack4 a r g b := if_pos ⟨ha, hr, hg, hb⟩
theorem mkS_in (a r g b : Int) (ha : chOk a) (hr : chOk r) (hg : chOk g) (hb : chOk b) (w : World) :
    Calls Try.prog 100 #[.int .i64 a, .int .i64 r, .int .i64 g, .int .i64 b] w fun e w' => e = .returned (.int .i64 (mkPix a r g b)) ∧ w = w' := by
  have Hn : Hid (mkPix a r g b = pack4 a r g b) := mk_yes ha hr hg hb
  obtain ⟨a0, a1⟩ := ha
  obtain ⟨r0, r1⟩ := hr
  obtain ⟨g0, g1⟩ := hg
  obtain ⟨b0, b1⟩ := hb
  go_enter Try.func100, Try.ntmps100
  go_wp2_with fail
  refine (inS_yes _ 0 255 _ (by omega) (by omega)).mono ?_
  rintro e w' ⟨rfl, rfl⟩
  go_wp2_with fail
  refine (inS_yes _ 0 255 _ (by omega) (by omega)).mono ?_
  rintro e w' ⟨rfl, rfl⟩
  go_wp2_with fail
  refine (inS_yes _ 0 255 _ (by omega) (by omega)).mono ?_
  rintro e w' ⟨rfl, rfl⟩
  go_wp2_with fail
  refine (inS_yes _ 0 255 _ (by omega) (by omega)).mono ?_
  rintro e w' ⟨rfl, rfl⟩
  go_wp2
  go_ret
  exact ⟨ret_int (Hn.out.trans rfl).symm, rfl⟩
end Go.Proofs.Ytaggldhlnjbnhaa
