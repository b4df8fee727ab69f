/- The contracts of spec.ChannelOf, spec.MakePixel, spec.Over, spec.Fade. No statement is proved here. -/
import Derived.Test.YtnhalmfljefliaaMA
namespace Go.Proofs.Ytnhalmfljefliaa
open Go.RowKit

theorem chan_no {p k : Int} (h : ¬ (pixOk p ∧ 0 ≤ k ∧ k ≤ 3)) : chan p k = -1 := if_neg h
theorem chan_0 {p : Int} (h : pixOk p) : chan p 0 = p / 16777216 := by unfold chan; rw [if_pos ⟨h, by omega, by omega⟩]; rfl
theorem chan_1 {p : Int} (h : pixOk p) : chan p 1 = p / 65536 % 256 := by unfold chan; rw [if_pos ⟨h, by omega, by omega⟩]; rfl
theorem chan_2 {p : Int} (h : pixOk p) : chan p 2 = p / 256 % 256 := by unfold chan; rw [if_pos ⟨h, by omega, by omega⟩]; rfl
theorem chan_3 {p : Int} (h : pixOk p) : chan p 3 = p % 256 := by unfold chan; rw [if_pos ⟨h, by omega, by omega⟩]; rfl
theorem mk_yes {a r g b : Int} (ha : chOk a) (hr : chOk r) (hg : chOk g) (hb : chOk b) : mkPix a r g b = pack4 a r g b := if_pos ⟨ha, hr, hg, hb⟩
theorem mk_no {a r g b : Int} (h : ¬ (chOk a ∧ chOk r ∧ chOk g ∧ chOk b)) : mkPix a r g b = -1 := if_neg h

theorem mkS_in (a r g b : Int) (ha : chOk a) (hr : chOk r) (hg : chOk g) (hb : chOk b) (w : World) :
    Calls Try.prog 103 #[.int .i64 a, .int .i64 r, .int .i64 g, .int .i64 b] w fun e w' => e = .returned (.int .i64 (mkPix a r g b)) ∧ w = w' := by
  have Hn : Hid (mkPix a r g b = pack4 a r g b) := mk_yes ha hr hg hb
  obtain ⟨a0, a1⟩ := ha
  obtain ⟨r0, r1⟩ := hr
  obtain ⟨g0, g1⟩ := hg
  obtain ⟨b0, b1⟩ := hb
  go_enter Try.func103, Try.ntmps103
  go_wp2_with fail
  refine (inS_yes _ 0 255 _ (by omega) (by omega)).mono ?_
  rintro e w' ⟨rfl, rfl⟩
  go_wp2_with fail
  refine (inS_yes _ 0 255 _ (by omega) (by omega)).mono ?_
  rintro e w' ⟨rfl, rfl⟩
  go_wp2_with fail
  refine (inS_yes _ 0 255 _ (by omega) (by omega)).mono ?_
  rintro e w' ⟨rfl, rfl⟩
  go_wp2_with fail
  refine (inS_yes _ 0 255 _ (by omega) (by omega)).mono ?_
  rintro e w' ⟨rfl, rfl⟩
  go_wp2
  go_ret
  exact ⟨ret_int (Hn.out.trans rfl).symm, rfl⟩
theorem mkS_any (a r g b : Int) (w : World) :
    Calls Try.prog 103 #[.int .i64 a, .int .i64 r, .int .i64 g, .int .i64 b] w fun e w' => e = .returned (.int .i64 (mkPix a r g b)) ∧ w = w' := by
  by_cases ha : chOk a
  · by_cases hr : chOk r
    · by_cases hg : chOk g
      · by_cases hb : chOk b
        · exact mkS_in a r g b ha hr hg hb w
        · have Hn : Hid (mkPix a r g b = -1) := mk_no fun h => hb h.2.2.2
          have Ha := Lib.hid ha
          have Hr := Lib.hid hr
          have Hg := Lib.hid hg
          have Hb := Lib.hid hb
          clear ha hr hg hb
          go_enter Try.func103, Try.ntmps103
          go_wp2_with fail
          refine (inS_yes _ 0 255 _ Ha.out.1 Ha.out.2).mono ?_
          rintro e w' ⟨rfl, rfl⟩
          go_wp2_with fail
          refine (inS_yes _ 0 255 _ Hr.out.1 Hr.out.2).mono ?_
          rintro e w' ⟨rfl, rfl⟩
          go_wp2_with fail
          refine (inS_yes _ 0 255 _ Hg.out.1 Hg.out.2).mono ?_
          rintro e w' ⟨rfl, rfl⟩
          go_wp2_with fail
          refine (inS_no _ 0 255 _ (ch_no Hb.out)).mono ?_
          rintro e w' ⟨rfl, rfl⟩
          go_wp2
          go_ret
          exact ⟨ret_int Hn.out.symm, rfl⟩
      · have Hn : Hid (mkPix a r g b = -1) := mk_no fun h => hg h.2.2.1
        have Ha := Lib.hid ha
        have Hr := Lib.hid hr
        have Hg := Lib.hid hg
        clear ha hr hg
        go_enter Try.func103, Try.ntmps103
        go_wp2_with fail
        refine (inS_yes _ 0 255 _ Ha.out.1 Ha.out.2).mono ?_
        rintro e w' ⟨rfl, rfl⟩
        go_wp2_with fail
        refine (inS_yes _ 0 255 _ Hr.out.1 Hr.out.2).mono ?_
        rintro e w' ⟨rfl, rfl⟩
        go_wp2_with fail
        refine (inS_no _ 0 255 _ (ch_no Hg.out)).mono ?_
        rintro e w' ⟨rfl, rfl⟩
        go_wp2
        go_ret
        exact ⟨ret_int Hn.out.symm, rfl⟩
    · have Hn : Hid (mkPix a r g b = -1) := mk_no fun h => hr h.2.1
      have Ha := Lib.hid ha
      have Hr := Lib.hid hr
      clear ha hr
      go_enter Try.func103, Try.ntmps103
      go_wp2_with fail
      refine (inS_yes _ 0 255 _ Ha.out.1 Ha.out.2).mono ?_
      rintro e w' ⟨rfl, rfl⟩
      go_wp2_with fail
      refine (inS_no _ 0 255 _ (ch_no Hr.out)).mono ?_
      rintro e w' ⟨rfl, rfl⟩
      go_wp2
      go_ret
      exact ⟨ret_int Hn.out.symm, rfl⟩
  · have Hn : Hid (mkPix a r g b = -1) := mk_no fun h => ha h.1
    have Ha := Lib.hid ha
    clear ha
    go_enter Try.func103, Try.ntmps103
    go_wp2_with fail
    refine (inS_no _ 0 255 _ (ch_no Ha.out)).mono ?_
    rintro e w' ⟨rfl, rfl⟩
    go_wp2
    go_ret
    exact ⟨ret_int Hn.out.symm, rfl⟩
end Go.Proofs.Ytnhalmfljefliaa
