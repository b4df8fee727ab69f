/- The contracts of impl.packed, impl.unpacked, impl.ChannelOf. No statement is proved here. -/
import Derived.Test.YtflehkbalnikiaaMA
import Derived.Test.YtflehkbalnikiaaPixM
import Derived.Test.YtflehkbalnikiaaPixC
import Derived.Test.YtflehkbalnikiaaPixS
import Derived.Test.YtflehkbalnikiaaProg
import Derived.WalkKit
import Derived.ProofKit
import Derived.OpenShut
import Derived.WalkLawsBesides
import Derived.WalkSpells
import Derived.ShutString
import Derived.ChangeOld
import Derived.Below
import Derived.Lib.Hide
import Derived.Laws.BitsAllLaws
import Derived.Lib.QuoteBits
namespace Go.Proofs.Ytflehkbalnikiaa
open Go.RowKit
theorem packedI (a r g b : Int) (ha : chOk a) (hr : chOk r) (hg : chOk g) (hb : chOk b) (w : World) :
    Calls Try.prog 114 #[.agg #[.int .i64 a, .int .i64 r, .int .i64 g, .int .i64 b]] w fun e w' => e = .returned (.int .i64 (pack4 a r g b)) ∧ Below w.heap.size w w' := by
  have hp := packed_bits a r g b ha hr hg hb
  obtain ⟨a0, a1⟩ := ha
  obtain ⟨r0, r1⟩ := hr
  obtain ⟨g0, g1⟩ := hg
  obtain ⟨b0, b1⟩ := hb
  go_enter Try.func114, Try.ntmps114
  go_wp2
  go_ret
  exact ⟨rfl, (Below.refl _ _).alloc (Nat.le_refl _) _⟩
theorem unpackedI (p : Int) (h : pixOk p) (w : World) :
    Calls Try.prog 112 #[.int .i64 p] w
      fun e w' => e = .returned (.agg #[.int .i64 (p / 16777216), .int .i64 (p / 65536 % 256), .int .i64 (p / 256 % 256), .int .i64 (p % 256)]) ∧ Below w.heap.size w w' := by
  obtain ⟨p0, p1⟩ := h
  have e1 : bits .and .i64 (p / 65536) 255 = p / 65536 % 256 := and255 _ (by omega) (by omega)
  have e2 : bits .and .i64 (p / 256) 255 = p / 256 % 256 := and255 _ (by omega) (by omega)
  have e3 : bits .and .i64 p 255 = p % 256 := and255 _ (by omega) (by omega)
  go_enter Try.func112, Try.ntmps112
  go_wp2
  exact bodyPost_ret (v := .agg #[.int .i64 (p / 16777216), .int .i64 (p / 65536 % 256), .int .i64 (p / 256 % 256), .int .i64 (p % 256)]) (by simp [results, Try.results112, go_sem]) rfl ⟨rfl, by
      repeat first | exact Below.refl _ _ | refine Below.setCell ?_ (by first | (simp; done) | (simp; omega)) _ | refine Below.alloc ?_ (by first | (simp; done) | (simp; omega)) _⟩
theorem ix0 (a b c d : Value) (W : World) : (Instr.index 134 (.agg #[a, b, c, d]) (.int .i64 0)).run Try.prog W = .ok a W := by kernel_rfl
theorem ix1 (a b c d : Value) (W : World) : (Instr.index 134 (.agg #[a, b, c, d]) (.int .i64 1)).run Try.prog W = .ok b W := by kernel_rfl
theorem ix2 (a b c d : Value) (W : World) : (Instr.index 134 (.agg #[a, b, c, d]) (.int .i64 2)).run Try.prog W = .ok c W := by kernel_rfl
theorem ix3 (a b c d : Value) (W : World) : (Instr.index 134 (.agg #[a, b, c, d]) (.int .i64 3)).run Try.prog W = .ok d W := by kernel_rfl
theorem chI_in (p k : Int) (h : pixOk p) (h0 : 0 ≤ k) (h1 : k ≤ 3) (w : World) :
    Calls Try.prog 96 #[.int .i64 p, .int .i64 k] w fun e w' => e = .returned (.int .i64 (chan p k)) ∧ Below w.heap.size w w' := by
  have H := Lib.hid h
  clear h
  obtain rfl | rfl | rfl | rfl : k = 0 ∨ k = 1 ∨ k = 2 ∨ k = 3 := by omega
  all_goals
    go_enter Try.func96, Try.ntmps96
    go_wp2_with fail
    refine (pixI_yes p H.out _).mono ?_
    rintro e w' ⟨rfl, rfl⟩
    go_wp2_with fail
    refine (inI_yes _ 0 3 _ (by omega) (by omega)).mono ?_
    rintro e w' ⟨rfl, rfl⟩
    go_wp2_with fail
    refine (unpackedI p H.out _).mono ?_
    rintro e w' ⟨rfl, hb⟩
    have x0 := ix0
    have x1 := ix1
    have x2 := ix2
    have x3 := ix3
    go_wp2
    go_ret
  · exact ⟨ret_int (chan_0 H.out).symm, hb⟩
  · exact ⟨ret_int (chan_1 H.out).symm, hb⟩
  · exact ⟨ret_int (chan_2 H.out).symm, hb⟩
  · exact ⟨ret_int (chan_3 H.out).symm, hb⟩
theorem chI_any (p k : Int) (w : World) :
    Calls Try.prog 96 #[.int .i64 p, .int .i64 k] w fun e w' => e = .returned (.int .i64 (chan p k)) ∧ Below w.heap.size w w' := by
  by_cases hp : pixOk p
  · by_cases hk : 0 ≤ k ∧ k ≤ 3
    · exact chI_in p k hp hk.1 hk.2 w
    · have Hn : Hid (chan p k = -1) := chan_no fun h => hk h.2
      have Hp := Lib.hid hp
      have hk' : k < 0 ∨ 3 < k := by omega
      have Hk := Lib.hid hk'
      clear hk hk' hp
      go_enter Try.func96, Try.ntmps96
      go_wp2_with fail
      refine (pixI_yes p Hp.out _).mono ?_
      rintro e w' ⟨rfl, rfl⟩
      go_wp2_with fail
      refine (inI_no _ 0 3 _ Hk.out).mono ?_
      rintro e w' ⟨rfl, rfl⟩
      go_wp2
      go_ret
      exact ⟨ret_int Hn.out.symm, Below.refl _ _⟩
  · have Hn : Hid (chan p k = -1) := chan_no fun h => hp h.1
    have Hp := Lib.hid hp
    clear hp
    go_enter Try.func96, Try.ntmps96
    go_wp2_with fail
    refine (pixI_no p Hp.out _).mono ?_
    rintro e w' ⟨rfl, rfl⟩
    go_wp2
    go_ret
    exact ⟨ret_int Hn.out.symm, Below.refl _ _⟩
end Go.Proofs.Ytflehkbalnikiaa
