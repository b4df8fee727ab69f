/- The contracts of impl.packed, impl.unpacked, impl.ChannelOf. No statement is proved here. -/
import Derived.Test.YtaggldhlnjbnhaaPixM
import Derived.Test.YtaggldhlnjbnhaaProg
import Derived.WalkKit
import Derived.ProofKit
import Derived.OpenShut
import Derived.WalkLawsBesides
import Derived.WalkSpells
import Derived.ShutString
import Derived.ChangeOld
import Derived.Below
import Derived.Lib.Hide
import Derived.Laws.BitsAllLaws
import Derived.Lib.QuoteBits
namespace Go.Proofs.Ytaggldhlnjbnhaa
open Go.RowKit
theorem packedI (a r g b : Int) (ha : chOk a) (hr : chOk r) (hg : chOk g) (hb : chOk b) (w : World) :
    Calls Try.prog 91 #[.agg #[.int .i64 a, .int .i64 r, .int .i64 g, .int .i64 b]] w fun e w' => e = .returned (.int .i64 (pack4 a r g b)) ∧ Below w.heap.size w w' := by
  have hp := packed_bits a r g b ha hr hg hb
  obtain ⟨a0, a1⟩ := ha
  obtain ⟨r0, r1⟩ := hr
  obtain ⟨g0, g1⟩ := hg
  obtain ⟨b0, b1⟩ := hb
  go_enter Try.func91, Try.ntmps91
  go_wp2
  go_ret
  exact ⟨rfl, (Below.refl _ _).alloc (Nat.le_refl _) _⟩
theorem unpackedI (p : Int) (h : pixOk p) (w : World) :
    Calls Try.prog 62 #[.int .i64 p] w
      fun e w' => e = .returned (.agg #[.int .i64 (p / 16777216), .int .i64 (p / 65536 % 256), .int .i64 (p / 256 % 256), .int .i64 (p % 256)]) ∧ Below w.heap.size w w' := by
  obtain ⟨p0, p1⟩ := h
  have e1 : bits .and .i64 (p / 65536) 255 = p / 65536 % 256 := and255 _ (by omega) (by omega)
  have e2 : bits .and .i64 (p / 256) 255 = p / 256 % 256 := and255 _ (by omega) (by omega)
  have e3 : bits .and .i64 p 255 = p % 256 := and255 _ (by omega) (by omega)
  go_enter Try.func62, Try.ntmps62
  go_wp2
  exact bodyPost_ret (v := .agg #[.int .i64 (p / 16777216), .int .i64 (p / 65536 % 256), .int .i64 (p / 256 % 256), .int .i64 (p % 256)]) (by simp [results, Try.results62, go_sem]) rfl ⟨rfl, by
      repeat first | exact Below.refl _ _ | refine Below.setCell ?_ (by first | (simp; done) | (simp; omega)) _ | refine Below.alloc ?_ (by first | (simp; done) | (simp; omega)) _⟩
end Go.Proofs.Ytaggldhlnjbnhaa
