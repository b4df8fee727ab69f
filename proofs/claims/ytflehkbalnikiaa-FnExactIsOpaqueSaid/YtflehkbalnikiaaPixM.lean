/- Plain mathematics of pixels: their channels, parts, one over another; and of the bit operations that pack them. No statement is proved here. -/
import Derived.Test.YtflehkbalnikiaaProg
import Derived.WalkKit
import Derived.ProofKit
import Derived.OpenShut
import Derived.WalkLawsBesides
import Derived.WalkSpells
import Derived.ShutString
import Derived.ChangeOld
import Derived.Below
import Derived.Lib.Hide
import Derived.Laws.BitsAllLaws
import Derived.Lib.QuoteBits
namespace Go.Proofs.Ytflehkbalnikiaa
open Go.RowKit
theorem and255 (x : Int) (h0 : 0 ≤ x) (h1 : x ≤ 9223372036854775807) : bits .and .i64 x 255 = x % 256 := by
  obtain ⟨n, rfl⟩ := Int.eq_ofNat_of_zero_le h0
  show IntKind.i64.wrap ((BitVec.ofInt 64 (n : Int) &&& BitVec.ofInt 64 ((255 : Nat) : Int)).toNat : Int) = _
  rw [BitVec.toNat_and, ofInt_u64 n (by omega), ofInt_u64 255 (by omega), nat_mask8]
  exact Go.Lib.wrap_i64_small _ (by omega)
theorem and24 (x : Int) (h0 : 0 ≤ x) (h1 : x ≤ 9223372036854775807) : bits .and .i64 x 16777215 = x % 16777216 := by
  obtain ⟨n, rfl⟩ := Int.eq_ofNat_of_zero_le h0
  show IntKind.i64.wrap ((BitVec.ofInt 64 (n : Int) &&& BitVec.ofInt 64 ((16777215 : Nat) : Int)).toNat : Int) = _
  rw [BitVec.toNat_and, ofInt_u64 n (by omega), ofInt_u64 16777215 (by omega), nat_mask24]
  exact Go.Lib.wrap_i64_small _ (by omega)
theorem or_join (m : Nat) (x y : Int) (h0 : 0 ≤ x) (h1 : x ≤ 4294967295) (hx : x % (2 ^ m : Nat) = 0) (h2 : 0 ≤ y) (h3 : y < (2 ^ m : Nat)) (hm : (2 ^ m : Nat) ≤ 16777216) : bits .or .i64 x y = x + y := by
  obtain ⟨a, rfl⟩ := Int.eq_ofNat_of_zero_le h0
  obtain ⟨b, rfl⟩ := Int.eq_ofNat_of_zero_le h2
  show IntKind.i64.wrap ((BitVec.ofInt 64 (a : Int) ||| BitVec.ofInt 64 (b : Int)).toNat : Int) = _
  rw [BitVec.toNat_or, ofInt_u64 a (by omega), ofInt_u64 b (by omega), nat_join m a b (by exact_mod_cast hx) (by exact_mod_cast h3)]
  exact Go.Lib.wrap_i64_small _ (by omega)
/-- Whether a number is a pixel; a channel. -/
def pixOk (p : Int) : Prop := 0 ≤ p ∧ p ≤ 4294967295
def chOk (a : Int) : Prop := 0 ≤ a ∧ a ≤ 255
instance (p : Int) : Decidable (pixOk p) := by unfold pixOk; infer_instance
instance (p : Int) : Decidable (chOk p) := by unfold chOk; infer_instance
def pack4 (a r g b : Int) : Int := a * 16777216 + r * 65536 + g * 256 + b
theorem packed_bits (a r g b : Int) (ha : chOk a) (hr : chOk r) (hg : chOk g) (hb : chOk b) :
    bits .or .i64 (bits .or .i64 (bits .or .i64 (a * 16777216) (r * 65536)) (g * 256)) b = pack4 a r g b := by
  unfold chOk at *
  rw [or_join 24 (a * 16777216) (r * 65536) (by omega) (by omega) (by omega) (by omega) (by omega) (by omega),
    or_join 16 (a * 16777216 + r * 65536) (g * 256) (by omega) (by omega) (by omega) (by omega) (by omega) (by omega),
    or_join 8 (a * 16777216 + r * 65536 + g * 256) b (by omega) (by omega) (by omega) (by omega) (by omega) (by omega)]
  rfl
theorem ch_0 {p : Int} (h : pixOk p) : chOk (p / 16777216) := by unfold pixOk at h; unfold chOk; omega
theorem ch_1 (p : Int) : chOk (p / 65536 % 256) := by unfold chOk; omega
theorem ch_2 (p : Int) : chOk (p / 256 % 256) := by unfold chOk; omega
theorem ch_3 (p : Int) : chOk (p % 256) := by unfold chOk; omega
/-- A channel of a pixel. -/
def chanK (p k : Int) : Int := if k = 0 then p / 16777216 else if k = 1 then p / 65536 % 256 else if k = 2 then p / 256 % 256 else p % 256
/-- What ChannelOf answers. -/
def chan (p k : Int) : Int := if pixOk p ∧ 0 ≤ k ∧ k ≤ 3 then chanK p k else -1
/-- What Part answers, of two that are in the range. -/
def pxPart (a b : Int) : Int := (a * b + 127) / 255
theorem mul_bd {a b : Int} (ha : chOk a) (hb : chOk b) : 0 ≤ a * b ∧ a * b ≤ 65025 := by
  unfold chOk at *
  refine ⟨Int.mul_nonneg ha.1 hb.1, ?_⟩
  have := Int.mul_le_mul ha.2 hb.2 hb.1 (by omega)
  omega
theorem part_ok {a b : Int} (ha : chOk a) (hb : chOk b) : chOk (pxPart a b) := by
  have h := mul_bd ha hb
  unfold chOk pxPart
  omega
/-- What Fade answers. -/
def fadeK (p al : Int) : Int := pack4 (pxPart (p / 16777216) al) (p / 65536 % 256) (p / 256 % 256) (p % 256)
def fade (p al : Int) : Int := if pixOk p ∧ chOk al then fadeK p al else -1
end Go.Proofs.Ytflehkbalnikiaa
