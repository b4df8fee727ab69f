/- Plain mathematics of pixels: their channels, parts, one over another; and of the bit operations that pack them. No statement is proved here. -/
import Derived.Test.YtfehdcenmncbpaaProg
import Derived.WalkKit
import Derived.ProofKit
import Derived.OpenShut
import Derived.WalkLawsBesides
import Derived.WalkSpells
import Derived.ShutString
import Derived.ChangeOld
import Derived.Below
import Derived.Lib.Hide
import Derived.Laws.BitsAllLaws
import Derived.Lib.QuoteBits
namespace Go.Proofs.Ytfehdcenmncbpaa
open Go.RowKit
theorem and255 (x : Int) (h0 : 0 ≤ x) (h1 : x ≤ 9223372036854775807) : bits .and .i64 x 255 = x % 256 := by
  obtain ⟨n, rfl⟩ := Int.eq_ofNat_of_zero_le h0
  show IntKind.i64.wrap ((BitVec.ofInt 64 (n : Int) &&& BitVec.ofInt 64 ((255 : Nat) : Int)).toNat : Int) = _
  rw [BitVec.toNat_and, ofInt_u64 n (by omega), ofInt_u64 255 (by omega), nat_mask8]
  exact Go.Lib.wrap_i64_small _ (by omega)
theorem or_join (m : Nat) (x y : Int) (h0 : 0 ≤ x) (h1 : x ≤ 4294967295) (hx : x % (2 ^ m : Nat) = 0) (h2 : 0 ≤ y) (h3 : y < (2 ^ m : Nat)) (hm : (2 ^ m : Nat) ≤ 16777216) : bits .or .i64 x y = x + y := by
  obtain ⟨a, rfl⟩ := Int.eq_ofNat_of_zero_le h0
  obtain ⟨b, rfl⟩ := Int.eq_ofNat_of_zero_le h2
  show IntKind.i64.wrap ((BitVec.ofInt 64 (a : Int) ||| BitVec.ofInt 64 (b : Int)).toNat : Int) = _
  rw [BitVec.toNat_or, ofInt_u64 a (by omega), ofInt_u64 b (by omega), nat_join m a b (by exact_mod_cast hx) (by exact_mod_cast h3)]
  exact Go.Lib.wrap_i64_small _ (by omega)
/-- Whether a number is a pixel; a channel. -/
def pixOk (p : Int) : Prop := 0 ≤ p ∧ p ≤ 4294967295
def chOk (a : Int) : Prop := 0 ≤ a ∧ a ≤ 255
instance (p : Int) : Decidable (pixOk p) := by unfold pixOk; infer_instance
instance (p : Int) : Decidable (chOk p) := by unfold chOk; infer_instance
def pack4 (a r g b : Int) : Int := a * 16777216 + r * 65536 + g * 256 + b
theorem packed_bits (a r g b : Int) (ha : chOk a) (hr : chOk r) (hg : chOk g) (hb : chOk b) :
    bits .or .i64 (bits .or .i64 (bits .or .i64 (a * 16777216) (r * 65536)) (g * 256)) b = pack4 a r g b := by
  unfold chOk at *
  rw [or_join 24 (a * 16777216) (r * 65536) (by omega) (by omega) (by omega) (by omega) (by omega) (by omega),
    or_join 16 (a * 16777216 + r * 65536) (g * 256) (by omega) (by omega) (by omega) (by omega) (by omega) (by omega),
    or_join 8 (a * 16777216 + r * 65536 + g * 256) b (by omega) (by omega) (by omega) (by omega) (by omega) (by omega)]
  rfl
theorem pack_ok {a r g b : Int} (ha : chOk a) (hr : chOk r) (hg : chOk g) (hb : chOk b) : pixOk (pack4 a r g b) := by
  unfold chOk pixOk pack4 at *; omega
theorem pack_0 {a r g b : Int} (hr : chOk r) (hg : chOk g) (hb : chOk b) : pack4 a r g b / 16777216 = a := by
  unfold chOk pack4 at *; omega
theorem pack_1 {a r g b : Int} (hr : chOk r) (hg : chOk g) (hb : chOk b) : pack4 a r g b / 65536 % 256 = r := by
  unfold chOk pack4 at *; omega
theorem pack_2 {a r g b : Int} (hg : chOk g) (hb : chOk b) : pack4 a r g b / 256 % 256 = g := by
  unfold chOk pack4 at *; omega
theorem pack_3 {a r g b : Int} (hb : chOk b) : pack4 a r g b % 256 = b := by
  unfold chOk pack4 at *; omega
theorem pack_un {p : Int} : pack4 (p / 16777216) (p / 65536 % 256) (p / 256 % 256) (p % 256) = p := by
  unfold pack4; omega
theorem ch_0 {p : Int} (h : pixOk p) : chOk (p / 16777216) := by unfold pixOk at h; unfold chOk; omega
theorem ch_1 (p : Int) : chOk (p / 65536 % 256) := by unfold chOk; omega
theorem ch_2 (p : Int) : chOk (p / 256 % 256) := by unfold chOk; omega
theorem ch_3 (p : Int) : chOk (p % 256) := by unfold chOk; omega
/-- What MakePixel answers. -/
def mkPix (a r g b : Int) : Int := if chOk a ∧ chOk r ∧ chOk g ∧ chOk b then pack4 a r g b else -1
/-- A channel of a pixel. -/
def chanK (p k : Int) : Int := if k = 0 then p / 16777216 else if k = 1 then p / 65536 % 256 else if k = 2 then p / 256 % 256 else p % 256
/-- What ChannelOf answers. -/
def chan (p k : Int) : Int := if pixOk p ∧ 0 ≤ k ∧ k ≤ 3 then chanK p k else -1
/-- What Part answers, of two that are in the range. -/
def pxPart (a b : Int) : Int := (a * b + 127) / 255
theorem mul_bd {a b : Int} (ha : chOk a) (hb : chOk b) : 0 ≤ a * b ∧ a * b ≤ 65025 := by
  unfold chOk at *
  refine ⟨Int.mul_nonneg ha.1 hb.1, ?_⟩
  have := Int.mul_le_mul ha.2 hb.2 hb.1 (by omega)
  omega
theorem part_ok {a b : Int} (ha : chOk a) (hb : chOk b) : chOk (pxPart a b) := by
  have h := mul_bd ha hb
  unfold chOk pxPart
  omega
/-- One channel of x over y at alpha al. -/
def mixC (x y al : Int) : Int := pxPart x al + pxPart y (255 - al)
theorem mix_bd {x y al lo hi : Int} (_ : chOk x) (_ : chOk y) (ha : chOk al) (h1 : lo ≤ x) (h2 : lo ≤ y) (h3 : x ≤ hi) (h4 : y ≤ hi) : lo ≤ mixC x y al ∧ mixC x y al ≤ hi := by
  unfold chOk at *
  have e1 : lo * al ≤ x * al := Int.mul_le_mul_of_nonneg_right h1 ha.1
  have e2 : x * al ≤ hi * al := Int.mul_le_mul_of_nonneg_right h3 ha.1
  have e3 : lo * (255 - al) ≤ y * (255 - al) := Int.mul_le_mul_of_nonneg_right h2 (by omega)
  have e4 : y * (255 - al) ≤ hi * (255 - al) := Int.mul_le_mul_of_nonneg_right h4 (by omega)
  have e5 : lo * (255 - al) = lo * 255 - lo * al := Int.mul_sub _ _ _
  have e6 : hi * (255 - al) = hi * 255 - hi * al := Int.mul_sub _ _ _
  rw [e5] at e3
  rw [e6] at e4
  unfold mixC pxPart
  generalize x * al = A at *
  generalize y * (255 - al) = B at *
  generalize lo * al = C at *
  generalize hi * al = D at *
  omega
theorem mix_ok {x y al : Int} (hx : chOk x) (hy : chOk y) (ha : chOk al) : chOk (mixC x y al) :=
  mix_bd hx hy ha hx.1 hy.1 hx.2 hy.2
/-- What Over answers, of two pixels. -/
def overK (p q : Int) : Int := pack4 255 (mixC (p / 65536 % 256) (q / 65536 % 256) (p / 16777216)) (mixC (p / 256 % 256) (q / 256 % 256) (p / 16777216)) (mixC (p % 256) (q % 256) (p / 16777216))
def over (p q : Int) : Int := if pixOk p ∧ pixOk q then overK p q else -1
theorem ch_255 : chOk 255 := ⟨by omega, by omega⟩
theorem overK_ok {p : Int} (h : pixOk p) (q : Int) : pixOk (overK p q) :=
  pack_ok ch_255 (mix_ok (ch_1 p) (ch_1 q) (ch_0 h)) (mix_ok (ch_2 p) (ch_2 q) (ch_0 h)) (mix_ok (ch_3 p) (ch_3 q) (ch_0 h))
/-- What Fade answers. -/
def fadeK (p al : Int) : Int := pack4 (pxPart (p / 16777216) al) (p / 65536 % 256) (p / 256 % 256) (p % 256)
def fade (p al : Int) : Int := if pixOk p ∧ chOk al then fadeK p al else -1
/-- What Blend answers. -/
def blend (L : List Int) (q : Int) : Int := if pixOk q then L.foldl (fun o p => over p o) q else -1
end Go.Proofs.Ytfehdcenmncbpaa
