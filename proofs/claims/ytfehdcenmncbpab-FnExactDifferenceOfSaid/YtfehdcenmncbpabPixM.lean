/- Plain mathematics of pixels: their channels, parts, one over another; and of the bit operations that pack them. No statement is proved here. -/
import Derived.Test.YtfehdcenmncbpabProg
import Derived.WalkKit
import Derived.ProofKit
import Derived.OpenShut
import Derived.WalkLawsBesides
import Derived.WalkSpells
import Derived.ShutString
import Derived.ChangeOld
import Derived.Below
import Derived.Lib.Hide
import Derived.Laws.BitsAllLaws
import Derived.Lib.QuoteBits
namespace Go.Proofs.Ytfehdcenmncbpab
open Go.RowKit
/-- Whether a number is a pixel; a channel. -/
def pixOk (p : Int) : Prop := 0 ≤ p ∧ p ≤ 4294967295
def chOk (a : Int) : Prop := 0 ≤ a ∧ a ≤ 255
instance (p : Int) : Decidable (pixOk p) := by unfold pixOk; infer_instance
instance (p : Int) : Decidable (chOk p) := by unfold chOk; infer_instance
def pack4 (a r g b : Int) : Int := a * 16777216 + r * 65536 + g * 256 + b
theorem pack_ok {a r g b : Int} (ha : chOk a) (hr : chOk r) (hg : chOk g) (hb : chOk b) : pixOk (pack4 a r g b) := by
  unfold chOk pixOk pack4 at *; omega
/-- What MakePixel answers. -/
def mkPix (a r g b : Int) : Int := if chOk a ∧ chOk r ∧ chOk g ∧ chOk b then pack4 a r g b else -1
end Go.Proofs.Ytfehdcenmncbpab
