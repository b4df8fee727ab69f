/- Plain mathematics of blending: a pixel of full alpha hides what is below it, one of alpha 0 shows it. No statement is proved here. -/
import Derived.Test.YtfehdcenmncbpaaPixM
import Derived.Test.YtfehdcenmncbpaaOverS
import Derived.Test.YtfehdcenmncbpaaProg
import Derived.WalkKit
import Derived.ProofKit
import Derived.OpenShut
import Derived.WalkLawsBesides
import Derived.WalkSpells
import Derived.ShutString
import Derived.ChangeOld
import Derived.Below
import Derived.Lib.Hide
import Derived.Laws.BitsAllLaws
import Derived.Lib.QuoteBits
import Derived.Deep.RegionHeld3
import Derived.BigQuiet
import Derived.Deep.QuietTactic
import Derived.Maps.AppendAt
import Derived.Deep.OwnRows
import Derived.Handy
namespace Go.Proofs.Ytfehdcenmncbpaa
open Go.RowKit
theorem mix_255 {x y : Int} : mixC x y 255 = x := by
  unfold mixC pxPart
  rw [show (255 : Int) - 255 = 0 from rfl, Int.mul_zero]
  omega
theorem mix_0 {x y : Int} : mixC x y 0 = y := by
  unfold mixC pxPart
  rw [show (255 : Int) - 0 = 255 from rfl, Int.mul_zero]
  omega
theorem part_255 {x : Int} : pxPart x 255 = x := by unfold pxPart; omega
theorem part_0 (x : Int) : pxPart x 0 = 0 := by unfold pxPart; rw [Int.mul_zero]; rfl
theorem over_op {x y z q : Int} (hx : chOk x) (hy : chOk y) (hz : chOk z) (hq : pixOk q) : over (pack4 255 x y z) q = pack4 255 x y z := by
  rw [over_yes (pack_ok ch_255 hx hy hz) hq, overK, pack_0 hx hy hz, pack_1 hx hy hz, pack_2 hy hz, pack_3 hz, mix_255, mix_255, mix_255]
theorem ch_zero : chOk 0 := ⟨by omega, by omega⟩
theorem over_cl {a b c x y z : Int} (ha : chOk a) (hb : chOk b) (hc : chOk c) (hx : chOk x) (hy : chOk y) (hz : chOk z) : over (pack4 0 a b c) (pack4 255 x y z) = pack4 255 x y z := by
  rw [over_yes (pack_ok ch_zero ha hb hc) (pack_ok ch_255 hx hy hz), overK, pack_0 ha hb hc, pack_1 hx hy hz, pack_2 hy hz, pack_3 hz, mix_0, mix_0, mix_0]
theorem fade_0 {p : Int} (hp : pixOk p) : fade p 0 = pack4 0 (p / 65536 % 256) (p / 256 % 256) (p % 256) := by
  have h : fade p 0 = fadeK p 0 := if_pos ⟨hp, ch_zero⟩
  rw [h, fadeK, part_0]
theorem fade_255 {p : Int} (hp : pixOk p) : fade p 255 = p := by
  have h : fade p 255 = fadeK p 255 := if_pos ⟨hp, ch_255⟩
  rw [h, fadeK, part_255, pack_un]
theorem min_le' {a b : Int} : min a b ≤ a ∧ min a b ≤ b ∧ a ≤ max a b ∧ b ≤ max a b := by omega
end Go.Proofs.Ytfehdcenmncbpaa
