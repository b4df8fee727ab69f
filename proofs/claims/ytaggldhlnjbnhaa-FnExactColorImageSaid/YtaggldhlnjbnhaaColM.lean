/- Plain mathematics of color maps: what the matrix mixes, what the curve gives, the identity, and that an ascending curve keeps the order. No statement is proved here. -/
import Derived.Test.YtaggldhlnjbnhaaPixM
import Derived.Test.YtaggldhlnjbnhaaAllR
import Derived.Test.YtaggldhlnjbnhaaImO
import Derived.Test.YtaggldhlnjbnhaaImN
import Derived.Test.YtaggldhlnjbnhaaProg
import Derived.WalkKit
import Derived.ProofKit
import Derived.OpenShut
import Derived.WalkLawsBesides
import Derived.WalkSpells
import Derived.ShutString
import Derived.ChangeOld
import Derived.Below
import Derived.Lib.Hide
import Derived.BigQuiet
import Derived.Deep.QuietTactic
import Derived.Maps.AppendAt
import Derived.Deep.OwnRows
import Derived.Handy
import Derived.Deep.Draws
import Derived.OwnWalk
import Derived.Deep.AppendLies
import Derived.Deep.LoopGhost
import Derived.Deep.Onto
import Derived.Laws.BitsAllLaws
import Derived.Lib.QuoteBits
import Derived.Test.YtaggldhlnjbnhaaShelf
import Derived.Laws.CopyOwn
import Derived.Deep.RegionLaw
import Derived.Deep.RegionHeld3
import Derived.Deep.DeepCutAuto
import Derived.Great.BuildSlice
namespace Go.Proofs.Ytaggldhlnjbnhaa
open Go.RowKit
/-- A valid color map. -/
def colOk (M C : List Int) : Prop := M.length = 9 ∧ C.length = 17 ∧ allIn M (-1024) 1024 ∧ allIn C 0 256
noncomputable def colB (M C : List Int) : Bool := @decide (colOk M C) (Classical.propDecidable _)
theorem colB_yes {M C : List Int} (h : colOk M C) : colB M C = true := by unfold colB; simp [h]
theorem colB_no {M C : List Int} (h : ¬ colOk M C) : colB M C = false := by unfold colB; simp [h]
/-- What a row of the matrix mixes. -/
def mixV (M : List Int) (row : Nat) (r g b : Int) : Int :=
  max 0 (min 255 ((M.getD (3 * row) 0 * r + M.getD (3 * row + 1) 0 * g + M.getD (3 * row + 2) 0 * b + 128) / 256))
/-- What the curve gives. -/
def curL (a b t : Int) : Int := (16 * a + (b - a) * t) / 16
def curV (C : List Int) (v : Nat) : Int := min 255 (curL (C.getD (v / 16) 0) (C.getD (v / 16 + 1) 0) (v % 16 : Nat))
theorem mix_ch (M : List Int) (row : Nat) (r g b : Int) : chOk (mixV M row r g b) := by unfold mixV chOk; omega
theorem wt_bd {x c : Int} (h0 : -1024 ≤ x) (h1 : x ≤ 1024) (hc : chOk c) : -261120 ≤ x * c ∧ x * c ≤ 261120 := by
  obtain ⟨c0, c1⟩ := hc
  have e1 : -1024 * c ≤ x * c := Int.mul_le_mul_of_nonneg_right h0 c0
  have e2 : x * c ≤ 1024 * c := Int.mul_le_mul_of_nonneg_right h1 c0
  omega
theorem cur_bd {a b t : Int} (a0 : 0 ≤ a) (a1 : a ≤ 256) (b0 : 0 ≤ b) (b1 : b ≤ 256) (t0 : 0 ≤ t) (t1 : t ≤ 16) : 0 ≤ 16 * a + (b - a) * t ∧ 16 * a + (b - a) * t ≤ 4096 := by
  have e : 16 * a + (b - a) * t = a * (16 - t) + b * t := by rw [Int.sub_mul, Int.mul_sub]; omega
  have p1 : 0 ≤ a * (16 - t) := Int.mul_nonneg a0 (by omega)
  have p2 : 0 ≤ b * t := Int.mul_nonneg b0 t0
  have p3 : a * (16 - t) ≤ 256 * (16 - t) := Int.mul_le_mul_of_nonneg_right a1 (by omega)
  have p4 : b * t ≤ 256 * t := Int.mul_le_mul_of_nonneg_right b1 t0
  rw [e]; omega
theorem cur_pt {M C : List Int} (h : colOk M C) {k : Nat} (hk : k ≤ 16) : 0 ≤ C.getD k 0 ∧ C.getD k 0 ≤ 256 := allIn_get h.2.2.2 k (by rw [h.2.1]; omega)
theorem mat_pt {M C : List Int} (h : colOk M C) {k : Nat} (hk : k ≤ 8) : -1024 ≤ M.getD k 0 ∧ M.getD k 0 ≤ 1024 := allIn_get h.2.2.1 k (by rw [h.1]; omega)
theorem cur_ch {M C : List Int} (h : colOk M C) {v : Nat} (hv : v ≤ 255) : chOk (curV C v) := by
  have p := cur_pt h (k := v / 16) (by omega)
  have q := cur_pt h (k := v / 16 + 1) (by omega)
  have := cur_bd p.1 p.2 q.1 q.2 (t := (v % 16 : Nat)) (by omega) (by omega)
  unfold curV curL chOk
  omega
/-- The value between two points, by rounding down the rise alone. -/
theorem cur_alt (a b t : Int) : curL a b t = a + ((b - a) * t) / 16 := by
  unfold curL; generalize (b - a) * t = z; omega
/-- What MixChannels, CurveAt, ColorPixel, ColorImage answer. -/
noncomputable def mixA (M C : List Int) (row r g b : Int) : Int := @ite _ (colOk M C ∧ 0 ≤ row ∧ row ≤ 2 ∧ chOk r ∧ chOk g ∧ chOk b) (Classical.propDecidable _) (mixV M row.toNat r g b) (-1)
noncomputable def curA (M C : List Int) (v : Int) : Int := @ite _ (colOk M C ∧ chOk v) (Classical.propDecidable _) (curV C v.toNat) (-1)
theorem mixA_yes {M C : List Int} {r g b : Int} {row : Nat} (h : colOk M C) (h1 : row ≤ 2) (hr : chOk r) (hg : chOk g) (hb : chOk b) : mixA M C row r g b = mixV M row r g b := by
  unfold mixA; rw [if_pos ⟨h, by omega, by omega, hr, hg, hb⟩]; rfl
theorem mixA_no {M C : List Int} {row r g b : Int} (h : ¬ (colOk M C ∧ 0 ≤ row ∧ row ≤ 2 ∧ chOk r ∧ chOk g ∧ chOk b)) : mixA M C row r g b = -1 := if_neg h
theorem curA_yes {M C : List Int} {v : Nat} (h : colOk M C) (hv : v ≤ 255) : curA M C v = curV C v := by
  unfold curA; rw [if_pos ⟨h, by unfold chOk; omega⟩]; rfl
theorem curA_no {M C : List Int} {v : Int} (h : ¬ (colOk M C ∧ chOk v)) : curA M C v = -1 := if_neg h
/-- A channel of a corrected pixel. -/
def corC (M C : List Int) (row : Nat) (p : Int) : Int := curV C (mixV M row (p / 65536 % 256) (p / 256 % 256) (p % 256)).toNat
def corK (M C : List Int) (p : Int) : Int := pack4 (p / 16777216) (corC M C 0 p) (corC M C 1 p) (corC M C 2 p)
noncomputable def corA (M C : List Int) (p : Int) : Int := @ite _ (colOk M C ∧ pixOk p) (Classical.propDecidable _) (corK M C p) (-1)
theorem corA_yes {M C : List Int} {p : Int} (h : colOk M C) (hp : pixOk p) : corA M C p = corK M C p := if_pos ⟨h, hp⟩
theorem corA_no {M C : List Int} {p : Int} (h : ¬ (colOk M C ∧ pixOk p)) : corA M C p = -1 := if_neg h
open Classical in
/-- A corrected image. -/
noncomputable def corIm (M C : List Int) (X Y : Int) (L : List Int) : Im := if colOk M C ∧ imOk X Y L then ⟨X, Y, L.map (corK M C)⟩ else zeroIm
theorem corIm_yes {M C L : List Int} {X Y : Int} (h : colOk M C) (hi : imOk X Y L) : corIm M C X Y L = ⟨X, Y, L.map (corK M C)⟩ := if_pos ⟨h, hi⟩
theorem corIm_no {M C L : List Int} {X Y : Int} (h : ¬ (colOk M C ∧ imOk X Y L)) : corIm M C X Y L = zeroIm := if_neg h
end Go.Proofs.Ytaggldhlnjbnhaa
