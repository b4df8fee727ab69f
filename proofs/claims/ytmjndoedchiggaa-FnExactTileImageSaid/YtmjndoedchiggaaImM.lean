/- Places in an image, and the pixels of an image with a region copied into it. No statement is proved here. -/
import Derived.Test.YtmjndoedchiggaaMA
import Derived.Test.YtmjndoedchiggaaImR
import Derived.Test.YtmjndoedchiggaaImO
import Derived.Test.YtmjndoedchiggaaImN
import Derived.Test.YtmjndoedchiggaaProg
import Derived.WalkKit
import Derived.ProofKit
import Derived.OpenShut
import Derived.WalkLawsBesides
import Derived.WalkSpells
import Derived.ShutString
import Derived.ChangeOld
import Derived.Below
import Derived.Lib.Hide
import Derived.BigQuiet
import Derived.Deep.QuietTactic
import Derived.Maps.AppendAt
import Derived.Deep.OwnRows
import Derived.Handy
import Derived.Deep.Draws
import Derived.OwnWalk
import Derived.Deep.AppendLies
import Derived.Deep.LoopGhost
import Derived.Deep.Onto
import Derived.Laws.BitsAllLaws
import Derived.Lib.QuoteBits
import Derived.Test.YtmjndoedchiggaaShelf
import Derived.Laws.CopyOwn
import Derived.Deep.RegionLaw
import Derived.Deep.RegionHeld3
import Derived.Deep.DeepCutAuto
import Derived.Great.BuildSlice
import Derived.Deep.MidRow
import Derived.Deep.WholeRow
import Derived.Laws.AppendOwn
namespace Go.Proofs.Ytmjndoedchiggaa
open Go.RowKit
theorem plc_div {W x : Nat} (y : Nat) (hx : x < W) : (y * W + x) / W = y := by
  rw [Nat.mul_comm, Nat.mul_add_div (by omega), Nat.div_eq_of_lt hx, Nat.add_zero]
theorem plc_mod {W x : Nat} (y : Nat) (hx : x < W) : (y * W + x) % W = x := by
  rw [Nat.mul_comm, Nat.mul_add_mod, Nat.mod_eq_of_lt hx]
theorem plc_eq (k W : Nat) : k / W * W + k % W = k := by rw [Nat.mul_comm]; exact Nat.div_add_mod k W
theorem plc_lt {W H x y : Nat} (hx : x < W) (hy : y < H) : y * W + x < W * H := by
  have h1 : (y + 1) * W ≤ H * W := Nat.mul_le_mul_right _ hy
  rw [Nat.add_mul, Nat.one_mul, Nat.mul_comm H W] at h1
  omega
theorem plc_row {W H k : Nat} (h : k < W * H) : k / W < H := Nat.div_lt_of_lt_mul h
theorem plc_iff {W x : Nat} (y k : Nat) (hx : x < W) : k = y * W + x ↔ k / W = y ∧ k % W = x := by
  constructor
  · rintro rfl; exact ⟨plc_div y hx, plc_mod y hx⟩
  · rintro ⟨rfl, rfl⟩; exact (plc_eq k W).symm
theorem plc_pos {W H k : Nat} (h : k < W * H) : 0 < W := by
  rcases Nat.eq_zero_or_pos W with rfl | h0
  · simp at h
  · exact h0
/-- A stretch of a row. -/
theorem plc_span {W X n : Nat} (y k : Nat) (hX : X + n ≤ W) : (y * W + X ≤ k ∧ k < y * W + X + n) ↔ k / W = y ∧ X ≤ k % W ∧ k % W < X + n := by
  constructor
  · rintro ⟨h1, h2⟩
    obtain ⟨d, hd⟩ : ∃ d, k = y * W + (X + d) := ⟨k - (y * W + X), by omega⟩
    subst hd
    have hx : X + d < W := by omega
    rw [plc_div y hx, plc_mod y hx]
    omega
  · rintro ⟨rfl, h2, h3⟩
    have := plc_eq k W
    omega
/-- A valid image's numbers as naturals. -/
theorem im_nat {X Y : Int} {L : List Int} (h : imOk X Y L) : ∃ W H : Nat, X = W ∧ Y = H ∧ 1 ≤ W ∧ W ≤ 16 ∧ 1 ≤ H ∧ H ≤ 16 ∧ L.length = W * H := by
  obtain ⟨⟨s1, s2, s3, s4⟩, hl, _⟩ := h
  obtain ⟨W, rfl⟩ := Int.eq_ofNat_of_zero_le (show 0 ≤ X by omega)
  obtain ⟨H, rfl⟩ := Int.eq_ofNat_of_zero_le (show 0 ≤ Y by omega)
  exact ⟨W, H, rfl, rfl, by omega, by omega, by omega, by omega, by exact_mod_cast hl⟩
theorem mul_256 {W H : Nat} (h1 : W ≤ 16) (h2 : H ≤ 16) : W * H ≤ 256 := Nat.mul_le_mul h1 h2
/-- The pixels of an image of width W with the points g taken from an image F of size W2, H2. -/
def copyF (W W2 H2 : Nat) (L F : List Int) (g : Nat → Bool) : Nat → Int := fun k =>
  if k % W < W2 ∧ k / W < H2 ∧ g (k / W * 16 + k % W) = true then F.getD (k / W * W2 + k % W) 0 else L.getD k 0
open Classical in
noncomputable def copyIm (X Y : Int) (L : List Int) (X2 Y2 : Int) (F : List Int) (R : List Rc) : Im :=
  if imOk X Y L ∧ imOk X2 Y2 F ∧ okL R = true then ⟨X, Y, tabI L.length (copyF X.toNat X2.toNat Y2.toNat L F (gridOf R))⟩ else ⟨X, Y, L⟩
theorem copy_yes {X Y X2 Y2 : Int} {L F : List Int} {R : List Rc} (h1 : imOk X Y L) (h2 : imOk X2 Y2 F) (h3 : okL R = true) :
    copyIm X Y L X2 Y2 F R = ⟨X, Y, tabI L.length (copyF X.toNat X2.toNat Y2.toNat L F (gridOf R))⟩ := if_pos ⟨h1, h2, h3⟩
theorem copy_no {X Y X2 Y2 : Int} {L F : List Int} {R : List Rc} (h : ¬ (imOk X Y L ∧ imOk X2 Y2 F ∧ okL R = true)) : copyIm X Y L X2 Y2 F R = ⟨X, Y, L⟩ := if_neg h
theorem copy_len (X Y X2 Y2 : Int) (L F : List Int) (R : List Rc) : (copyIm X Y L X2 Y2 F R).d.length = L.length := by
  by_cases h : imOk X Y L ∧ imOk X2 Y2 F ∧ okL R = true
  · rw [copy_yes h.1 h.2.1 h.2.2]; exact tabI_length _ _
  · rw [copy_no h]
/-- .. pixel by pixel: the rows above y, and of row y the places left of x. -/
def copyS (W W2 : Nat) (L F : List Int) (g : Nat → Bool) (y x : Nat) : Nat → Int := fun k =>
  if (k / W < y ∨ k / W = y ∧ k % W < x) ∧ k % W < W2 ∧ g (k / W * 16 + k % W) = true then F.getD (k / W * W2 + k % W) 0 else L.getD k 0
theorem copyS_start (W W2 : Nat) (L F : List Int) (g : Nat → Bool) (k : Nat) : copyS W W2 L F g 0 0 k = L.getD k 0 :=
  if_neg fun h => by
    rcases h.1 with h | h
    · exact Nat.not_lt_zero _ h
    · exact Nat.not_lt_zero _ h.2
theorem copyS_row (W W2 x : Nat) (L F : List Int) (g : Nat → Bool) (y k : Nat) (hx : x = min W W2) (hW : 0 < W) : copyS W W2 L F g y x k = copyS W W2 L F g (y + 1) 0 k := by
  unfold copyS
  have hm := Nat.mod_lt k hW
  by_cases h : (k / W < y ∨ k / W = y ∧ k % W < x) ∧ k % W < W2 ∧ g (k / W * 16 + k % W) = true
  · rw [if_pos h, if_pos ⟨by omega, h.2⟩]
  · rw [if_neg h, if_neg fun h2 => h ⟨by omega, h2.2⟩]
theorem copyS_skip (W W2 : Nat) (L F : List Int) (g : Nat → Bool) (y x k : Nat) (hg : g (y * 16 + x) = false) : copyS W W2 L F g y x k = copyS W W2 L F g y (x + 1) k := by
  unfold copyS
  by_cases h : (k / W < y ∨ k / W = y ∧ k % W < x) ∧ k % W < W2 ∧ g (k / W * 16 + k % W) = true
  · rw [if_pos h, if_pos ⟨by omega, h.2⟩]
  · rw [if_neg h, if_neg]
    rintro ⟨h1, h2, h3⟩
    by_cases e : k / W = y ∧ k % W = x
    · rw [e.1, e.2, hg] at h3; cases h3
    · exact h ⟨by omega, h2, h3⟩
theorem copyS_set (W W2 : Nat) (L F : List Int) (g : Nat → Bool) (y x k : Nat) (hx : x < W) (hx2 : x < W2) (hg : g (y * 16 + x) = true) :
    (if k = y * W + x then F.getD (y * W2 + x) 0 else copyS W W2 L F g y x k) = copyS W W2 L F g y (x + 1) k := by
  by_cases e : k = y * W + x
  · rw [if_pos e]
    obtain ⟨e1, e2⟩ := (plc_iff y k hx).1 e
    unfold copyS
    rw [e1, e2, if_pos ⟨by omega, hx2, hg⟩]
  · rw [if_neg e]
    have e' := mt (plc_iff y k hx).2 e
    unfold copyS
    by_cases h : (k / W < y ∨ k / W = y ∧ k % W < x) ∧ k % W < W2 ∧ g (k / W * 16 + k % W) = true
    · rw [if_pos h, if_pos ⟨by omega, h.2⟩]
    · rw [if_neg h, if_neg fun h2 => h ⟨by omega, h2.2⟩]
theorem copyS_end (W H W2 H2 : Nat) (L F : List Int) (g : Nat → Bool) (y k : Nat) (hy : y = min H H2) (hk : k < W * H) : copyS W W2 L F g y 0 k = copyF W W2 H2 L F g k := by
  have h1 := plc_row hk
  unfold copyS copyF
  by_cases h : k % W < W2 ∧ k / W < H2 ∧ g (k / W * 16 + k % W) = true
  · rw [if_pos h, if_pos ⟨by omega, h.1, h.2.2⟩]
  · rw [if_neg h, if_neg fun h2 => h ⟨h2.2.1, by omega, h2.2.2⟩]
/-- .. stretch by stretch: the rows of a rectangle from Y to above y. -/
def copyR (W W2 : Nat) (F : List Int) (f : Nat → Int) (X Y n y : Nat) : Nat → Int := fun k =>
  if X ≤ k % W ∧ k % W < X + n ∧ Y ≤ k / W ∧ k / W < y then F.getD (k / W * W2 + k % W) 0 else f k
theorem copyR_start (W W2 : Nat) (F : List Int) (f : Nat → Int) (X Y n k : Nat) : copyR W W2 F f X Y n Y k = f k := if_neg (by omega)
theorem copyR_next (W W2 : Nat) (F : List Int) (f : Nat → Int) (X Y n y k : Nat) (hX : X + n ≤ W) (hy : Y ≤ y) :
    (if y * W + X ≤ k ∧ k < y * W + X + n then F.getD (y * W2 + X + (k - (y * W + X))) 0 else copyR W W2 F f X Y n y k) = copyR W W2 F f X Y n (y + 1) k := by
  by_cases e : y * W + X ≤ k ∧ k < y * W + X + n
  · rw [if_pos e]
    obtain ⟨e1, e2, e3⟩ := (plc_span y k hX).1 e
    have h := plc_eq k W
    unfold copyR
    rw [if_pos ⟨e2, e3, by omega, by omega⟩]
    congr 1
    rw [e1] at h ⊢
    omega
  · rw [if_neg e]
    have e' := mt (plc_span y k hX).2 e
    unfold copyR
    by_cases h : X ≤ k % W ∧ k % W < X + n ∧ Y ≤ k / W ∧ k / W < y
    · rw [if_pos h, if_pos ⟨h.1, h.2.1, h.2.2.1, by omega⟩]
    · rw [if_neg h, if_neg fun h2 => h (by
        by_cases e2 : k / W = y
        · exact absurd ⟨e2, h2.1, h2.2.1⟩ e'
        · exact ⟨h2.1, h2.2.1, h2.2.2.1, by omega⟩)]
theorem gridOf_one (r : Rc) (k : Nat) : gridOf [r] k = hasB r (k % 16 : Nat) (k / 16 : Nat) := by
  rw [Bool.eq_iff_iff, gridOf_iff]
  unfold hasB
  rw [decide_eq_true_iff]
  constructor
  · rintro ⟨s, hs, h⟩
    obtain rfl := List.mem_singleton.1 hs
    exact h
  · intro h
    exact ⟨r, List.mem_singleton.2 rfl, h⟩
/-- A part of the region is copied: what its rectangle within both images has. -/
theorem copyR_part (W H W2 H2 : Nat) (L F : List Int) (R : List Rc) (r : Rc) (j X Y n m k : Nat) (h16 : W ≤ 16 ∧ H ≤ 16) (hr : R[j]? = some r)
    (hk : k < W * H) (hI : ∀ p q : Nat, p < W → q < H → ((X ≤ p ∧ p < X + n ∧ Y ≤ q ∧ q < Y + m) ↔ (hasB r p q = true ∧ p < W2 ∧ q < H2))) :
    copyR W W2 F (copyF W W2 H2 L F (gridOf (R.take j))) X Y n (Y + m) k = copyF W W2 H2 L F (gridOf (R.take (j + 1))) k := by
  have h1 := plc_row hk
  have h2 := Nat.mod_lt k (plc_pos hk)
  have hi := hI (k % W) (k / W) h2 h1
  have hg : gridOf (R.take (j + 1)) (k / W * 16 + k % W) = (gridOf (R.take j) (k / W * 16 + k % W) || hasB r (k % W : Nat) (k / W : Nat)) := by
    rw [List.take_add_one, hr, gridOf_append]
    show (_ || gridOf [r] _) = _
    rw [gridOf_one, show (k / W * 16 + k % W) % 16 = k % W by omega, show (k / W * 16 + k % W) / 16 = k / W by omega]
  unfold copyR
  by_cases c : X ≤ k % W ∧ k % W < X + n ∧ Y ≤ k / W ∧ k / W < Y + m
  · obtain ⟨b1, b2, b3⟩ := hi.1 c
    rw [if_pos c]
    unfold copyF
    rw [hg, b1, Bool.or_true, if_pos ⟨b2, b3, rfl⟩]
  · rw [if_neg c]
    unfold copyF
    rw [hg]
    by_cases d : k % W < W2 ∧ k / W < H2
    · have hb : hasB r (k % W : Nat) (k / W : Nat) = false := by
        rcases e : hasB r (k % W : Nat) (k / W : Nat) with _ | _
        · rfl
        · exact absurd (hi.2 ⟨e, d⟩) c
      rw [hb, Bool.or_false]
    · rw [if_neg fun h => d ⟨h.1, h.2.1⟩, if_neg fun h => d ⟨h.1, h.2.1⟩]
end Go.Proofs.Ytmjndoedchiggaa
