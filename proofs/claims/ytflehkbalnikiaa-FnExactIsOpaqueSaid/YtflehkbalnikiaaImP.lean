/- The contracts of the canvas' frame and pixel, of PixelOf, of the program and of its model. No statement is proved here. -/
import Derived.Test.YtflehkbalnikiaaMA
import Derived.Test.YtflehkbalnikiaaRd
import Derived.Test.YtflehkbalnikiaaIntR
import Derived.Test.YtflehkbalnikiaaImR
import Derived.Test.YtflehkbalnikiaaPixM
import Derived.Test.YtflehkbalnikiaaImO
import Derived.Test.YtflehkbalnikiaaProg
import Derived.WalkKit
import Derived.ProofKit
import Derived.OpenShut
import Derived.WalkLawsBesides
import Derived.WalkSpells
import Derived.ShutString
import Derived.ChangeOld
import Derived.Below
import Derived.Lib.Hide
import Derived.BigQuiet
import Derived.Deep.QuietTactic
import Derived.Maps.AppendAt
import Derived.Deep.OwnRows
import Derived.Handy
import Derived.Deep.Draws
import Derived.OwnWalk
import Derived.Deep.AppendLies
import Derived.Deep.LoopGhost
import Derived.Deep.Onto
import Derived.Laws.BitsAllLaws
import Derived.Lib.QuoteBits
import Derived.Deep.RegionHeld3
import Derived.Deep.DeepCutAuto
namespace Go.Proofs.Ytflehkbalnikiaa
open Go.RowKit
/-- The place of a pixel. -/
theorem px_place {W H x y : Int} {L : List Int} (h : imOk W H L) (hx : 0 ≤ x ∧ x < W) (hy : 0 ≤ y ∧ y < H) :
    0 ≤ y * W ∧ y * W ≤ 240 ∧ 0 ≤ y * W + x ∧ y * W + x < (L.length : Int) ∧ L.length ≤ 256 := by
  obtain ⟨⟨s1, s2, s3, s4⟩, hl, _⟩ := h
  have m1 := sz_mul (W := W) (H := H) ⟨s1, s2, s3, s4⟩
  have h1 : 0 ≤ y * W := Int.mul_nonneg hy.1 (by omega)
  have h2 : y * W ≤ 15 * 16 := Int.mul_le_mul (by omega) s2 (by omega) (by omega)
  have h3 : (y + 1) * W ≤ H * W := Int.mul_le_mul_of_nonneg_right (by omega) (by omega)
  rw [Int.add_mul, Int.one_mul, Int.mul_comm H W] at h3
  omega
theorem pixelI (W H x y : Int) (v : Value) (L : List Int) (w : World) (h : imOk W H L) (hx : 0 ≤ x ∧ x < W) (hy : 0 ≤ y ∧ y < H) (hv : RdI w v L) :
    Calls Try.prog 110 #[.agg #[.int .i64 W, .int .i64 H, v], .int .i64 x, .int .i64 y] w fun e w' => e = .returned (.int .i64 (L.getD (y * W + x).toNat 0)) ∧ Below w.heap.size w w' := by
  have hv2 := hv.alloc (.cells #[.int .i64 W, .int .i64 H, v] 115)
  have hw := (Below.refl w.heap.size w).alloc (Nat.le_refl _) (.cells #[.int .i64 W, .int .i64 H, v] 115)
  obtain ⟨m0, m1, p0, p1, pn⟩ := px_place h hx hy
  obtain ⟨A, c, rfl⟩ := hv.form
  obtain ⟨m, hm⟩ := Int.eq_ofNat_of_zero_le m0
  obtain ⟨x, rfl⟩ := Int.eq_ofNat_of_zero_le hx.1
  obtain ⟨g, p, rfl, hp, hc⟩ := hv2.at_ (k := m + x) (by omega)
  have Hp : Hid (L.getD (y * W + (x : Int)).toNat 0 = p) := Lib.hid (by
    rw [show (y * W + (x : Int)).toNat = m + x by omega, List.getD_eq_getElem?_getD, hp]; rfl)
  obtain ⟨n, hn⟩ : ∃ n, n = L.length := ⟨_, rfl⟩
  rw [← hn] at p1 pn hw hc ⊢
  rw [hm] at p1 m1
  have Hw := Lib.hid hw
  clear hv hv2 hp hw hn h p0
  have hy0 := hy.1
  have hmx : (m : Int) + (x : Int) < (n : Int) := p1
  have hm2 : (m : Int) ≤ 240 := m1
  go_enter Try.func110, Try.ntmps110
  go_wp2_with fail
  go_ret
  exact ⟨ret_int Hp.out.symm, Hw.out⟩
end Go.Proofs.Ytflehkbalnikiaa
