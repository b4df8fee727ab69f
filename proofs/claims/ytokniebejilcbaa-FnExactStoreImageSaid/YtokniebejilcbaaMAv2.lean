/- Texts of mine in one file: ImR, ImL, SfM, ImP. No statement is proved here. -/
import Derived.Test.YtokniebejilcbaaMA
import Derived.Test.YtokniebejilcbaaMAv23
import Derived.Test.YtokniebejilcbaaMAv123
import Derived.Test.YtokniebejilcbaaProg
import Derived.WalkKit
import Derived.ProofKit
import Derived.OpenShut
import Derived.WalkLawsBesides
import Derived.WalkSpells
import Derived.ShutString
import Derived.ChangeOld
import Derived.Below
import Derived.Lib.Hide
import Derived.BigQuiet
import Derived.Deep.QuietTactic
import Derived.Maps.AppendAt
import Derived.Deep.OwnRows
import Derived.Handy
import Derived.Deep.Draws
import Derived.OwnWalk
import Derived.Deep.AppendLies
import Derived.Deep.LoopGhost
import Derived.Deep.Onto
import Derived.Deep.MidRow
import Derived.Deep.WholeRow
import Derived.Laws.BitsAllLaws
import Derived.Lib.QuoteBits
import Derived.Deep.RegionHeld3
import Derived.Deep.DeepCutAuto
namespace Go.Proofs.Ytokniebejilcbaa
open Go.RowKit
theorem ownI_call {w w' : World} {B : Nat} {e : TypeId} {size : Nat} {v : Value} {n : Nat} {xs : List Value} (h : w.ownsRow B e size v n xs) (hb : Below w.heap.size w w') : w'.ownsRow B e size v n xs := own_below h hb (Nat.le_refl _)
set_option maxHeartbeats 1000000 in
set_option maxRecDepth 10000 in
theorem heldIS (v : Value) (k0 n : Nat) (w : World) (hm : k0 + n ≤ 1000000000) (hrd : RdI w v (marksI k0 n)) :
  Calls Try.prog 24 #[v, .int .i64 k0] w fun ed w' => ed = .returned (.int .i64 ((k0 + n : Nat) : Int)) ∧ w' = w := by
 obtain ⟨A, c, rfl⟩ := hrd.form
 rw [marksI_length] at hrd ⊢
 have Hrd := Lib.hid hrd
 clear hrd
 go_enter Try.func24, Try.ntmps24
 go_wp2_with fail
 go_loopw [1, 5] (fun s1 i wr => ∃ (k : Nat) (t : Int), k ≤ n ∧ i = .int .i64 k ∧ s1 = .int .i64 t ∧ Hid (t = ((k0 + k : Nat) : Int)) ∧ wr = w) (fun _ i _ => n - (intOf i).toNat)
 case atStart => exact ⟨0, k0, Nat.zero_le _, rfl, rfl, Lib.hid (by simp), rfl⟩
 case round =>
  obtain ⟨k, t, hk, rfl, rfl, Ht, rfl⟩ := hrel
  have ht0 : 0 ≤ t := by have := Ht.out; omega
  have ht1 : t ≤ 5000000000 := by have := Ht.out; omega
  by_cases hlt : k < n
  ·obtain ⟨gq, r, rfl, hr, c0⟩ := Hrd.out.at_ (k := k) (by rw [marksI_length]; exact hlt)
   unfold marksI at hr
   rw [tabI_get n _ k hlt] at hr
   injection hr with hr
   have e0 : r = t := by rw [← hr, Ht.out]
   rw [e0] at c0
   have k0' : (0 : Int) ≤ (k : Int) := by omega
   have k1' : (k : Int) < (n : Int) := by omega
   clear hr e0
   go_wp2_with fail
   go_roundw
   case rel => exact ⟨k + 1, _, by omega, by go_num, rfl, Lib.hid (by have := Ht.out; omega), by first | rfl | trivial⟩
   case measure => simp [intOf]; omega
  ·obtain rfl : k = n := by omega
   go_wp2_with fail
   go_ret
   exact ⟨ret_int Ht.out, rfl⟩
end Go.Proofs.Ytokniebejilcbaa
namespace Go.Proofs.Ytokniebejilcbaa
open Go.RowKit
theorem markIm (B : Nat) (W H : Int) (v : Value) (L : List Int) (k0 : Nat) (w : World) (hm : k0 + L.length ≤ 1000000000) (hown : w.ownsRow B 3 1 v L.length (intCells L)) :
  Calls Try.prog 22 #[.agg #[.int .i64 W, .int .i64 H, v], .int .i64 k0] w fun ed w' => ed = .returned (.int .i64 ((k0 + L.length : Nat) : Int)) ∧ w'.ownsRow B 3 1 v L.length (intCells (marksI k0 L.length)) ∧ w.grownBy w' v.ownBlock := by
 have hown2 := hown.alloc (.cells #[.int .i64 W, .int .i64 H, v] 32)
 have hg := World.grownBy_alloc w (.cells #[.int .i64 W, .int .i64 H, v] 32) v.ownBlock
 obtain ⟨A, c, rfl⟩ := ownI_shape hown
 clear hown
 go_enter Try.func22, Try.ntmps22
 go_wp2_with fail
 refine (markIS B _ _ L k0 _ hm hown2).mono ?_
 rintro e w1 ⟨rfl, h1, h2⟩
 have H1 := Lib.hid h1
 have H2 := Lib.hid (hg.trans h2)
 clear h1 h2 hg hown2
 go_wp2_with fail
 go_ret
 exact ⟨rfl, H1.out, H2.out⟩
end Go.Proofs.Ytokniebejilcbaa
namespace Go.Proofs.Ytokniebejilcbaa
open Go.RowKit
theorem rep_ints_own {B : Nat} {w : World} {L : List Int} {d : Value} {bs : List Nat} (h : repInts.Own B w L [d] bs) : w.ownsRow B 3 1 d L.length (intCells L) ∧ bs = d.ownBlock.toList := by
 obtain ⟨v, e, ho, rfl⟩ := h.r
 obtain rfl : d = v := by simpa using e
 exact ⟨own_rebase ho fun b hb => h.lo b hb, rfl⟩
end Go.Proofs.Ytokniebejilcbaa
namespace Go.Proofs.Ytokniebejilcbaa
open Go.RowKit
theorem px_place {W H x y : Int} {L : List Int} (h : imOk W H L) (hx : 0 ≤ x ∧ x < W) (hy : 0 ≤ y ∧ y < H) :
  0 ≤ y * W ∧ y * W ≤ 240 ∧ 0 ≤ y * W + x ∧ y * W + x < (L.length : Int) ∧ L.length ≤ 256 := by
 obtain ⟨⟨s1, s2, s3, s4⟩, hl, _⟩ := h
 have m1 := sz_mul (W := W) (H := H) ⟨s1, s2, s3, s4⟩
 have h1 : 0 ≤ y * W := Int.mul_nonneg hy.1 (by omega)
 have h2 : y * W ≤ 15 * 16 := Int.mul_le_mul (by omega) s2 (by omega) (by omega)
 have h3 : (y + 1) * W ≤ H * W := Int.mul_le_mul_of_nonneg_right (by omega) (by omega)
 rw [Int.add_mul, Int.one_mul, Int.mul_comm H W] at h3
 omega
theorem frameI (W H : Int) (A : Option Addr) (n c : Nat) (w : World) :
  Calls Try.prog 111 #[.agg #[.int .i64 W, .int .i64 H, .slice A n c]] w fun e w' => e = .returned (.agg #[.int .i64 0, .int .i64 0, .int .i64 W, .int .i64 H]) ∧ Below w.heap.size w w' := by
 go_enter Try.func111, Try.ntmps111
 go_wp2_with fail
 exact bodyPost_ret (v := .agg #[.int .i64 0, .int .i64 0, .int .i64 W, .int .i64 H]) (by simp [results, Try.results111, go_sem]) rfl ⟨rfl, by repeat (first | exact Below.refl _ _ | refine Below.setCell ?_ (by simp; try omega) _ | refine Below.alloc ?_ (by simp; try omega) _)⟩
theorem pixelI (W H x y : Int) (v : Value) (L : List Int) (w : World) (h : imOk W H L) (hx : 0 ≤ x ∧ x < W) (hy : 0 ≤ y ∧ y < H) (hv : RdI w v L) :
  Calls Try.prog 109 #[.agg #[.int .i64 W, .int .i64 H, v], .int .i64 x, .int .i64 y] w fun e w' => e = .returned (.int .i64 (L.getD (y * W + x).toNat 0)) ∧ Below w.heap.size w w' := by
 have hv2 := hv.alloc (.cells #[.int .i64 W, .int .i64 H, v] 97)
 have hw := (Below.refl w.heap.size w).alloc (Nat.le_refl _) (.cells #[.int .i64 W, .int .i64 H, v] 97)
 obtain ⟨m0, m1, p0, p1, pn⟩ := px_place h hx hy
 obtain ⟨A, c, rfl⟩ := hv.form
 obtain ⟨m, hm⟩ := Int.eq_ofNat_of_zero_le m0
 obtain ⟨x, rfl⟩ := Int.eq_ofNat_of_zero_le hx.1
 obtain ⟨g, p, rfl, hp, hc⟩ := hv2.at_ (k := m + x) (by omega)
 have Hp : Hid (L.getD (y * W + (x : Int)).toNat 0 = p) := Lib.hid (by
  rw [show (y * W + (x : Int)).toNat = m + x by omega, List.getD_eq_getElem?_getD, hp]; rfl)
 obtain ⟨n, hn⟩ : ∃ n, n = L.length := ⟨_, rfl⟩
 rw [← hn] at p1 pn hw hc ⊢
 rw [hm] at p1 m1
 have Hw := Lib.hid hw
 clear hv hv2 hp hw hn h p0
 have hy0 := hy.1
 have hmx : (m : Int) + (x : Int) < (n : Int) := p1
 have hm2 : (m : Int) ≤ 240 := m1
 go_enter Try.func109, Try.ntmps109
 go_wp2_with fail
 go_ret
 exact ⟨ret_int Hp.out.symm, Hw.out⟩
end Go.Proofs.Ytokniebejilcbaa
