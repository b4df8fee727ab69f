/- StoreImage of the program. No statement is proved here. -/
import Derived.Test.YtokniebejilcbaaMA
import Derived.Test.YtokniebejilcbaaMB
import Derived.Test.YtokniebejilcbaaProg
import Derived.WalkKit
import Derived.ProofKit
import Derived.OpenShut
import Derived.WalkLawsBesides
import Derived.WalkSpells
import Derived.ShutString
import Derived.ChangeOld
import Derived.Below
import Derived.Lib.Hide
import Derived.BigQuiet
import Derived.Deep.QuietTactic
import Derived.Maps.AppendAt
import Derived.Deep.OwnRows
import Derived.Handy
import Derived.Deep.Draws
import Derived.OwnWalk
import Derived.Deep.AppendLies
import Derived.Deep.LoopGhost
import Derived.Deep.Onto
import Derived.Laws.BitsAllLaws
import Derived.Lib.QuoteBits
import Derived.Test.YtokniebejilcbaaShelf
import Derived.Laws.CopyOwn
import Derived.Deep.RegionLaw
import Derived.Deep.RegionHeld3
import Derived.Deep.DeepCutAuto
import Derived.Great.BuildSlice
import Derived.Deep.MidRow
import Derived.Deep.WholeRow
import Derived.Laws.AppendOwn
import Derived.Carry
import Derived.Maps.Own
namespace Go.Proofs.Ytokniebejilcbaa
open Go.RowKit
theorem rlen_is {R : List Int} {j : Nat} (h1 : 1 ≤ j) (h2 : j ≤ R.length) (h : ∀ i, i < j → R.getD i 0 = R.getD 0 0) (hs : j = R.length ∨ R.getD j 0 ≠ R.getD 0 0) : rlen R = j := by
  cases R with
  | nil => simp at h2; omega
  | cons x r =>
    have key : ∀ (r : List Int) (j : Nat), j ≤ r.length → (∀ i, i < j → r.getD i 0 = x) → (j = r.length ∨ r.getD j 0 ≠ x) → (r.takeWhile (· == x)).length = j := by
      intro r
      induction r with
      | nil => intro j hj _ _; simp at hj; subst hj; rfl
      | cons y r ih =>
        intro j hj hall hs
        by_cases e : y = x
        · subst e
          rcases j with _ | j
          · rcases hs with hs | hs
            · simp at hs
            · exact absurd rfl hs
          · have hs2 : j = r.length ∨ r.getD j 0 ≠ y := by
              rcases hs with hs | hs
              · left; simp at hs; exact hs
              · right; simpa using hs
            rw [List.takeWhile_cons_of_pos (by simp), List.length_cons, ih j (by simp at hj; exact hj) (fun i hi => by have := hall (i + 1) (by omega); simpa using this) hs2]
        · rw [List.takeWhile_cons_of_neg (by simp [e])]
          rcases j with _ | j
          · rfl
          · exact absurd (by have := hall 0 (by omega); simpa using this) e
    unfold rlen
    obtain ⟨i, rfl⟩ : ∃ i, j = i + 1 := ⟨j - 1, by omega⟩
    have hs2 : i = r.length ∨ r.getD i 0 ≠ x := by
      rcases hs with hs | hs
      · left; simp at hs; omega
      · right; simpa using hs
    show (r.takeWhile (· == x)).length + 1 = i + 1
    rw [key r i (by simp at h2; omega) (fun k hk => by have := h (k + 1) (by omega); simpa using this) hs2]
theorem getD_part (L : List Int) (m n i : Nat) (h : i < n) : ((L.drop m).take n).getD i 0 = L.getD (m + i) 0 := by
 rw [List.getD_eq_getElem?_getD, List.getD_eq_getElem?_getD, List.getElem?_take_of_lt h, List.getElem?_drop]
theorem part_len (L : List Int) (m n : Nat) (h : m + n ≤ L.length) : ((L.drop m).take n).length = n := by
 rw [List.length_take, List.length_drop]; omega
theorem part_drop (L : List Int) (m n j : Nat) (_h : j ≤ n) : ((L.drop m).take n).drop j = (L.drop (m + j)).take (n - j) := by
 rw [List.drop_take, List.drop_drop]
theorem rd_at {w : World} {g N c k : Nat} {L : List Int} (h : RdI w (.slice (some ⟨g, 0, none⟩) N c) L) (hk : k < L.length) : w.cell? ⟨g, k, none⟩ = some (.int .i64 (L.getD k 0)) := h.cell (by rw [List.getD_eq_getElem?_getD, List.getElem?_eq_getElem hk]; rfl)
theorem stR_at {W H : Nat} (l : Int) (L : List Int) {x : Nat} (y : Nat) (hx : x < W) : stR W H l L (y * W + (x + 1)) = (stR W H l L (y * W + x)).set (wpl W H l x y).toNat (L.getD (y * W + x) 0) := by
 show stR W H l L ((y * W + x) + 1) = _
 rw [stR, plk_nat _ _ _ W (y * W + x) rfl, plc_mod y hx, plc_div y hx]
theorem stR_0 (W H l : Int) (L : List Int) : stR W H l L 0 = tabI (wct W H l).toNat (fun _ => 0) := by
 show List.replicate _ _ = _
 apply List.ext_getElem?
 intro j
 by_cases h : j < (wct W H l).toNat
 ·rw [tabI_get _ _ _ h, List.getElem?_replicate, if_pos h]
 ·rw [List.getElem?_eq_none (by rw [List.length_replicate]; omega), List.getElem?_eq_none (by rw [tabI_length]; omega)]
set_option maxHeartbeats 600000 in
set_option maxRecDepth 10000 in
theorem spanC (W X n y m : Nat) (H Yr Hr : Int) (g N c : Nat) (w : World) (hW : W ≤ 16) (hy : y ≤ 15) (hm : y * W = m) (hN : m + W ≤ N) (hNc : N ≤ c) (hn : 1 ≤ n) (hX : X + n ≤ W) (hr : (⟨X, Yr, n, Hr⟩ : Rc).ok) :
  Calls Try.prog 110 #[.agg #[.int .i64 W, .int .i64 H, .slice (some ⟨g, 0, none⟩) N c], .agg #[.int .i64 X, .int .i64 Yr, .int .i64 n, .int .i64 Hr], .int .i64 y] w
   fun e w' => (∃ c', n ≤ c' ∧ e = .returned (.slice (some ⟨g, m + X, none⟩) n c')) ∧ Below w.heap.size w w' := by
 have m240 : m ≤ 240 := by rw [← hm]; exact Nat.mul_le_mul hy hW
 have q1 : (y : Int) * (W : Int) = (m : Int) := by rw [← hm]; simp
 have q2 : ((y : Int) + 1) * (W : Int) = ((m + W : Nat) : Int) := by rw [Int.add_mul, q1, Int.one_mul]; omega
 have Hr' := Lib.hid hr
 have hw := belI_call (belI_box w (.cells #[.int .i64 W, .int .i64 H, .slice (some ⟨g, 0, none⟩) N c] 97)) (belI_box _ (.cells #[.int .i64 X, .int .i64 Yr, .int .i64 n, .int .i64 Hr] 94))
 have hR : RcAt ((w.alloc (.cells #[.int .i64 W, .int .i64 H, .slice (some ⟨g, 0, none⟩) N c] 97)).alloc (.cells #[.int .i64 X, .int .i64 Yr, .int .i64 n, .int .i64 Hr] 94)) (w.heap.size + 1) ⟨X, Yr, n, Hr⟩ := RcAt.newAt (w := w.alloc (.cells #[.int .i64 W, .int .i64 H, .slice (some ⟨g, 0, none⟩) N c] 97)) (by simp) ⟨X, Yr, n, Hr⟩
 clear hr hm
 go_enter Try.func110, Try.ntmps110
 go_wp2_with fail
 have f1 : X + n ≤ c - m := by omega
 have f2 : (X : Int) + (n : Int) ≤ ((c - m : Nat) : Int) := by omega
 have f3 : X + n - X = n := by omega
 have f4 : ¬ c - m = X := by omega
 have f5 : (0 : Int) ≤ (X : Int) + (n : Int) := by omega
 have f6 : X ≤ ((X : Int) + (n : Int)).toNat := by omega
 have f7 : ((X : Int) + (n : Int)).toNat - X = n := by omega
 obtain ⟨w0, hw0⟩ : ∃ w0, w0 = (w.alloc (.cells #[.int .i64 W, .int .i64 H, .slice (some ⟨g, 0, none⟩) N c] 97)).alloc (.cells #[.int .i64 X, .int .i64 Yr, .int .i64 n, .int .i64 Hr] 94) := ⟨_, rfl⟩
 rw [← hw0] at hw hR ⊢
 clear hw0
 refine wp_region_held_drew (S := fun W => Below w0.heap.size w0 W) (by kernel_rfl) (Below.refl _ _).drew (fun hS => ?_)
 refine tcH (i := 0) (v := .slice (some ⟨g, m, none⟩) (m + W - m) (c - m)) rfl (by intro w' hSw; (try dsimp only at hSw); (obtain ⟨r0, r1, r2, r3⟩ := (hR.below hSw hR.lt).cells); go_simp) ?_
 refine tcH (i := 1) (v := .pointer (some ⟨w.heap.size + 1, 0, none⟩)) rfl (by intro w' hSw; (try dsimp only at hSw); (obtain ⟨r0, r1, r2, r3⟩ := (hR.below hSw hR.lt).cells); go_simp) ?_
 refine tcH (i := 2) (v := .int .i64 X) rfl (by intro w' hSw; (try dsimp only at hSw); (obtain ⟨r0, r1, r2, r3⟩ := (hR.below hSw hR.lt).cells); go_simp) ?_
 refine tcH (i := 3) (v := .agg #[.int .i64 X, .int .i64 Yr, .int .i64 n, .int .i64 Hr]) rfl (by intro w' hSw; (try dsimp only at hSw); (obtain ⟨r0, r1, r2, r3⟩ := (hR.below hSw hR.lt).cells); go_simp) ?_
 (try simp only [Act.put]); (try simp only [zPa]); (try simp only [zPb, zPc])
 refine wpAnyH_ready (rs := [4]) (by kernel_rfl) (by simp) ?_
 refine (AllReadyH.cons rfl (fun K hK => ?_) AllReadyH.nil)
 ·rw [if_pos (by kernel_rfl)]
  (try simp only [zGa]); (try simp only [zGb]); (try simp only [zGc])
  go_simp
  with_reducible refine (rightI_b ⟨X, Yr, n, Hr⟩ Hr'.out _).mono ?_
  rintro e W' ⟨rfl, hb⟩
  dsimp only
  refine hK.out _ _ (belI_call hS hb) (fun hS => ?_)
  clear hK
  (try simp only [Act.put]); (try simp only [zPa]); (try simp only [zPb, zPc])
  refine wpAnyH_ready (rs := [5]) (by kernel_rfl) (by simp) ?_
  refine (AllReadyH.cons rfl (fun K hK => ?_) AllReadyH.nil)
  ·rw [if_pos (by kernel_rfl)]
   (try simp only [zGa]); (try simp only [zGb]); (try simp only [zGc])
   go_simp
   refine hK.out _ _ (hS) (fun hS => ?_)
   clear hK
   (try simp only [Act.put]); (try simp only [zPa]); (try simp only [zPb, zPc])
   refine tcH (i := 6) (v := .slice (some ⟨g, m + X, none⟩) n (c - m - X)) rfl (by intro w' hSw; (try dsimp only at hSw); (obtain ⟨r0, r1, r2, r3⟩ := (hR.below hSw hR.lt).cells); go_simp) ?_
   refine wpAnyH_done (by kernel_rfl) ?_ _
   go_wp2_with fail
   go_ret
   exact ⟨⟨_, by omega, rfl⟩, belI_call hw hS⟩
theorem spanC0 (W y m : Nat) (H : Int) (g N c : Nat) (w : World) (hW : W ≤ 16) (hy : y ≤ 15) (hm : y * W = m) (hN : m + W ≤ N) (hNc : N ≤ c) (hn : 1 ≤ W) (hr : (⟨((0 : Nat) : Int), 0, W, H⟩ : Rc).ok) :
  Calls Try.prog 110 #[.agg #[.int .i64 W, .int .i64 H, .slice (some ⟨g, 0, none⟩) N c], .agg #[.int .i64 0, .int .i64 0, .int .i64 W, .int .i64 H], .int .i64 y] w
   fun e w' => (∃ c', W ≤ c' ∧ e = .returned (.slice (some ⟨g, m, none⟩) W c')) ∧ Below w.heap.size w w' := spanC W 0 W y m H 0 H g N c w hW hy hm hN hNc hn (by omega) hr
theorem tstI (x : Int) (gi m n cap b : Nat) (z : Int) (w : World) (hn : 1 ≤ n) (hz : w.cell? ⟨gi, m, none⟩ = some (.int .i64 z)) (hb : w.cell? ⟨b, 0, none⟩ = some (.slice (some ⟨gi, m, none⟩) n cap)) :
  Calls Try.prog 146 #[.int .i64 x, .pointer (some ⟨b, 0, none⟩)] w fun e w' => e = .returned (.bool (!(x == z))) ∧ w = w' := by
 have n0 : (0 : Int) < (n : Int) := by omega
 have n1 : 0 < n := by omega
 go_enter Try.func146, Try.ntmps146
 go_wp2_with fail
 go_ret
 exact ⟨rfl, rfl⟩
set_option maxHeartbeats 1000000 in
set_option maxRecDepth 10000 in
theorem ixfI (gi N c m n cap b : Nat) (L : List Int) (w : World) (hv : RdI w (.slice (some ⟨gi, 0, none⟩) N c) L) (hn : 1 ≤ n) (hm : m + n ≤ L.length) (hN : L.length ≤ 1000000) (hb : w.cell? ⟨b, 0, none⟩ = some (.slice (some ⟨gi, m, none⟩) n cap)) :
  Calls Try.prog 145 #[.slice (some ⟨gi, m, none⟩) n cap, .func (.func 146) #[] #[.pointer (some ⟨b, 0, none⟩)]] w fun e w' => (∃ q : Int, e = .returned (.int .i64 q) ∧ ((q = -1 ∧ rlen ((L.drop m).take n) = n) ∨ (0 ≤ q ∧ q = (rlen ((L.drop m).take n) : Nat)))) ∧ w = w' := by
 have H := Lib.hid hv
 have Hb := Lib.hid hb
 have hz := rd_at hv (k := m) (by omega)
 have Hm := Lib.hid hm
 have hn6 : n ≤ 1000000 := by omega
 have Hz := Lib.hid hz
 clear hv hb hz hm hN
 go_enter Try.func145, Try.ntmps145
 go_wp2_with fail
 go_loopg [5, 8] n (fun gg _ s8 wr => ∃ k : Nat, k ≤ n ∧ n - k ≤ gg ∧ s8 = .int .i64 k ∧ Hid (∀ j, j < k → L.getD (m + j) 0 = L.getD m 0) ∧ wr = w)
 case atStart => exact ⟨0, Nat.zero_le _, by omega, rfl, Lib.hid (fun j h => by omega), rfl⟩
 case round =>
  obtain ⟨k, hk, hgg, rfl, Hall, rfl⟩ := hrel
  by_cases hlt : k < n
  ·have c0 := rd_at H.out (k := m + k) (by have := Hm.out; omega)
   obtain ⟨x, hx⟩ : ∃ x, x = L.getD (m + k) 0 := ⟨_, rfl⟩
   obtain ⟨z, hz⟩ : ∃ z, z = L.getD m 0 := ⟨_, rfl⟩
   have hcz := Hz.out
   rw [← hz] at hcz
   rw [← hx] at c0
   have HK := Lib.hid (tstI x gi m n cap b z wr hn hcz Hb.out)
   have Hx := Lib.hid hx
   have Hz2 := Lib.hid hz
   have k0 : (0 : Int) ≤ (k : Int) := by omega
   have k1 : (k : Int) < (n : Int) := by omega
   clear hx hz hcz
   by_cases he : x = z
   ·rw [show (!(x == z)) = false by simp [he]] at HK
    have He := Lib.hid he
    clear he
    go_wp2_with fail
    refine HK.out.mono ?_
    rintro e w1 ⟨rfl, rfl⟩
    go_wp2_with fail
    go_roundg (n - (k + 1))
    case measure => omega
    case rel =>
     refine ⟨k + 1, by omega, by omega, by go_num, Lib.hid (fun j hj => ?_), rfl⟩
     by_cases e : j < k
     ·exact Hall.out j e
     ·obtain rfl : j = k := by omega
      rw [← Hx.out, ← Hz2.out]; exact He.out
   ·rw [show (!(x == z)) = true by simp [he]] at HK
    have Hq : Hid (rlen ((L.drop m).take n) = k) := Lib.hid (rlen_is (by
      rcases Nat.eq_zero_or_pos k with h0 | h0
      ·subst h0; exact absurd (by rw [Hx.out, Hz2.out]; rfl) he
      ·exact h0) (by rw [part_len _ _ _ Hm.out]; omega) (fun i hi => by rw [getD_part _ _ _ _ (by omega), getD_part _ _ _ _ (by omega)]; exact Hall.out i hi) (Or.inr (by rw [getD_part _ _ _ _ hlt, getD_part _ _ _ _ (by omega), ← Hx.out, Nat.add_zero, ← Hz2.out]; exact he)))
    clear he
    go_wp2_with fail
    refine HK.out.mono ?_
    rintro e w1 ⟨rfl, rfl⟩
    go_wp2_with fail
    go_ret
    exact ⟨⟨_, rfl, Or.inr ⟨by omega, by rw [Hq.out]⟩⟩, rfl⟩
  ·obtain rfl : k = n := by omega
   have Hq : Hid (rlen ((L.drop m).take k) = k) := Lib.hid (rlen_is hn (by rw [part_len _ _ _ Hm.out]; omega) (fun i hi => by rw [getD_part _ _ _ _ (by omega), getD_part _ _ _ _ (by omega)]; exact Hall.out i hi) (Or.inl (part_len _ _ _ Hm.out).symm))
   go_wp2_with fail
   go_ret
   exact ⟨⟨_, rfl, Or.inl ⟨rfl, Hq.out⟩⟩, rfl⟩
theorem rlI (gi N c m n cap : Nat) (L : List Int) (w : World) (hv : RdI w (.slice (some ⟨gi, 0, none⟩) N c) L) (hn : 1 ≤ n) (hm : m + n ≤ L.length) (hN : L.length ≤ 1000000) :
  Calls Try.prog 112 #[.slice (some ⟨gi, m, none⟩) n cap] w fun e w' => e = .returned (.int .i64 (rlen ((L.drop m).take n) : Nat)) ∧ Below w.heap.size w w' := by
 have hB := belI_box w (.cells #[.slice (some ⟨gi, m, none⟩) n cap] 26)
 have HX := Lib.hid (ixfI gi N c m n cap w.heap.size L _ (hv.call hB) hn hm hN ((BkAt.newAt (w := w) rfl 26 #[.slice (some ⟨gi, m, none⟩) n cap]).cell 0 rfl))
 have HB := Lib.hid hB
 obtain ⟨q0, hq0⟩ : ∃ q, q = rlen ((L.drop m).take n) := ⟨_, rfl⟩
 rw [← hq0] at HX ⊢
 clear hv hB hq0 hm
 go_enter Try.func112, Try.ntmps112
 go_wp2_with fail
 refine HX.out.mono ?_
 rintro e w1 ⟨⟨q, rfl, hq⟩, rfl⟩
 rcases hq with ⟨rfl, hq⟩ | ⟨hq, hq2⟩
 ·go_wp2_with fail
  go_ret
  exact ⟨ret_int (by rw [hq]), HB.out⟩
 ·have hq3 : ¬ q < 0 := by omega
  have Hq2 := Lib.hid hq2
  clear hq2
  go_wp2_with fail
  go_ret
  exact ⟨ret_int Hq2.out, HB.out⟩
structure CvA (t : TypeId) (w : World) (X Y : Int) (v : Value) (L : List Int) (V : World) : Prop where
 a : ImAt V w.heap.size t X Y v
 rd : RdI V v L
 bw : Below w.heap.size w V
theorem CvA.born {t : TypeId} {w : World} {v : Value} {L : List Int} (X Y : Int) (h : RdI w v L) : CvA t w X Y v L (w.alloc (.cells #[.int .i64 X, .int .i64 Y, v] t)) := ⟨ImAt.new _ _ _ _ _, h.alloc _, belI_box _ _⟩
theorem CvA.call {t : TypeId} {w : World} {X Y : Int} {v : Value} {L : List Int} {V V' : World} (h : CvA t w X Y v L V) (hb : Below V.heap.size V V') : CvA t w X Y v L V' := ⟨h.a.call hb, h.rd.call hb, belI_call h.bw hb⟩
theorem CvA.drew {t : TypeId} {w : World} {X Y : Int} {v : Value} {L : List Int} {V : World} (h : CvA t w X Y v L V) : CvA t w X Y v L V.drew := ⟨h.a, h.rd.drew, h.bw.drew⟩
theorem CvA.own {t : TypeId} {w : World} {X Y : Int} {v : Value} {L : List Int} {V V' : World} {row : Option Nat} (h : CvA t w X Y v L V) (hv : ∀ g, v.ownBlock = some g → g < w.heap.size) (hg : V.grownBy V' row) (hk : ∀ k, row = some k → w.heap.size + 1 ≤ k) : CvA t w X Y v L V' :=
 ⟨h.a.grown hg (fun e => by have := hk _ e.symm; omega), h.rd.grown hg (fun g hg2 e => by have := hk _ e.symm; have := hv _ hg2; omega), h.bw.grown hg h.bw.size (fun k e => by have := hk _ e; omega)⟩
structure CvI (t : TypeId) (w : World) (X Y : Int) (v : Value) (L : List Int) (u : Value) (q : Nat) (M : List Int) (V : World) : Prop where
 o : CvA t w X Y v L V
 own : V.ownsRow (w.heap.size + 1) 3 1 u q (intCells M)
theorem CvI.call {t : TypeId} {w : World} {X Y : Int} {v : Value} {L : List Int} {u : Value} {q : Nat} {M : List Int} {V V' : World} (h : CvI t w X Y v L u q M V) (hb : Below V.heap.size V V') : CvI t w X Y v L u q M V' := ⟨h.o.call hb, ownI_call h.own hb⟩
theorem CvI.drew {t : TypeId} {w : World} {X Y : Int} {v : Value} {L : List Int} {u : Value} {q : Nat} {M : List Int} {V : World} (h : CvI t w X Y v L u q M V) : CvI t w X Y v L u q M V.drew := ⟨h.o.drew, h.own⟩
theorem runR_W (W : Nat) (L : List Int) (y : Nat) : runR W L (y + 1) = runR W L y ++ runL ((L.drop (y * W)).take W) := rfl
theorem runL_none (L : List Int) : runL (L.take 0) = [] := by rw [List.take_zero]; rfl
set_option maxHeartbeats 2000000 in
set_option maxRecDepth 10000 in
theorem rwI (W H : Nat) (v : Value) (L : List Int) (w : World) (h1 : imOk W H L) (hv : RdI w v L) :
  Calls Try.prog 69 #[.agg #[.int .i64 W, .int .i64 H, v]] w (AnsIs (runR W L H) w) := by
 obtain ⟨i0, hi, hz0, hz1, hz2⟩ := info_parts infoInt
 obtain ⟨W2, H2, e1, e2, wl, wh, hl, hh, hL⟩ := im_nat h1
 obtain rfl : W = W2 := by exact_mod_cast e1
 obtain rfl : H = H2 := by exact_mod_cast e2
 clear e1 e2
 obtain ⟨gi, c, rfl, hgi, hcu⟩ := rd_block hv (by rw [hL]; exact Nat.mul_pos wl hl)
 have hgu2 : ∀ g, (Value.slice (some ⟨gi, 0, none⟩) L.length c).ownBlock = some g → g < w.heap.size := fun g hg => (Option.some.inj hg) ▸ hgi
 have hS := CvA.born (t := 97) W H hv
 have hL256 : L.length ≤ 256 := by rw [hL]; exact mul_256 wh hh
 have HL := Lib.hid hL
 obtain ⟨N, hn⟩ : ∃ n, n = L.length := ⟨_, rfl⟩
 rw [← hn] at hgu2 hS hcu hL256 ⊢
 have hNc := hcu
 have Hgu := Lib.hid hgu2
 have HLN := Lib.hid (show L.length = N ∧ N ≤ 256 from ⟨hn.symm, hL256⟩)
 have HS0 : Hid (CvI 97 w W H (.slice (some ⟨gi, 0, none⟩) N c) L (.slice none 0 0) 0 [] _) := Lib.hid ⟨hS, World.ownsRow_nil _ _ _ _⟩
 clear hL h1 hv hn hgu2 hcu
 obtain ⟨a0, a1, a2⟩ := hS.a.cells
 clear hS
 go_enter Try.func69, Try.ntmps69
 go_wp2_with fail
 clear a0 a1 a2
 go_loopg [3, 9] H (fun gk s3 s9 wr => ∃ (y q : Nat) (u : Value) (M : List Int) (V : World), V = wr ∧ y ≤ H ∧ gk = H - y ∧ u = s3 ∧ s9 = .int .i64 y ∧ Hid (q = M.length) ∧ Hid (M = runR W L y) ∧ Hid (CvI 97 w W H (.slice (some ⟨gi, 0, none⟩) N c) L u q M V))
 case atStart => exact ⟨0, 0, _, [], _, rfl, by omega, by omega, rfl, rfl, Lib.hid rfl, Lib.hid rfl, HS0⟩
 case round =>
  clear HS0
  obtain ⟨y, q, u, M, wy, hV, hy2, rfl, rfl, rfl, Hq, HM, HS⟩ := hrel
  subst hV
  by_cases hyl : y < H
  ·have hyi : (y : Int) < (H : Int) := by omega
   obtain ⟨m, hm⟩ : ∃ m, y * W = m := ⟨_, rfl⟩
   have hy15 : y ≤ 15 := by omega
   have hmN : m + W ≤ N := by
    have h2 := HLN.out.1
    rw [← h2, HL.out, ← hm]
    have h3 : (y + 1) * W ≤ H * W := Nat.mul_le_mul_right _ hyl
    rw [Nat.add_mul, Nat.one_mul, Nat.mul_comm H W] at h3
    exact h3
   have Hm := Lib.hid hm
   have Hrk : Hid (Rc.ok ⟨((0 : Nat) : Int), 0, W, H⟩) := Lib.hid (by unfold Rc.ok; simp only; omega)
   clear hm
   go_upto_region 5 with fail
   refine wp_region_held_drew (S := fun V => CvI 97 w W H (.slice (some ⟨gi, 0, none⟩) N c) L u q M V) (by kernel_rfl) HS.out.drew (fun hS => ?_)
   refine tcH (i := 0) (v := .agg #[.int .i64 W, .int .i64 H, .slice (some ⟨gi, 0, none⟩) N c]) rfl (by intro w' hSw; (try dsimp only at hSw); (obtain ⟨a0, a1, a2⟩ := hSw.o.a.cells); go_simp) ?_
   refine tcH (i := 1) (v := .agg #[.int .i64 W, .int .i64 H, .slice (some ⟨gi, 0, none⟩) N c]) rfl (by intro w' hSw; (try dsimp only at hSw); (obtain ⟨a0, a1, a2⟩ := hSw.o.a.cells); go_simp) ?_
   refine tkH (i := 3) (v := .int .i64 (y : Int)) rfl ?_
   (try simp only [Act.put]); (try simp only [zPa]); (try simp only [zPb, zPc])
   refine wpAnyH_ready (rs := [2]) (by kernel_rfl) (by simp) ?_
   refine (AllReadyH.cons rfl (fun K hK => ?_) AllReadyH.nil)
   ·rw [if_pos (by kernel_rfl)]
    (try simp only [zGa]); (try simp only [zGb]); (try simp only [zGc])
    go_simp
    with_reducible refine (frameI W H _ N c _).mono ?_
    rintro e W' ⟨rfl, hb⟩
    dsimp only
    refine hK.out _ _ (hS.call hb) (fun hS => ?_)
    clear hK
    (try simp only [Act.put]); (try simp only [zPa]); (try simp only [zPb, zPc])
    refine wpAnyH_ready (rs := [4]) (by kernel_rfl) (by simp) ?_
    refine (AllReadyH.cons rfl (fun K hK => ?_) AllReadyH.nil)
    ·rw [if_pos (by kernel_rfl)]
     (try simp only [zGa]); (try simp only [zGb]); (try simp only [zGc])
     go_simp
     with_reducible refine (spanC0 W y m H gi N c _ wh hy15 Hm.out hmN hNc wl Hrk.out).mono ?_
     rintro e W' ⟨⟨cr, hcr, rfl⟩, hb⟩
     dsimp only
     have hcr2 := hcr
     refine hK.out _ _ (hS.call hb) (fun hS => ?_)
     clear hK
     (try simp only [Act.put]); (try simp only [zPa]); (try simp only [zPb, zPc])
     refine tkH (i := 5) (v := .slice (some ⟨gi, m, none⟩) W cr) rfl ?_
     go_simp
     refine wpAnyH_done (by kernel_rfl) ?_ _
     have HS3 := Lib.hid hS
     clear hS
     go_wp2_with fail
     go_loopg [3, 5] W (fun g3 s3 s5 wz => ∃ (r mm cc q : Nat) (B : Option Addr) (u : Value) (M : List Int) (V : World), V = wz ∧ r = g3 ∧ r ≤ W ∧ u = s3 ∧ s5 = .slice B r cc ∧ (0 < r → B = some ⟨gi, mm, none⟩ ∧ r ≤ cc) ∧ Hid (mm + r = m + W) ∧ Hid (q = M.length) ∧ Hid (M ++ runL ((L.drop mm).take r) = runR W L (y + 1)) ∧ Hid (CvI 97 w W H (.slice (some ⟨gi, 0, none⟩) N c) L u q M V))
     case atStart => exact ⟨W, m, cr, q, _, u, M, _, rfl, rfl, Nat.le_refl _, rfl, rfl, fun _ => ⟨rfl, hcr2⟩, Lib.hid rfl, Hq, Lib.hid (by rw [HM.out, runR_W, Hm.out]), HS3⟩
     case round =>
      clear HS3 HM Hq
      obtain ⟨r, mm, cc, q, B, u, M, wy2, hV, rfl, hr, rfl, rfl, hBr, Hmm, Hq, HM, HS⟩ := hrel
      subst hV
      by_cases hr0 : 0 < r
      ·obtain ⟨rfl, hrc⟩ := hBr hr0
       have hr1 : (0 : Int) < (r : Int) := by omega
       have HRL := Lib.hid (fun V h => rlI gi N c mm r cc L V h hr0 (by have := Hmm.out; have := HLN.out; omega) (by have := HLN.out; omega))
       have hne : (L.drop mm).take r ≠ [] := fun h => by have h2 := part_len L mm r (by have := Hmm.out; have := HLN.out; omega); rw [h] at h2; simp at h2; omega
       have Hst := Lib.hid (runL_step hne)
       have hp1 := rlen_pos hne
       have hp2 : rlen ((L.drop mm).take r) ≤ r := by have := rlen_le ((L.drop mm).take r); rw [part_len _ _ _ (by have := Hmm.out; have := HLN.out; omega)] at this; exact this
       obtain ⟨j, hj⟩ : ∃ j, j = rlen ((L.drop mm).take r) := ⟨_, rfl⟩
       rw [← hj] at HRL Hst hp1 hp2
       obtain ⟨z, hz⟩ : ∃ z, z = L.getD mm 0 := ⟨_, rfl⟩
       have Hz : Hid (((L.drop mm).take r).headD 0 = z) := Lib.hid (by
        have h2 := getD_part L mm r 0 hr0
        rw [Nat.add_zero, ← hz] at h2
        rw [← h2]
        cases (L.drop mm).take r with
        | nil => rfl
        | cons x t => rfl)
       have Hzc := Lib.hid (fun (V : World) (h : RdI V (.slice (some ⟨gi, 0, none⟩) N c) L) => (hz ▸ rd_at h (k := mm) (by have := Hmm.out; have := HLN.out; omega) : V.cell? ⟨gi, mm, none⟩ = some (.int .i64 z)))
       have hql : q + 2 ≤ 1000 := by
        have h2 := congrArg List.length HM.out
        have h3 := runR_len W L (y + 1)
        have h4 : (y + 1) * W ≤ 256 := mul_256 (by omega) wh
        have h5 := congrArg List.length Hst.out
        rw [List.length_append] at h2
        simp only [List.length_cons] at h5
        have := Hq.out
        omega
       clear hne hj hz hBr
       go_wp2_with fail
       refine (HRL.out _ HS.out.o.rd).mono ?_
       rintro e w5 ⟨rfl, hb⟩
       have HS2 := Lib.hid (HS.out.call hb)
       have zc := Hzc.out _ HS2.out.o.rd
       have hsz := HS2.out.o.a.lt
       clear hb HS
       have jj : (j : Int) ≤ (r : Int) := by omega
       have j0 : (0 : Int) ≤ (j : Int) := by omega
       have jt : ((j : Int)).toNat = j := by omega
       have hsl : q + 2 ≤ maxLen := by unfold maxLen; omega
       go_wp2_with (at_builtin; refine wpList_append_own _ rfl _ _ 26 rfl (w.heap.size + 1) 3 i0 (.int .i64 0) 1 8 Try.underlying26 hi hz0 hz1 hz2 rfl (by decide) _ _ _ rfl (HS2.out.own.alloc _) ⟨_, 0, none⟩ 2 2 _ rfl rfl (World.news_of_block (cs := #[.int .i64 j, .int .i64 z]) (fr := (0, 0)) (heap_alloc_new _ _)) (by intro u hu; simp at hu; rcases hu with rfl | rfl <;> rfl) hsl (by omega) (by simp; omega) ?_)
       intro v2 w6 hown2 hgrow _
       have hlt := fun g hg => (HS2.out.own.lt g hg).1
       obtain ⟨gq, cq, hvq, _, _⟩ := hown2.form (by omega)
       subst hvq
       have HS3 := Lib.hid (show CvI 97 w W H (.slice (some ⟨gi, 0, none⟩) N c) L (.slice (some ⟨gq, 0, none⟩) (q + 2) cq) (q + 2) (M ++ [(j : Int), z]) w6 from ⟨(HS2.out.o.call (belI_box _ _)).own Hgu.out hgrow (fun k e => by have := hlt _ e; omega), by rw [intCells_append]; exact hown2⟩)
       clear hown2 hgrow HS2 hlt hsz zc
       have HM3 : Hid ((M ++ [(j : Int), z]) ++ runL ((L.drop (mm + j)).take (r - j)) = runR W L (y + 1)) := Lib.hid (by rw [← HM.out, Hst.out, Hz.out, part_drop _ _ _ _ hp2, List.append_assoc]; rfl)
       by_cases hcj : cc - j = 0
       ·obtain rfl : j = r := by omega
        obtain rfl : cc = j := by omega
        go_wp2_with fail
        go_roundg 0
        case measure => omega
        case rel => exact ⟨0, mm + cc, 0, q + 2, some ⟨gi, mm, none⟩, _, _, _, rfl, rfl, by omega, rfl, by simp, fun h => by omega, Lib.hid (by have := Hmm.out; omega), Lib.hid (by rw [List.length_append, ← Hq.out]; rfl), by rw [Nat.sub_self] at HM3; exact HM3, HS3⟩
       ·go_wp2_with fail
        go_roundg (r - j)
        case measure => omega
        case rel => exact ⟨r - j, mm + j, cc - j, q + 2, _, _, _, _, rfl, rfl, by omega, rfl, rfl, fun h => ⟨rfl, by omega⟩, Lib.hid (by have := Hmm.out; omega), Lib.hid (by rw [List.length_append, ← Hq.out]; rfl), HM3, HS3⟩
      ·obtain rfl : r = 0 := by omega
       go_wp2_with fail
       go_roundg (H - (y + 1))
       case measure => omega
       case rel => exact ⟨y + 1, q, u, M, _, rfl, by omega, by omega, rfl, by go_num, Hq, Lib.hid (by have h := HM.out; rw [runL_none, List.append_nil] at h; exact h), HS⟩
  ·obtain rfl : y = H := by omega
   go_wp2_with fail
   go_ret
   refine ⟨_, rfl, ?_, HS.out.o.bw⟩
   rw [← HM.out, ← Hq.out]
   exact HS.out.own.mono (Nat.le_succ _)
set_option maxHeartbeats 2000000 in
set_option maxRecDepth 10000 in
theorem plwI (W H : Nat) (v : Value) (L : List Int) (l : Int) (w : World) (h1 : imOk W H L) (hl01 : l = 0 ∨ l = 1) (hv : RdI w v L) :
  Calls Try.prog 68 #[.agg #[.int .i64 W, .int .i64 H, v], .int .i64 l] w (AnsIs (stR W H l L L.length) w) := by
 obtain ⟨W2, H2, e1, e2, wl, wh, hl, hh, hL⟩ := im_nat h1
 obtain rfl : W = W2 := by exact_mod_cast e1
 obtain rfl : H = H2 := by exact_mod_cast e2
 clear e1 e2
 obtain ⟨gi, c, rfl, hgi, hcu⟩ := rd_block hv (by rw [hL]; exact Nat.mul_pos wl hl)
 have hgu2 : ∀ g, (Value.slice (some ⟨gi, 0, none⟩) L.length c).ownBlock = some g → g < w.heap.size := fun g hg => (Option.some.inj hg) ▸ hgi
 have hL256 : L.length ≤ 256 := by rw [hL]; exact mul_256 wh hh
 have HL := Lib.hid hL
 obtain ⟨N, hN⟩ : ∃ n, n = L.length := ⟨_, rfl⟩
 have hS := CvA.born (t := 97) W H hv
 rw [← hN] at hgu2 hS hcu hL256 ⊢
 have Hgu := Lib.hid hgu2
 have HLN := Lib.hid (show L.length = N ∧ N ≤ 256 from ⟨hN.symm, hL256⟩)
 have Hi := Lib.hid h1
 have Hl := Lib.hid hl01
 have hb := wct_bd h1.1 hl01
 have HC := fun V => wctI W H l V
 unfold IntIs at HC
 obtain ⟨n, hn⟩ : ∃ n, n = (wct W H l).toNat := ⟨_, rfl⟩
 rw [show wct W H l = (n : Int) by omega] at HC
 have n1 : 1 ≤ n := by omega
 have n2 : n ≤ 256 := by omega
 have Hn := Lib.hid hn
 have HC := Lib.hid HC
 have HN := Lib.hid hN
 have hmk := fun W0 => run_make_row' (P := Try.prog) 26 3 (.int .i64 0) 8 Try.underlying26 infoInt rfl .i64 .i64 n (by omega) (by omega) W0
 clear hL h1 hv hN hgu2 hcu hl01 hb hn hL256
 obtain ⟨a0, a1, a2⟩ := hS.a.cells
 go_enter Try.func68, Try.ntmps68
 go_wp2_with fail
 refine (HC.out _).mono ?_
 rintro e wm ⟨rfl, hwm⟩
 rw [hwm] at hS
 clear hwm
 clear a0 a1 a2
 have hz := hS.a.lt
 obtain ⟨gq, hgq⟩ : ∃ g, g = wm.heap.size := ⟨_, rfl⟩
 obtain ⟨V0, hV0⟩ : ∃ V, V = wm.alloc (.cells (madeCells #[.int .i64 0] n) 3) := ⟨_, rfl⟩
 have hown : V0.ownsRow (w.heap.size + 1) 3 1 (.slice (some ⟨gq, 0, none⟩) n n) n (intCells (stR W H l L (0 * W + 0))) := by
  rw [Nat.zero_mul, stR_0, ← Hn.out, hV0, hgq]
  exact own_of_rowIs (World.rowIs_made _ _ _ _) (by omega) (by unfold maxLen; omega) (tabI_length _ _) (fun j x hx => by
   have hj : j < n := by have := (List.getElem?_eq_some_iff.1 hx).1; rwa [tabI_length] at this
   rw [tabI_get n _ j hj] at hx
   injection hx with hx
   rw [← hx])
 have HS0 : Hid (CvI 97 w W H (.slice (some ⟨gi, 0, none⟩) N c) L (.slice (some ⟨gq, 0, none⟩) n n) n (stR W H l L (0 * W + 0)) V0) := Lib.hid ⟨by rw [hV0]; exact hS.call (belI_box _ _), hown⟩
 obtain ⟨a0, a1, a2⟩ := HS0.out.o.a.cells
 rw [hV0] at a0 a1 a2
 have HV := Lib.hid hV0
 have HG := Lib.hid hgq
 have hgw : w.heap.size + 1 ≤ gq := by omega
 have Hgw := Lib.hid hgw
 clear hV0 hgq hown hS hz hgw
 go_wp2_with fail
 rw [← HV.out, ← HG.out]
 clear hmk a0 a1 a2
 go_loopg [17] H (fun g8 s8 wr => ∃ (y : Nat) (V : World), V = wr ∧ y ≤ H ∧ g8 = H - y ∧ s8 = .int .i64 y ∧ Hid (CvI 97 w W H (.slice (some ⟨gi, 0, none⟩) N c) L (.slice (some ⟨gq, 0, none⟩) n n) n (stR W H l L (y * W + 0)) V))
 case atStart => exact ⟨0, _, rfl, Nat.zero_le _, by omega, rfl, HS0⟩
 case round =>
  clear HS0
  obtain ⟨y, wy, hV, hy2, rfl, rfl, HS⟩ := hrel
  subst hV
  obtain ⟨a0, a1, a2⟩ := HS.out.o.a.cells
  by_cases hyl : y < H
  ·have hyi : (y : Int) < (H : Int) := by omega
   go_wp2_with fail
   clear a0 a1 a2
   go_loopg [22] W (fun g9 s9 wz => ∃ (x : Nat) (V : World), V = wz ∧ x ≤ W ∧ g9 = W - x ∧ s9 = .int .i64 x ∧ Hid (CvI 97 w W H (.slice (some ⟨gi, 0, none⟩) N c) L (.slice (some ⟨gq, 0, none⟩) n n) n (stR W H l L (y * W + x)) V))
   case atStart => exact ⟨0, _, rfl, Nat.zero_le _, by omega, rfl, HS⟩
   case round =>
    clear HS
    obtain ⟨x, wx, hV, hx2, rfl, rfl, HS⟩ := hrel
    subst hV
    obtain ⟨a0, a1, a2⟩ := HS.out.o.a.cells
    by_cases hxl : x < W
    ·have hxi : (x : Int) < (W : Int) := by omega
     have hb2 := wpl_bd Hi.out.1 Hl.out (x := (x : Int)) (y := (y : Int)) ⟨by omega, hxi⟩ ⟨by omega, hyi⟩
     have HP := fun V => wplI W H l x y V
     unfold IntBe at HP
     obtain ⟨p, hp⟩ : ∃ p, p = (wpl W H l x y).toNat := ⟨_, rfl⟩
     have hp2 : wpl W H l x y = (p : Int) := by omega
     rw [hp2] at HP
     have HP := Lib.hid HP
     have hpn : p < n := by have := Hn.out; omega
     have hpi : (p : Int) < (n : Int) := by omega
     have hp0 : (0 : Int) ≤ (p : Int) := by omega
     obtain ⟨z, hz⟩ : ∃ z, L.getD (y * W + x) 0 = z := ⟨_, rfl⟩
     have HM : Hid (stR W H l L (y * W + (x + 1)) = (stR W H l L (y * W + x)).set p z) := Lib.hid (by rw [stR_at l L y hxl, ← hp, hz])
     have hpl := plc_lt hxl hyl
     rw [← HL.out] at hpl
     have HX : Hid (∀ (V : World), RdI V (.slice (some ⟨gi, 0, none⟩) N c) L → Calls Try.prog 109 #[.agg #[.int .i64 (W : Int), .int .i64 (H : Int), .slice (some ⟨gi, 0, none⟩) N c], .int .i64 (x : Int), .int .i64 (y : Int)] V fun e w' => e = .returned (.int .i64 z) ∧ Below V.heap.size V w') := Lib.hid (fun V h => by
      have h2 := pixelI W H x y _ L V Hi.out (by omega) (by omega) h
      rw [show ((y : Int) * (W : Int) + (x : Int)).toNat = y * W + x by exact_mod_cast Int.toNat_natCast (y * W + x), hz] at h2
      exact h2)
     clear hp hp2 hb2 hz hpl a0 a1 a2
     go_upto_region 8 with fail
     refine wp_region_held_drew (S := fun V => CvA 97 w W H (.slice (some ⟨gi, 0, none⟩) N c) L V) (by kernel_rfl) HS.out.o.drew (fun hS => ?_)
     have hOw := show World.ownsRow wx.drew _ _ _ _ _ _ from HS.out.own
     refine tcH (i := 0) (v := .slice (some ⟨gq, 0, none⟩) n n) rfl (by intro w' hSw; (try dsimp only at hSw); (obtain ⟨a0, a1, a2⟩ := hSw.a.cells); go_simp) ?_
     refine tcH (i := 1) (v := .pointer (some ⟨w.heap.size, 0, none⟩)) rfl (by intro w' hSw; (try dsimp only at hSw); (obtain ⟨a0, a1, a2⟩ := hSw.a.cells); go_simp) ?_
     refine tcH (i := 2) (v := .int .i64 W) rfl (by intro w' hSw; (try dsimp only at hSw); (obtain ⟨a0, a1, a2⟩ := hSw.a.cells); go_simp) ?_
     refine tcH (i := 3) (v := .pointer (some ⟨w.heap.size, 1, none⟩)) rfl (by intro w' hSw; (try dsimp only at hSw); (obtain ⟨a0, a1, a2⟩ := hSw.a.cells); go_simp) ?_
     refine tcH (i := 4) (v := .int .i64 H) rfl (by intro w' hSw; (try dsimp only at hSw); (obtain ⟨a0, a1, a2⟩ := hSw.a.cells); go_simp) ?_
     refine tcH (i := 5) (v := .int .i64 l) rfl (by intro w' hSw; (try dsimp only at hSw); (obtain ⟨a0, a1, a2⟩ := hSw.a.cells); go_simp) ?_
     refine tcH (i := 6) (v := .int .i64 (x : Int)) rfl (by intro w' hSw; (try dsimp only at hSw); (obtain ⟨a0, a1, a2⟩ := hSw.a.cells); go_simp) ?_
     refine tcH (i := 7) (v := .int .i64 (y : Int)) rfl (by intro w' hSw; (try dsimp only at hSw); (obtain ⟨a0, a1, a2⟩ := hSw.a.cells); go_simp) ?_
     refine tcH (i := 9) (v := .agg #[.int .i64 W, .int .i64 H, .slice (some ⟨gi, 0, none⟩) N c]) rfl (by intro w' hSw; (try dsimp only at hSw); (obtain ⟨a0, a1, a2⟩ := hSw.a.cells); go_simp) ?_
     refine tcH (i := 10) (v := .int .i64 (x : Int)) rfl (by intro w' hSw; (try dsimp only at hSw); (obtain ⟨a0, a1, a2⟩ := hSw.a.cells); go_simp) ?_
     refine tcH (i := 11) (v := .int .i64 (y : Int)) rfl (by intro w' hSw; (try dsimp only at hSw); (obtain ⟨a0, a1, a2⟩ := hSw.a.cells); go_simp) ?_
     (try simp only [Act.put]); (try simp only [zPa]); (try simp only [zPb, zPc])
     refine wpAnyH_ready (rs := [8]) (by kernel_rfl) (by simp) ?_
     refine (AllReadyH.cons rfl (fun K hK => ?_) AllReadyH.nil)
     ·rw [if_pos (by kernel_rfl)]
      (try simp only [zGa]); (try simp only [zGb]); (try simp only [zGc])
      go_simp
      with_reducible refine (HP.out _).mono ?_
      rintro e W' ⟨rfl, hb⟩
      dsimp only
      have hOw := ownI_call hOw hb
      refine hK.out _ _ (hS.call hb) (fun hS => ?_)
      clear hK
      (try simp only [Act.put]); (try simp only [zPa]); (try simp only [zPb, zPc])
      refine wpAnyH_ready (rs := [12]) (by kernel_rfl) (by simp) ?_
      refine (AllReadyH.cons rfl (fun K hK => ?_) AllReadyH.nil)
      ·rw [if_pos (by kernel_rfl)]
       (try simp only [zGa]); (try simp only [zGb]); (try simp only [zGc])
       go_simp
       with_reducible refine (HX.out _ hS.rd).mono ?_
       rintro e W' ⟨rfl, hb⟩
       dsimp only
       have cS := (own_at_put (ownI_call hOw hb) (j := p) hpn (by rw [stR_len]; exact Hn.out.symm)).1
       have fS := (own_at_put (ownI_call hOw hb) (j := p) hpn (by rw [stR_len]; exact Hn.out.symm)).2
       have hOw := ownI_call hOw hb
       refine hK.out _ _ (hS.call hb) (fun hS => ?_)
       clear hK
       (try simp only [Act.put]); (try simp only [zPa]); (try simp only [zPb, zPc])
       refine tcH (i := 13) (v := .pointer (some ⟨gq, p, none⟩)) rfl (by intro w' hSw; (try dsimp only at hSw); (obtain ⟨a0, a1, a2⟩ := hSw.a.cells); go_simp) ?_
       (try simp only [Act.put]); (try simp only [zPa]); (try simp only [zPb, zPc])
       refine wpAnyH_ready (rs := [14]) (by kernel_rfl) (by simp) ?_
       refine (AllReadyH.cons rfl (fun K hK => ?_) AllReadyH.nil)
       ·rw [if_pos (by kernel_rfl)]
        (try simp only [zGa]); (try simp only [zGb]); (try simp only [zGc])
        go_simp
        skip
        refine hK.out _ _ (hS.own Hgu.out (grown_setI _ gq p _) (fun k hk => by have h1 := Option.some.inj hk; have h2 := Hgw.out; omega)) (fun hS => ?_)
        clear hK
        (try simp only [Act.put]); (try simp only [zPa]); (try simp only [zPb, zPc])
        refine wpAnyH_done (by kernel_rfl) ?_ _
        go_wp2_with fail
        go_roundg (W - (x + 1))
        case measure => omega
        case rel =>
         have h := (ownI_put hOw p z).1
         rw [← HM.out] at h
         exact ⟨x + 1, _, rfl, by omega, by omega, by go_num, Lib.hid ⟨hS, h⟩⟩
    ·obtain rfl : x = W := by omega
     go_wp2_with fail
     go_roundg (H - (y + 1))
     case measure => omega
     case rel => exact ⟨y + 1, _, rfl, by omega, by omega, by go_num, by rw [Nat.add_mul, Nat.one_mul]; exact HS⟩
  ·obtain rfl : y = H := by omega
   go_wp2_with fail
   go_ret
   refine ⟨.slice (some ⟨gq, 0, none⟩) n n, rfl, ?_, HS.out.o.bw⟩
   have h := HS.out.own
   rw [show y * W + 0 = N by rw [← HLN.out.1, HL.out, Nat.mul_comm]; rfl] at h
   rw [stR_len, ← Hn.out]
   exact h.mono (Nat.le_succ _)
def StAns (M : List Int) (b : Bool) (w : World) (e : Ending) (w' : World) : Prop := ∃ u bs, e = .returned (.tuple #[u, .bool b]) ∧ repInts.Own w.heap.size w' M [u] bs ∧ Below w.heap.size w w'
theorem nilI_own2 (B : Nat) (w : World) : repInts.Own B w [] [.slice none 0 0] [] := ⟨⟨_, rfl, World.ownsRow_nil _ _ _ _, rfl⟩, List.nodup_nil, fun b hb => by simp at hb⟩
theorem ans_calls {P : Program} {f : FuncId} {args : Array Value} {M : List Int} {w V : World} (hb : Below w.heap.size w V) (h : Calls P f args V (AnsIs M V)) :
  Calls P f args V fun e w' => ∃ A c, e = .returned (.slice A M.length c) ∧ repInts.Own w.heap.size w' M [.slice A M.length c] (Value.slice A M.length c).ownBlock.toList ∧ Below w.heap.size w w' := h.mono fun e w' ha => by
 obtain ⟨u, rfl, ho, hb2⟩ := ha
 obtain ⟨A, c, rfl⟩ := ownI_shape ho
 exact ⟨A, c, rfl, repInts_own (ho.mono hb.size), belI_call hb hb2⟩
set_option maxHeartbeats 6000000 in
set_option maxRecDepth 10000 in
theorem stI (X Y : Int) (L : List Int) (l : Int) (v : Value) (w : World) (hv : RdI w v L) :
  Calls Try.prog 19 #[.agg #[.int .i64 X, .int .i64 Y, v], .int .i64 l] w (StAns (stM X Y L l) (stB X Y L l) w) := by
 have hS := CvA.born (t := 32) X Y hv
 have HI := fun V h => imI X Y v L V h
 unfold ImOkAns at HI
 by_cases h1 : imOk X Y L
 rotate_left
 ·rw [imB_no h1] at HI
  have HI := Lib.hid HI
  have HM := Lib.hid (stM_no (l := l) fun h => h1 h.1)
  have HB := Lib.hid (stB_no (l := l) fun h => h1 h.1)
  obtain ⟨A, c, rfl⟩ := hv.form
  obtain ⟨a0, a1, a2⟩ := hS.a.cells
  clear h1 hv
  go_enter Try.func19, Try.ntmps19
  go_wp2_with fail
  refine (HI.out _ hS.rd).mono ?_
  rintro e w2 ⟨rfl, hb⟩
  clear a0 a1 a2
  go_wp2_with fail
  go_ret2
  rw [HM.out, HB.out]
  exact ⟨_, _, rfl, nilI_own2 _ _, belI_call hS.bw hb⟩
 rw [imB_yes h1] at HI
 have HI := Lib.hid HI
 obtain ⟨A, c, rfl⟩ := hv.form
 obtain ⟨a0, a1, a2⟩ := hS.a.cells
 by_cases hl : 0 ≤ l ∧ l ≤ 2
 rotate_left
 ·have HM := Lib.hid (stM_no (W := X) (H := Y) (L := L) fun h => hl h.2)
  have HB := Lib.hid (stB_no (W := X) (H := Y) (L := L) fun h => hl h.2)
  have l0 : ¬ l = 0 := by omega
  have l1 : ¬ l = 1 := by omega
  have l2 : ¬ l = 2 := by omega
  clear h1 hv hl
  go_enter Try.func19, Try.ntmps19
  go_wp2_with fail
  refine (HI.out _ hS.rd).mono ?_
  rintro e w2 ⟨rfl, hb⟩
  clear a0 a1 a2
  go_wp2_with fail
  go_ret2
  rw [HM.out, HB.out]
  exact ⟨_, _, rfl, nilI_own2 _ _, belI_call hS.bw hb⟩
 have HB := Lib.hid (stB_yes h1 hl.1 hl.2)
 have Hi := Lib.hid h1
 obtain ⟨W, H, rfl, rfl, -⟩ := im_nat h1
 by_cases l2 : l = 2
 ·subst l2
  have HM := Lib.hid (stM_2 h1)
  clear h1 hv hl
  go_enter Try.func19, Try.ntmps19
  go_wp2_with fail
  refine (HI.out _ hS.rd).mono ?_
  rintro e w2 ⟨rfl, hb⟩
  replace hS := hS.call hb
  clear hb a0 a1 a2
  obtain ⟨a0, a1, a2⟩ := hS.a.cells
  have HC := ans_calls hS.bw (rwI W H _ L _ Hi.out hS.rd)
  rw [show runR W L H = stM W H L 2 from HM.out.symm] at HC
  obtain ⟨M, hM⟩ : ∃ M, M = stM W H L 2 := ⟨_, rfl⟩
  rw [← hM] at HC
  have HMe := Lib.hid hM
  have HC := Lib.hid HC
  clear hM
  go_wp2_with fail
  refine HC.out.mono ?_
  rintro e w3 ⟨Au, cu, rfl, ho, hb⟩
  have HO := Lib.hid ho
  clear a0 a1 a2 ho
  go_wp2_with fail
  go_ret2
  rw [HB.out, ← HMe.out]
  exact ⟨_, _, rfl, HO.out, hb⟩
 ·have l01 : l = 0 ∨ l = 1 := by omega
  have HM := Lib.hid (stM_01 h1 l01)
  have HPL := fun V h => plwI W H (.slice A L.length c) L l V h1 l01 h
  rw [← HM.out] at HPL
  obtain ⟨M, hM⟩ : ∃ M, M = stM W H L l := ⟨_, rfl⟩
  rw [← hM] at HPL
  have HPL := Lib.hid HPL
  have HMe := Lib.hid hM
  clear h1 hv hl l2 hM HM
  rcases l01 with rfl | rfl
  all_goals
   go_enter Try.func19, Try.ntmps19
   go_wp2_with fail
   refine (HI.out _ hS.rd).mono ?_
   rintro e w2 ⟨rfl, hb⟩
   replace hS := hS.call hb
   clear hb a0 a1 a2
   obtain ⟨a0, a1, a2⟩ := hS.a.cells
   have HC := Lib.hid (ans_calls hS.bw (HPL.out _ hS.rd))
   go_wp2_with fail
   refine HC.out.mono ?_
   rintro e w3 ⟨Au, cu, rfl, ho, hb⟩
   have HO := Lib.hid ho
   clear a0 a1 a2 ho
   go_wp2_with fail
   go_ret2
   rw [HB.out, ← HMe.out]
   exact ⟨_, _, rfl, HO.out, hb⟩
end Go.Proofs.Ytokniebejilcbaa
