/- The contracts of slices.Index over ints, areBuffersFor, areDamages, greatestAge and areAges. No statement is proved here. -/
import Derived.Test.YtnndifemkichmaaMA
import Derived.Test.YtnndifemkichmaaMB
import Derived.Test.YtnndifemkichmaaLk
import Derived.Test.YtnndifemkichmaaMC
import Derived.Test.YtnndifemkichmaaRgK
import Derived.Test.YtnndifemkichmaaChM
import Derived.Test.YtnndifemkichmaaIsE
import Derived.Test.YtnndifemkichmaaChO
import Derived.Test.YtnndifemkichmaaProg
import Derived.WalkKit
import Derived.ProofKit
import Derived.OpenShut
import Derived.WalkLawsBesides
import Derived.WalkSpells
import Derived.ShutString
import Derived.ChangeOld
import Derived.Below
import Derived.Lib.Hide
import Derived.BigQuiet
import Derived.Deep.QuietTactic
import Derived.Maps.AppendAt
import Derived.Deep.OwnRows
import Derived.Handy
import Derived.Deep.Draws
import Derived.OwnWalk
import Derived.Deep.AppendLies
import Derived.Deep.LoopGhost
import Derived.Deep.Onto
import Derived.Deep.MidRow
import Derived.Deep.WholeRow
import Derived.Laws.BitsAllLaws
import Derived.Lib.QuoteBits
import Derived.Deep.RegionHeld3
import Derived.Deep.DeepCutAuto
import Derived.Test.YtnndifemkichmaaShelf
import Derived.Laws.CopyOwn
import Derived.Deep.RegionLaw
import Derived.Great.BuildSlice
import Derived.Laws.AppendOwn
namespace Go.Proofs.Ytnndifemkichmaa
open Go.RowKit
set_option maxHeartbeats 1000000 in
set_option maxRecDepth 10000 in
theorem fstII (L : List Int) (v : Value) (x : Int) (w : World) (h : RdI w v L) : Calls Try.prog 78 #[v, .int .i64 x] w fun e w' => e = .returned (.int .i64 (fstI L x)) ∧ w' = w := by
 have hm := h.len
 obtain ⟨A, c, rfl⟩ := h.form
 obtain ⟨n, hn⟩ : ∃ n, n = L.length := ⟨_, rfl⟩
 rw [← hn] at h hm ⊢
 unfold maxLen at hm
 have Hn := Lib.hid hn
 have HR := Lib.hid h
 clear h hn
 go_enter Try.func78, Try.ntmps78
 go_wp2_with fail
 go_loopw [5, 8] (fun s5 s8 wr => ∃ k : Nat, k ≤ n ∧ s8 = .int .i64 k ∧ Hid (∀ j : Nat, j < k → L[j]? ≠ some x) ∧ wr = w) (fun _ s8 _ => n - (intOf s8).toNat)
 case atStart => exact ⟨0, Nat.zero_le _, rfl, Lib.hid (fun j hj => by omega), rfl⟩
 case round =>
  obtain ⟨k, hk, rfl, Hall, rfl⟩ := hrel
  by_cases hlt : k < n
  ·obtain ⟨g, y, rfl, hy, hc⟩ := HR.out.at_ (k := k) (by rw [← Hn.out]; exact hlt)
   have Hy := Lib.hid hy
   have k0 : (0 : Int) ≤ (k : Int) := by omega
   have k1 : (k : Int) < (n : Int) := by omega
   clear hy
   by_cases he : x = y
   ·have hf : Hid (fstI L x = (k : Int)) := Lib.hid (fstI_hit (by rw [Hy.out, he]) Hall.out)
    subst he
    go_wp2_with fail
    go_ret
    exact ⟨ret_int hf.out.symm, rfl⟩
   ·have hb : (x == y) = false := by simpa using he
    have hall : Hid (∀ j : Nat, j < k + 1 → L[j]? ≠ some x) := Lib.hid fun j hj e => by
     by_cases hjk : j < k
     ·exact Hall.out j hjk e
     ·obtain rfl : j = k := by omega
      rw [Hy.out] at e
      exact he (Option.some.inj e).symm
    go_wp2_with fail
    go_roundw
    case rel => exact ⟨k + 1, by omega, by go_num, hall, by first | rfl | trivial⟩
    case measure => simp [intOf]; omega
  ·obtain rfl : k = n := by omega
   have hf : Hid (fstI L x = -1) := Lib.hid (fstI_miss fun j e => Hall.out j (by rw [Hn.out]; exact (List.getElem?_eq_some_iff.1 e).1) e)
   go_wp2_with fail
   go_ret
   exact ⟨ret_int hf.out.symm, rfl⟩
set_option maxHeartbeats 600000 in
theorem grI (A : Option Addr) (n c : Nat) (w : World) (hn : n ≤ 1000) : Calls Try.prog 57 #[.slice A n c] w fun e w' => e = .returned (.int .i64 (grA n)) ∧ w' = w := by
 go_enter Try.func57, Try.ntmps57
 go_wp2_with fail
 all_goals (go_ret; exact ⟨ret_int (by unfold grA; split <;> omega), rfl⟩)
set_option maxHeartbeats 1000000 in
set_option maxRecDepth 10000 in
theorem agesI (L : List Int) (v : Value) (m : Int) (w : World) (h : RdI w v L) : Calls Try.prog 56 #[v, .int .i64 m] w fun e w' => e = .returned (.bool (agesB L m)) ∧ w' = w := by
 have hm := h.len
 obtain ⟨A, c, rfl⟩ := h.form
 obtain ⟨n, hn⟩ : ∃ n, n = L.length := ⟨_, rfl⟩
 have HI := Lib.hid (fun x => fstII L _ x w h)
 rw [← hn] at h hm HI ⊢
 unfold maxLen at hm
 have Hn := Lib.hid hn
 have HR := Lib.hid h
 clear h hn
 go_enter Try.func56, Try.ntmps56
 go_wp2_with fail
 go_loopw [5, 6, 9] (fun s5 s6 s9 wr => ∃ k : Nat, k ≤ n ∧ s9 = .int .i64 k ∧ Hid (∀ (j : Nat) (x : Int), j < k → L[j]? = some x → ageAt L m j x) ∧ wr = w) (fun _ _ s9 _ => n - (intOf s9).toNat)
 case atStart => exact ⟨0, Nat.zero_le _, rfl, Lib.hid (fun j x hj => by omega), rfl⟩
 case round =>
  obtain ⟨k, hk, rfl, Hall, rfl⟩ := hrel
  by_cases hlt : k < n
  ·obtain ⟨g, x, rfl, hx, hc⟩ := HR.out.at_ (k := k) (by rw [← Hn.out]; exact hlt)
   have Hx := Lib.hid hx
   have k0 : (0 : Int) ≤ (k : Int) := by omega
   have k1 : (k : Int) < (n : Int) := by omega
   have HA := Lib.hid (age_first (A := L) (m := m) hx)
   have HN : Hid (¬ ageAt L m k x → agesB L m = false) := Lib.hid fun h1 => agesB_no fun h2 => h1 (h2 k x Hx.out)
   have HY : Hid (ageAt L m k x → ∀ (j : Nat) (x : Int), j < k + 1 → L[j]? = some x → ageAt L m j x) := Lib.hid fun h1 j y hj hy => by
    by_cases hjk : j < k
    ·exact Hall.out j y hjk hy
    ·obtain rfl : j = k := by omega
     rw [Hx.out] at hy
     rw [← Option.some.inj hy]
     exact h1
   clear hx
   by_cases h1 : 0 ≤ x ∧ x ≤ m
   rotate_left
   ·have hno := Lib.hid (HN.out fun h => h1 h.1)
    have h1' : x < 0 ∨ m < x := by omega
    go_wp2_with fail
    refine (inI_no _ _ _ _ h1').mono ?_
    rintro e w1 ⟨rfl, rfl⟩
    go_wp2_with fail
    go_ret
    exact ⟨ret_bool hno.out.symm, rfl⟩
   have H1 := Lib.hid h1
   clear h1
   by_cases h2 : x = 0
   ·subst h2
    have hyes := Lib.hid (HY.out (HA.out.2 ⟨H1.out, .inl rfl⟩))
    go_wp2_with fail
    refine (inI_yes _ _ _ _ H1.out.1 H1.out.2).mono ?_
    rintro e w1 ⟨rfl, rfl⟩
    go_wp2_with fail
    go_roundw
    case rel => exact ⟨k + 1, by omega, by go_num, hyes, by first | rfl | trivial⟩
    case measure => simp [intOf]; omega
   have h2c : (x != 0) = true := by simpa using h2
   obtain ⟨q, hq⟩ : ∃ q, q = fstI L x := ⟨_, rfl⟩
   have HQ := Lib.hid (HI.out x)
   rw [← hq] at HQ
   by_cases h3 : q = (k : Int)
   ·have hyes := Lib.hid (HY.out (HA.out.2 ⟨H1.out, .inr (hq.symm.trans h3)⟩))
    subst h3
    clear hq
    go_wp2_with fail
    refine (inI_yes _ _ _ _ H1.out.1 H1.out.2).mono ?_
    rintro e w1 ⟨rfl, rfl⟩
    go_wp2_with fail
    refine HQ.out.mono ?_
    rintro e w1 ⟨rfl, rfl⟩
    go_wp2_with fail
    go_roundw
    case rel => exact ⟨k + 1, by omega, by go_num, hyes, by first | rfl | trivial⟩
    case measure => simp [intOf]; omega
   ·have hno := Lib.hid (HN.out fun h => by
     rcases (HA.out.1 h).2 with h | h
     ·exact h2 h
     ·exact h3 (hq.trans h))
    have h3c : (q != (k : Int)) = true := by simpa using h3
    clear hq
    go_wp2_with fail
    refine (inI_yes _ _ _ _ H1.out.1 H1.out.2).mono ?_
    rintro e w1 ⟨rfl, rfl⟩
    go_wp2_with fail
    refine HQ.out.mono ?_
    rintro e w1 ⟨rfl, rfl⟩
    go_wp2_with fail
    go_ret
    exact ⟨ret_bool hno.out.symm, rfl⟩
  ·obtain rfl : k = n := by omega
   have hy := Lib.hid (agesB_yes (A := L) (m := m) fun j x hj => Hall.out j x (by rw [Hn.out]; exact (List.getElem?_eq_some_iff.1 hj).1) hj)
   go_wp2_with fail
   go_ret
   exact ⟨ret_bool hy.out.symm, rfl⟩
set_option maxHeartbeats 1000000 in
set_option maxRecDepth 10000 in
theorem dmsI (L : List (List Rc)) (v : Value) (bs : List Nat) (w : World) (h : repRgs.R w L [v] bs) : Calls Try.prog 55 #[v] w fun e w' => e = .returned (.bool (dmsB L)) ∧ Below w.heap.size w w' := by
 obtain ⟨⟨A, c, rfl⟩, hm⟩ := form_lGs h
 obtain ⟨n, hn⟩ : ∃ n, n = L.length := ⟨_, rfl⟩
 rw [← hn] at h hm ⊢
 unfold maxLen at hm
 have Hn := Lib.hid hn
 have HR := Lib.hid h
 clear h hn
 by_cases h3 : n ≤ 3
 rotate_left
 ·have hno := Lib.hid (dmsB_no fun h : dmsP L => h3 (by rw [Hn.out]; exact h.1))
  go_enter Try.func55, Try.ntmps55
  go_wp2_with fail
  go_ret
  exact ⟨ret_bool hno.out.symm, Below.refl _ _⟩
 go_enter Try.func55, Try.ntmps55
 go_wp2_with fail
 go_loopw [4, 10] (fun s4 s10 wr => ∃ k : Nat, k ≤ n ∧ s10 = .int .i64 k ∧ Hid (∀ (j : Nat) (r : List Rc), j < k → L[j]? = some r → okL r = true) ∧ Hid (Below w.heap.size w wr)) (fun _ s10 _ => n - (intOf s10).toNat)
 case atStart => exact ⟨0, Nat.zero_le _, rfl, Lib.hid (fun j x hj => by omega), Lib.hid (Below.refl _ _)⟩
 case round =>
  obtain ⟨k, hk, rfl, Hall, HB⟩ := hrel
  by_cases hlt : k < n
  ·obtain ⟨g, f, d, b, rfl, hf, hR, hC⟩ := at_lGs (Rep.call HR.out HB.out) (k := k) (by rw [← Hn.out]; exact hlt)
   have Hf := Lib.hid hf
   have c0 := hC 0 _ rfl
   rw [Nat.add_zero, Nat.mul_one] at c0
   have hd := r_rg hR
   obtain ⟨A', c', rfl⟩ := hd.form
   have k0 : (0 : Int) ≤ (k : Int) := by omega
   have k1 : (k : Int) < (n : Int) := by omega
   have hb0 := belI_box wr (.cells #[.slice A' f.length c'] 90)
   have HB1 := Lib.hid (belI_call HB.out hb0)
   have HK := Lib.hid (rokI _ f _ (hd.call hb0))
   unfold RokAns at HK
   clear hf hR hC hb0 hd
   by_cases ho : okL f = true
   ·rw [ho] at HK
    have hyes : Hid (∀ (j : Nat) (r : List Rc), j < k + 1 → L[j]? = some r → okL r = true) := Lib.hid fun j y hj hy => by
     by_cases hjk : j < k
     ·exact Hall.out j y hjk hy
     ·obtain rfl : j = k := by omega
      rw [Hf.out] at hy
      rw [← Option.some.inj hy]
      exact ho
    clear ho
    go_wp2_with fail
    refine HK.out.mono ?_
    rintro e w2 ⟨rfl, hb⟩
    have HB2 := Lib.hid (belI_call HB1.out hb)
    clear c0 hb
    go_wp2_with fail
    go_roundw
    case rel => exact ⟨k + 1, by omega, by go_num, hyes, HB2⟩
    case measure => simp [intOf]; omega
   ·have hno := Lib.hid (dmsB_no fun h : dmsP L => ho (h.2 k f Hf.out))
    rw [show okL f = false by simpa using ho] at HK
    clear ho
    go_wp2_with fail
    refine HK.out.mono ?_
    rintro e w2 ⟨rfl, hb⟩
    have HB2 := Lib.hid (belI_call HB1.out hb)
    clear c0 hb
    go_wp2_with fail
    go_ret
    exact ⟨ret_bool hno.out.symm, HB2.out⟩
  ·obtain rfl : k = n := by omega
   have hy := Lib.hid (dmsB_yes (L := L) ⟨by rw [← Hn.out]; exact h3, fun j x hj => Hall.out j x (by rw [Hn.out]; exact (List.getElem?_eq_some_iff.1 hj).1) hj⟩)
   go_wp2_with fail
   go_ret
   exact ⟨ret_bool hy.out.symm, HB.out⟩
set_option maxHeartbeats 1000000 in
set_option maxRecDepth 10000 in
theorem bufI (s : Sn) (u : Value) (L : List Im) (v : Value) (bs cs : List Nat) (w : World) (hs : repSfs.R w s.fs [u] cs) (h : repIms.R w L [v] bs) : Calls Try.prog 54 #[.agg #[.int .i64 s.w, .int .i64 s.h, .int .i64 s.back, u], v] w fun e w' => e = .returned (.bool (bufB s.w s.h L)) ∧ Below w.heap.size w w' := by
 have hA := SnA.born hs
 have hB := belI_box w (.cells #[.int .i64 s.w, .int .i64 s.h, .int .i64 s.back, u] 36)
 obtain ⟨⟨A', c', rfl⟩, _⟩ := repSfs_form hs
 have h := Rep.call h hB
 obtain ⟨⟨A, c, rfl⟩, hm⟩ := form_lIs h
 obtain ⟨n, hn⟩ : ∃ n, n = L.length := ⟨_, rfl⟩
 rw [← hn] at h hm ⊢
 unfold maxLen at hm
 have Hn := Lib.hid hn
 have HR := Lib.hid h
 have HB := Lib.hid hB
 clear h hn hs hB
 by_cases h3 : 1 ≤ n ∧ n ≤ 3
 rotate_left
 ·have hno := Lib.hid (bufB_no fun h : bufP s.w s.h L => h3 (by rw [Hn.out]; exact h.1))
  have h3' : (n : Int) < 1 ∨ 3 < (n : Int) := by omega
  go_enter Try.func54, Try.ntmps54
  go_wp2_with fail
  refine (inI_no _ _ _ _ h3').mono ?_
  rintro e w1 ⟨rfl, rfl⟩
  go_wp2_with fail
  go_ret
  exact ⟨ret_bool hno.out.symm, HB.out⟩
 obtain ⟨W0, hW0⟩ : ∃ W, W = w.alloc (.cells #[.int .i64 s.w, .int .i64 s.h, .int .i64 s.back, .slice A' s.fs.length c'] 36) := ⟨_, rfl⟩
 rw [← hW0] at hA HR HB
 have HW := Lib.hid hW0
 have HA0 := Lib.hid hA
 clear hW0 hA
 go_enter Try.func54, Try.ntmps54
 go_wp2_with fail
 rw [← HW.out]
 refine (inI_yes _ _ _ _ (by omega) (by omega)).mono ?_
 rintro e w1 ⟨rfl, rfl⟩
 go_wp2_with fail
 go_loopw [6, 13] (fun s6 s13 wr => ∃ k : Nat, k ≤ n ∧ s13 = .int .i64 k ∧ Hid (∀ (j : Nat) (f : Im), j < k → L[j]? = some f → bufAt s.w s.h f) ∧ Hid (Below W0.heap.size W0 wr)) (fun _ s13 _ => n - (intOf s13).toNat)
 case atStart => exact ⟨0, Nat.zero_le _, rfl, Lib.hid (fun j x hj => by omega), Lib.hid (Below.refl _ _)⟩
 case round =>
  obtain ⟨k, hk, rfl, Hall, HK⟩ := hrel
  by_cases hlt : k < n
  ·obtain ⟨g, f, d, b, rfl, hf, hR, hC⟩ := at_lIs (Rep.call HR.out HK.out) (k := k) (by rw [← Hn.out]; exact hlt)
   have Hf := Lib.hid hf
   have hA := HA0.out.call HK.out
   have c0 := hC 0 _ rfl
   rw [Nat.add_zero] at c0
   have c1 := hC 1 _ rfl
   have c2 := hC 2 _ rfl
   have hd := repInts_rd (r_im hR)
   obtain ⟨A2, c3, rfl⟩ := hd.form
   have k0 : (0 : Int) ≤ (k : Int) := by omega
   have k1 : (k : Int) < (n : Int) := by omega
   have hb0 := belI_box wr (.cells #[.int .i64 f.w, .int .i64 f.h, .slice A2 f.d.length c3] 58)
   have HB1 := Lib.hid (belI_call HB.out (belI_call HK.out hb0))
   have HK1 := Lib.hid (belI_call HK.out hb0)
   have HI := Lib.hid (imI f.w f.h _ f.d _ (hd.call hb0))
   unfold ImOkAns at HI
   have HN : Hid (¬ bufAt s.w s.h f → bufB s.w s.h L = false) := Lib.hid fun h1 => bufB_no fun h2 => h1 (h2.2 k f Hf.out)
   have HY : Hid (bufAt s.w s.h f → ∀ (j : Nat) (f : Im), j < k + 1 → L[j]? = some f → bufAt s.w s.h f) := Lib.hid fun h1 j y hj hy => by
    by_cases hjk : j < k
    ·exact Hall.out j y hjk hy
    ·obtain rfl : j = k := by omega
     rw [Hf.out] at hy
     rw [← Option.some.inj hy]
     exact h1
   replace hA := hA.call hb0
   obtain ⟨d0, d1, d2, d3⟩ := hA.cells
   have hx := BkAt.new wr 58 #[.int .i64 f.w, .int .i64 f.h, .slice A2 f.d.length c3]
   clear hf hR hC hb0 hd hA hx
   by_cases q1 : f.w = s.w
   rotate_left
   ·have hno := Lib.hid (HN.out fun h => q1 h.1)
    have q1b : (f.w != s.w) = true := by simpa using q1
    go_wp2_with fail
    go_ret
    exact ⟨ret_bool hno.out.symm, HB1.out⟩
   by_cases q2 : f.h = s.h
   rotate_left
   ·have hno := Lib.hid (HN.out fun h => q2 h.2.1)
    have q1b : (f.w != s.w) = false := by simpa using q1
    have q2b : (f.h != s.h) = true := by simpa using q2
    clear q1
    go_wp2_with fail
    go_ret
    exact ⟨ret_bool hno.out.symm, HB1.out⟩
   have q1b : (f.w != s.w) = false := by simpa using q1
   have q2b : (f.h != s.h) = false := by simpa using q2
   have Q := Lib.hid (And.intro q1 q2)
   clear q1 q2
   by_cases q3 : imOk f.w f.h f.d
   rotate_left
   ·have hno := Lib.hid (HN.out fun h => q3 h.2.2)
    rw [imB_no q3] at HI
    go_wp2_with fail
    refine HI.out.mono ?_
    rintro e w2 ⟨rfl, hb⟩
    have HB2 := Lib.hid (belI_call HB1.out hb)
    clear c0 c1 c2 d0 d1 d2 d3 hb
    go_wp2_with fail
    go_ret
    exact ⟨ret_bool hno.out.symm, HB2.out⟩
   ·have hyes := Lib.hid (HY.out ⟨Q.out.1, Q.out.2, q3⟩)
    rw [imB_yes q3] at HI
    clear q3
    go_wp2_with fail
    refine HI.out.mono ?_
    rintro e w2 ⟨rfl, hb⟩
    have HK2 := Lib.hid (belI_call HK1.out hb)
    clear c0 c1 c2 d0 d1 d2 d3 hb
    go_wp2_with fail
    go_roundw
    case rel => exact ⟨k + 1, by omega, by go_num, hyes, HK2⟩
    case measure => simp [intOf]; omega
  ·obtain rfl : k = n := by omega
   have hy := Lib.hid (bufB_yes (W := s.w) (H := s.h) (L := L) ⟨by rw [← Hn.out]; exact h3, fun j x hj => Hall.out j x (by rw [Hn.out]; exact (List.getElem?_eq_some_iff.1 hj).1) hj⟩)
   go_wp2_with fail
   go_ret
   exact ⟨ret_bool hy.out.symm, belI_call HB.out HK.out⟩
end Go.Proofs.Ytnndifemkichmaa
