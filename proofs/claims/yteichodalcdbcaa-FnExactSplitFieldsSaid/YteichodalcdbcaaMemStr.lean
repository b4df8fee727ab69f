/- The contracts of laws.eqStringS, markText, markStringS, heldStringS. No statement is proved here. -/
import Derived.Test.YteichodalcdbcaaRd
import Derived.Lib.ItoaNum
import Derived.Lib.ItoaLen
import Derived.Laws.IdiomStrings
import Derived.Laws.Concat
import Derived.Test.YteichodalcdbcaaSplitP
namespace Go.Proofs.Yteichodalcdbcaa
open Go.RowKit

theorem toList_ne {p r : ByteArray} (h : p ≠ r) : (p.toList == r.toList) = false := by
  rw [beq_eq_false_iff_ne]
  intro e
  rw [ByteArray.toList_eq, ByteArray.toList_eq] at e
  obtain ⟨⟨p⟩⟩ := p
  obtain ⟨⟨r⟩⟩ := r
  exact h (by simp at e; rw [e])

set_option maxHeartbeats 1000000 in
theorem eqStrS (v u : Value) (l m : List ByteArray) (w : World) (hv : Rd w v l.length (strCells l)) (hu : Rd w u m.length (strCells m)) :
    Calls Try.prog 17 #[v, u] w fun e w' => e = .returned (.bool (decide (l = m))) ∧ ∃ q, w' = w.drewN q := by
  obtain ⟨A, c, rfl⟩ := hv.form
  obtain ⟨A', c', rfl⟩ := hu.form
  have hn1 : l.length ≤ 9223372036854775807 := by have := hv.len.2; unfold maxLen at this; omega
  have hn2 : m.length ≤ 9223372036854775807 := by have := hu.len.2; unfold maxLen at this; omega
  have Hv := Lib.hid hv
  have Hu := Lib.hid hu
  clear hv hu
  by_cases hlen : l.length = m.length
  · obtain ⟨n, hn⟩ : ∃ n, n = l.length := ⟨_, rfl⟩
    rw [← hn] at hn1 ⊢
    rw [← hlen, ← hn]
    have Hn := Lib.hid hn
    have Hlen := Lib.hid hlen
    clear hlen hn2 hn
    go_enter Try.func17, Try.ntmps17
    go_wp2_with fail
    go_loopw [5] (fun i wr => ∃ k : Nat, k ≤ n ∧ i = .int .i64 k ∧ (∀ j, j < k → l[j]? = m[j]?) ∧ ∃ q, wr = w.drewN q) (fun i _ => n - (intOf i).toNat)
    case atStart => exact ⟨0, Nat.zero_le _, rfl, fun j hj => by omega, 0, rfl⟩
    case round =>
      obtain ⟨k, hk, rfl, hall, q, rfl⟩ := hrel
      have Hall := Lib.hid hall
      clear hall
      by_cases hlt : k < n
      · have h1 := Hv.out
        have h2 := Hu.out
        rw [← Hlen.out, ← Hn.out] at h2
        rw [← Hn.out] at h1
        obtain ⟨a, x, rfl, hx, hcx⟩ := h1.at_ hlt
        obtain ⟨a', y, rfl, hy, hcy⟩ := h2.at_ hlt
        clear h1 h2
        simp only [strCells, List.getElem?_map] at hx hy
        obtain ⟨p, hp, rfl⟩ := Option.map_eq_some_iff.1 hx
        obtain ⟨r, hr, rfl⟩ := Option.map_eq_some_iff.1 hy
        have Hp := Lib.hid hp
        have Hr := Lib.hid hr
        clear hx hy hp hr
        have k0 : (0 : Int) ≤ (k : Int) := by omega
        have k1 : (k : Int) < (n : Int) := by omega
        by_cases hpr : p = r
        · subst hpr
          go_wp2_with fail
          go_quiet (fail)
          go_wp2_with fail
          rename_i nq
          go_roundw
          case rel =>
            refine ⟨k + 1, by omega, by go_num, fun j hj => ?_, _, rfl⟩
            by_cases e : j < k
            · exact Hall.out j e
            · obtain rfl : j = k := by omega
              rw [Hp.out, Hr.out]
          case measure => simp [intOf]; omega
        · have hne : l ≠ m := fun e => hpr (by have h1 := Hp.out; rw [e, Hr.out] at h1; injection h1 with h1; exact h1.symm)
          have Hne := Lib.hid hne
          have hpt := toList_ne hpr
          clear hne
          go_wp2_with fail
          go_quiet (fail)
          go_wp2_with fail
          go_ret
          exact ⟨ret_bool (by simp [Hne.out]), q + _, by first | rfl | exact World.drewN_drewN _ _ _⟩
      · obtain rfl : k = n := by omega
        have heq : l = m := List.ext_getElem? fun j => by
          by_cases e : j < k
          · exact Hall.out j e
          · rw [List.getElem?_eq_none (by rw [← Hn.out]; omega), List.getElem?_eq_none (by rw [← Hlen.out, ← Hn.out]; omega)]
        have Heq := Lib.hid heq
        clear heq
        go_wp2_with fail
        go_ret
        exact ⟨ret_bool (by simp [Heq.out]), _, rfl⟩
  · have hne : l ≠ m := fun e => hlen (by rw [e])
    have Hne := Lib.hid hne
    clear hne
    have hb : ((l.length : Int) != (m.length : Int)) = true := by rw [bne_iff_ne]; omega
    go_enter Try.func17, Try.ntmps17
    go_wp2_with fail
    go_ret
    exact ⟨ret_bool (by simp [Hne.out]), 0, rfl⟩

/-- the text that laws.markText answers for a number from 1 on -/
def mt (k : Nat) : ByteArray := ⟨(109 :: Lib.decDigits k).toArray⟩

theorem dec_step (k : Nat) (h : 0 < k) (out : List UInt8) : (if k = 0 then [] else Lib.decDigits k) ++ out = (if k / 10 = 0 then [] else Lib.decDigits (k / 10)) ++ (UInt8.ofNat (48 + k % 10) :: out) := by
  rw [if_neg (by omega)]
  by_cases h1 : k < 10
  · rw [if_pos (by omega), Lib.decDigits_one h1]
    have : k % 10 = k := by omega
    rw [this]; rfl
  · rw [if_neg (by omega)]
    conv => lhs; rw [Lib.decDigits, dif_neg h1]
    simp

theorem conv_one (w : World) (x : Int) (d : UInt8) (hd : (d.toNat : Int) = x) : (convert 22 9 (.slice (some ⟨w.heap.size, 0, none⟩) 1 1)).run Try.prog (w.alloc (.cells #[.int .u8 x] 5)) =
    .ok (.string ⟨#[d]⟩) (w.alloc (.cells #[.int .u8 x] 5)) := by
  have h := run_convert_bytes_back (P := Try.prog) (w.alloc (.cells #[.int .u8 x] 5)) 22 9 5 ⟨w.heap.size, 0, none⟩ 1 [d]
    Try.underlying22 Try.underlying5 Try.underlying9 (fun j hj => by
      have : j = 0 := by simp at hj; omega
      subst this
      rw [show (⟨w.heap.size, 0, none⟩ : Addr).add 0 = ⟨w.heap.size, 0, none⟩ from rfl, cell_of_row _ _ 0 _ _ _ (heap_alloc_new w _)]
      simp [hd])
  exact h

set_option maxHeartbeats 1000000 in
theorem markT (k : Nat) (h0 : 0 < k) (hm : k ≤ 9223372036854775807) (w : World) :
    Calls Try.prog 29 #[.int .i64 k] w fun e w' => e = .returned (.string (mt k)) ∧ Below w.heap.size w w' := by
  go_enter Try.func29, Try.ntmps29
  go_wp2_with fail
  go_loopw [0, 3] (fun i t wr => ∃ (n : Nat) (out : List UInt8), n ≤ k ∧ i = .int .i64 n ∧ t = .string ⟨out.toArray⟩ ∧ Hid (Lib.decDigits k = (if n = 0 then [] else Lib.decDigits n) ++ out) ∧ Below w.heap.size w wr) (fun i _ _ => (intOf i).toNat)
  case atStart => exact ⟨k, [], Nat.le_refl _, rfl, rfl, Lib.hid (by rw [if_neg (by omega), List.append_nil]), Below.refl _ _⟩
  case round =>
    obtain ⟨n, out, hn, rfl, rfl, Ho, hb⟩ := hrel
    have hsz := hb.size
    have Hb := Lib.hid hb
    clear hb
    have hlen : out.length ≤ 21 := by
      have h1 := Lib.itoa_length_le (k : Int) (by omega) (by omega)
      rw [Lib.itoa_nonneg, Ho.out, List.length_append] at h1
      omega
    by_cases hp : 0 < n
    · obtain ⟨d, hd⟩ : ∃ d, d = UInt8.ofNat (48 + n % 10) := ⟨_, rfl⟩
      have hcv := conv_one wr (48 + (n : Int) % 10) d (by rw [hd]; simp; omega)
      have e2 := dec_step n hp out
      rw [← Ho.out, ← hd] at e2
      have E2 := Lib.hid e2
      clear e2 Ho hd
      go_wp2_with fail
      go_roundw
      case rel => exact ⟨n / 10, _, by omega, by go_num, ByteArray.mk_append_mk [d] out ▸ rfl, E2, Hb.out.alloc hsz _⟩
      case measure => simp [intOf]; omega
    · obtain rfl : n = 0 := by omega
      go_wp2_with fail
      go_ret
      refine ⟨?_, Hb.out⟩
      have h := Ho.out
      simp only [if_pos, List.nil_append] at h
      unfold mt
      rw [h]
      rfl
end Go.Proofs.Yteichodalcdbcaa
