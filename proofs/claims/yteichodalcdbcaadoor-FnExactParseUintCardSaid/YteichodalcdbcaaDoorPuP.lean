/- Plain facts on decimal numerals and what reads them. No statement is proved here. -/
import Derived.Test.YteichodalcdbcaaDoorStrP
import Derived.Test.YteichodalcdbcaaDoorFmtI
import Derived.Lib.AtoiAll
namespace Go.Proofs.YteichodalcdbcaaDoor
open Go.RowKit
open Lib (decDigits)

theorem dec_small {m : Nat} (h : m < 10) : decDigits m = [UInt8.ofNat (48 + m)] := Lib.decDigits_one h
theorem dec_big {m : Nat} (h : ¬ m < 10) : decDigits m = decDigits (m / 10) ++ [UInt8.ofNat (48 + m % 10)] := by rw [decDigits, dif_neg h]
theorem dig_nat {d : Nat} (h : d < 10) : (UInt8.ofNat (48 + d)).toNat = 48 + d := by simp; omega
theorem dec_digit (m : Nat) : ∀ c ∈ decDigits m, 48 ≤ c.toNat ∧ c.toNat ≤ 57 := by
  induction m using Nat.strongRecOn with
  | _ m ih =>
    by_cases h : m < 10
    · rw [dec_small h]; intro c hc
      have hc' : c = UInt8.ofNat (48 + m) := by simpa using hc
      rw [hc', dig_nat h]; omega
    · rw [dec_big h]; intro c hc
      rcases List.mem_append.1 hc with hc | hc
      · exact ih (m / 10) (by omega) c hc
      · have hc' : c = UInt8.ofNat (48 + m % 10) := by simpa using hc
        rw [hc', dig_nat (by omega)]; omega
theorem dec_ne (m : Nat) : decDigits m ≠ [] := by
  by_cases h : m < 10
  · rw [dec_small h]; simp
  · rw [dec_big h]; simp
theorem dec_length (k m : Nat) (h : m < 10 ^ k) (hk : 0 < k) : (decDigits m).length ≤ k := by
  induction k generalizing m with
  | zero => omega
  | succ k ih =>
    by_cases h10 : m < 10
    · rw [dec_small h10]; simp
    · rw [dec_big h10, List.length_append]
      by_cases hk0 : k = 0
      · subst hk0; omega
      · have := ih (m / 10) (by rw [Nat.pow_succ] at h; omega) (by omega)
        simp; omega
/-- the number that digits spell -/
def valN (l : List UInt8) : Nat := l.foldl (fun a c => 10 * a + (c.toNat - 48)) 0
theorem valN_snoc (l : List UInt8) (c : UInt8) : valN (l ++ [c]) = 10 * valN l + (c.toNat - 48) := by simp [valN]
theorem valN_dec (m : Nat) : valN (decDigits m) = m := by
  induction m using Nat.strongRecOn with
  | _ m ih =>
    by_cases h : m < 10
    · rw [dec_small h]; simp [valN]; omega
    · rw [dec_big h, valN_snoc, ih (m / 10) (by omega), dig_nat (by omega)]; omega
theorem dec_inj {m n : Nat} (h : decDigits m = decDigits n) : m = n := by rw [← valN_dec m, h, valN_dec]
theorem parse_app : ∀ (l r : List UInt8) (acc u : Nat), Lib.parseUint10 acc l = .ok u → Lib.parseUint10 acc (l ++ r) = Lib.parseUint10 u r
  | [], r, acc, u, h => by simp only [Lib.parseUint10] at h; injection h with h; subst h; rfl
  | c :: l, r, acc, u, h => by
    simp only [Lib.parseUint10, List.cons_append] at h ⊢
    split at h
    · rename_i h1
      rw [if_pos h1]
      split at h
      · cases h
      · rename_i h2
        rw [if_neg h2]
        split at h
        · cases h
        · rename_i h3
          rw [if_neg h3]
          exact parse_app l r _ u h
    · cases h
theorem parse_dec (m : Nat) (hm : m ≤ 1000000000) : Lib.parseUint10 0 (decDigits m) = .ok m := by
  induction m using Nat.strongRecOn with
  | _ m ih =>
    by_cases h : m < 10
    · rw [dec_small h]
      simp only [Lib.parseUint10, dig_nat h]
      rw [if_pos (by omega), if_neg (by omega), if_neg (by omega)]
      congr 1; omega
    · rw [dec_big h, parse_app _ _ _ _ (ih (m / 10) (by omega) (by omega))]
      simp only [Lib.parseUint10, dig_nat (show m % 10 < 10 by omega)]
      rw [if_pos (by omega), if_neg (by omega), if_neg (by omega)]
      congr 1; omega
theorem atoi_dec (m : Nat) (hm : m ≤ 1000000000) : Lib.atoiAll (decDigits m) = .ok (m : Int) := by
  have hd := dec_digit m
  have hp := parse_dec m hm
  have hne := dec_ne m
  generalize decDigits m = l at *
  cases l with
  | nil => exact absurd rfl hne
  | cons c r =>
    have hc := hd c (by simp)
    have hmag : Lib.parseMag (c :: r) = .ok m := by unfold Lib.parseMag; rw [if_neg (by simp)]; exact hp
    have h1 : ¬ (c.toNat = 43 ∨ c.toNat = 45) := by omega
    have h2 : ¬ c.toNat = 45 := by omega
    simp only [Lib.atoiAll, if_neg h1, hmag]
    rw [if_neg (by omega), if_neg (by omega), if_neg h2]

/-- what ParseUint answers: the number whose text it is, or 0 and false -/
def PU (l : List UInt8) (n : Int) (ok : Bool) : Prop := (ok = true ∧ ∃ m : Nat, n = m ∧ m ≤ 1000000000 ∧ decDigits m = l) ∨ (ok = false ∧ n = 0 ∧ ∀ m : Nat, m ≤ 1000000000 → decDigits m ≠ l)
theorem PU.uniq {l : List UInt8} {n n' : Int} {ok ok' : Bool} (h : PU l n ok) (h' : PU l n' ok') : n = n' ∧ ok = ok' := by
  rcases h with ⟨rfl, m, rfl, hm, hl⟩ | ⟨rfl, rfl, hno⟩
  · rcases h' with ⟨rfl, m', rfl, hm', hl'⟩ | ⟨rfl, rfl, hno'⟩
    · exact ⟨by rw [dec_inj (hl.trans hl'.symm)], rfl⟩
    · exact absurd hl (hno' m hm)
  · rcases h' with ⟨rfl, m', rfl, hm', hl'⟩ | ⟨rfl, rfl, hno'⟩
    · exact absurd hl' (hno m' hm')
    · exact ⟨rfl, rfl⟩
def PuOut (s : ByteArray) (w : World) (e : Ending) (w' : World) : Prop := ∃ (n : Int) (ok : Bool), e = .returned (.tuple #[.int .i64 n, .bool ok]) ∧ PU s.data.toList n ok ∧ Below w.heap.size w w'
theorem dec_toList (m : Nat) : (dec (m : Int)).data.toList = decDigits m := by unfold dec; rw [Lib.itoa_nonneg]
theorem dec_eq_iff (m : Nat) (s : ByteArray) : dec (m : Int) = s ↔ decDigits m = s.data.toList := by
  constructor
  · rintro rfl; exact (dec_toList m).symm
  · intro h; unfold dec; rw [Lib.itoa_nonneg, h]
theorem str_ne {a b : ByteArray} (h : a ≠ b) : (a.toList == b.toList) = false := by
  rw [beq_eq_false_iff_ne]
  intro e
  rw [ByteArray.toList_eq, ByteArray.toList_eq] at e
  obtain ⟨⟨p⟩⟩ := a
  obtain ⟨⟨r⟩⟩ := b
  exact h (by simp at e; rw [e])
end Go.Proofs.YteichodalcdbcaaDoor
