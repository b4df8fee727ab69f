/- Plain functions of hexadecimal decoding. No statement is proved here. -/
import Derived.Test.YteichodalcdbcaaDoorBase
namespace Go.Proofs.YteichodalcdbcaaDoor
open Go.RowKit

/-- the value of a hexadecimal digit, -1 for any other byte -/
def hv (c : UInt8) : Int := if 48 ≤ c.toNat ∧ c.toNat ≤ 57 then (c.toNat : Int) - 48 else if 97 ≤ c.toNat ∧ c.toNat ≤ 102 then (c.toNat : Int) - 87 else -1
theorem hv_bd (c : UInt8) : -1 ≤ hv c ∧ hv c ≤ 15 := by unfold hv; split <;> (try split) <;> omega
/-- byte i of what is decoded -/
def decAt (l : List UInt8) (i : Nat) : UInt8 := (16 * hv (l.getD (2 * i) 0) + hv (l.getD (2 * i + 1) 0)).toNat.toUInt8
def decOf (l : List UInt8) (n : Nat) : List UInt8 := (List.range n).map (decAt l)
theorem decOf_succ (l : List UInt8) (n : Nat) : decOf l (n + 1) = decOf l n ++ [decAt l n] := by simp [decOf, List.range_succ]
theorem decOf_length (l : List UInt8) (n : Nat) : (decOf l n).length = n := by simp [decOf]
def good (l : List UInt8) (i : Nat) : Prop := 0 ≤ hv (l.getD (2 * i) 0) ∧ 0 ≤ hv (l.getD (2 * i + 1) 0)
instance (l : List UInt8) (i : Nat) : Decidable (good l i) := by unfold good; exact inferInstance
/-- what decoding answers -/
def decR (l : List UInt8) : Value := if ∀ i, i < l.length / 2 → good l i then .tuple #[.string ⟨(decOf l (l.length / 2)).toArray⟩, .bool true] else .tuple #[.string ByteArray.empty, .bool false]
theorem decR_bad {l : List UInt8} {k : Nat} (hk : k < l.length / 2) (h : ¬ good l k) : decR l = .tuple #[.string ByteArray.empty, .bool false] := by
  unfold decR; rw [if_neg (fun a => h (a k hk))]
theorem decR_good {l : List UInt8} (h : ∀ i, i < l.length / 2 → good l i) : decR l = .tuple #[.string ⟨(decOf l (l.length / 2)).toArray⟩, .bool true] := by
  unfold decR; rw [if_pos h]
theorem getD_byte (s : ByteArray) (k : Nat) (h : k < s.size) : s.data.toList.getD k 0 = s[k] := by
  rw [List.getD_eq_getElem?_getD, List.getElem?_eq_getElem (by simpa using h)]; rfl
theorem decAt_cell {l : List UInt8} {k : Nat} (h : good l k) : (((16 * hv (l.getD (2 * k) 0) + hv (l.getD (2 * k + 1) 0)).toNat.toUInt8.toNat : Nat) : Int) = 16 * hv (l.getD (2 * k) 0) + hv (l.getD (2 * k + 1) 0) := by
  have h1 := hv_bd (l.getD (2 * k) 0)
  have h2 := hv_bd (l.getD (2 * k + 1) 0)
  obtain ⟨h3, h4⟩ := h
  generalize hv (l.getD (2 * k) 0) = x at *
  generalize hv (l.getD (2 * k + 1) 0) = y at *
  obtain ⟨n, hn⟩ := Int.eq_ofNat_of_zero_le (show 0 ≤ 16 * x + y by omega)
  rw [hn]
  simp
  omega

def DecOut (s : ByteArray) (w : World) (e : Ending) (w' : World) : Prop := e = .returned (decR s.data.toList) ∧ Below w.heap.size w w'
end Go.Proofs.YteichodalcdbcaaDoor
