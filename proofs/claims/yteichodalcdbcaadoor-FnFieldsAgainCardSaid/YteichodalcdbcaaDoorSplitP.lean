/- Plain functions of splitting a line into fields. No statement is proved here. -/
import Derived.Test.YteichodalcdbcaaDoorBase
namespace Go.Proofs.YteichodalcdbcaaDoor
open Go.RowKit

/-- byte k of a line; a space behind its end -/
def chr (s : ByteArray) (k : Nat) : UInt8 := s.data.toList.getD k 32
theorem chr_in (s : ByteArray) (k : Nat) (h : k < s.size) : chr s k = s[k] := by
  unfold chr; rw [List.getD_eq_getElem?_getD, List.getElem?_eq_getElem (by simpa using h)]; rfl
theorem chr_end (s : ByteArray) (k : Nat) (h : s.size ≤ k) : chr s k = 32 := by
  unfold chr; rw [List.getD_eq_getElem?_getD, List.getElem?_eq_none (by simpa using h)]; rfl
def seg (s : ByteArray) (a b : Nat) : List ByteArray := if a < b then [s.extract a b] else []
/-- the fields that end before byte k, and where the next one begins -/
def scan (s : ByteArray) : Nat → List ByteArray × Nat
  | 0 => ([], 0)
  | k + 1 => if chr s k = 32 then ((scan s k).1 ++ seg s (scan s k).2 k, k + 1) else scan s k
theorem scan_sp (s : ByteArray) (k : Nat) (h : chr s k = 32) : scan s (k + 1) = ((scan s k).1 ++ seg s (scan s k).2 k, k + 1) := by
  simp only [scan]; rw [if_pos h]
theorem scan_no (s : ByteArray) (k : Nat) (h : chr s k ≠ 32) : scan s (k + 1) = scan s k := by
  simp only [scan]; rw [if_neg h]
theorem seg_length (s : ByteArray) (a b : Nat) : (seg s a b).length ≤ 1 := by unfold seg; split <;> simp
theorem scan_bd (s : ByteArray) (k : Nat) : (scan s k).1.length ≤ k ∧ (scan s k).2 ≤ k := by
  induction k with
  | zero => simp [scan]
  | succ k ih =>
    by_cases h : chr s k = 32
    · rw [scan_sp s k h]
      have := seg_length s (scan s k).2 k
      simp only [List.length_append]
      omega
    · rw [scan_no s k h]; omega
def okAt (s : ByteArray) (k : Nat) : Prop := 32 ≤ (chr s k).toNat ∧ (chr s k).toNat ≤ 126
instance (s : ByteArray) (k : Nat) : Decidable (okAt s k) := by unfold okAt; exact inferInstance
/-- the fields of a line; none if it has none -/
def fieldsOf (s : ByteArray) : Option (List ByteArray) :=
  if s.size ≤ 600 ∧ (∀ k, k < s.size → okAt s k) ∧ (scan s (s.size + 1)).1.length ≤ 24 then some (scan s (s.size + 1)).1 else none
theorem fields_long {s : ByteArray} (h : 600 < s.size) : fieldsOf s = none := by unfold fieldsOf; rw [if_neg (by omega)]
theorem fields_bad {s : ByteArray} {k : Nat} (hk : k < s.size) (h : ¬ okAt s k) : fieldsOf s = none := by
  unfold fieldsOf; rw [if_neg (fun a => h (a.2.1 k hk))]
theorem fields_many {s : ByteArray} (h : 24 < (scan s (s.size + 1)).1.length) : fieldsOf s = none := by unfold fieldsOf; rw [if_neg (by omega)]
theorem fields_good {s : ByteArray} (h0 : s.size ≤ 600) (h1 : ∀ k, k < s.size → okAt s k) (h2 : (scan s (s.size + 1)).1.length ≤ 24) : fieldsOf s = some (scan s (s.size + 1)).1 := by
  unfold fieldsOf; rw [if_pos ⟨h0, h1, h2⟩]

def strCells (l : List ByteArray) : List Value := l.map Value.string
theorem strCells_append (a b : List ByteArray) : strCells (a ++ b) = strCells a ++ strCells b := by simp [strCells]
theorem strCells_length (a : List ByteArray) : (strCells a).length = a.length := by simp [strCells]
/-- what splitting answers: a slice of the call's own that holds the fields -/
def SplitOut (s : ByteArray) (w : World) (e : Ending) (w' : World) : Prop :=
  ∃ (v : Value) (l : List ByteArray) (ok : Bool), e = .returned (.tuple #[v, .bool ok]) ∧ ok = (fieldsOf s).isSome ∧ l = (fieldsOf s).getD [] ∧ w'.ownsRow w.heap.size 9 1 v l.length (strCells l) ∧ Below w.heap.size w w'
theorem infoStr : (Tryd.prog.info? 9).map (fun i => (i.zero, i.size, i.bytes)) = some (some (.string ByteArray.empty), 1, 16) := by kernel_rfl
end Go.Proofs.YteichodalcdbcaaDoor
