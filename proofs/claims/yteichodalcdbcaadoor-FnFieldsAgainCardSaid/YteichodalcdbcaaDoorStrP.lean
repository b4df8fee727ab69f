/- Plain lemmas on strings and bytes: conversions, digits, decimal numerals. No statement is proved here. -/
import Derived.Test.YteichodalcdbcaaDoorBase
import Derived.BigQuiet
import Derived.Deep.QuietTactic
import Derived.Maps.AppendAt
import Derived.StillTailTactics
import Derived.Lib.UnsafeStr
import Derived.Laws.IdiomStrings
import Derived.Laws.BytesArg
import Derived.OwnWalk
import Derived.Handy
import Derived.Deep.RegionHeld3
import Derived.Deep.AppendLies
import Derived.Deep.DrawnRows
import Derived.Deep.OwnRows
import Derived.Lib.ItoaNum
import Derived.Lib.ItoaLen
import Derived.Laws.Concat
namespace Go.Proofs.YteichodalcdbcaaDoor
open Go.RowKit

/-- the digit of a number from 0 to 15 -/
def fig (x : Nat) : UInt8 := if x < 10 then (48 + x).toUInt8 else (87 + x).toUInt8
def hexOf (l : List UInt8) : List UInt8 := l.flatMap fun c => [fig (c.toNat / 16), fig (c.toNat % 16)]

theorem infoByte : (Tryd.prog.info? 5).map (fun i => (i.zero, i.size, i.bytes)) = some (some (.int .u8 0), 1, 1) := by kernel_rfl

theorem hexOf_snoc (l : List UInt8) (c : UInt8) : hexOf (l ++ [c]) = hexOf l ++ [fig (c.toNat / 16), fig (c.toNat % 16)] := by simp [hexOf]
theorem take_snoc (s : ByteArray) (k : Nat) (h : k < s.size) : s.data.toList.take (k + 1) = s.data.toList.take k ++ [s[k]] := by
  rw [List.take_succ_eq_append_getElem (by simpa using h)]; rfl
theorem hexCells_snoc (s : ByteArray) (k : Nat) (h : k < s.size) : Lib.byteCells (hexOf (s.data.toList.take (k + 1))) = Lib.byteCells (hexOf (s.data.toList.take k)) ++ [.int .u8 (fig (s[k].toNat / 16)).toNat, .int .u8 (fig (s[k].toNat % 16)).toNat] := by
  rw [take_snoc s k h, hexOf_snoc]; simp [Lib.byteCells]

theorem hexOf_length (l : List UInt8) : (hexOf l).length = 2 * l.length := by
  induction l with
  | nil => rfl
  | cons c l ih => simp [hexOf] at ih ⊢; omega

/-- 'string(b)' of a row of the call's own. -/
theorem conv_own {P : Program} (w : World) (src dst e : TypeId) (hs : P.underlying src = some (.slice e)) (he : P.underlying e = some (.int .u8)) (hd : P.underlying dst = some .string)
    {base n : Nat} {v : Value} {l : List UInt8} (hown : w.ownsRow base e 1 v n (Lib.byteCells l)) (hn : l.length = n) : (convert src dst v).run P w = .ok (.string ⟨l.toArray⟩) w := by
  subst hn
  rcases hown.2 with ⟨rfl, h0⟩ | ⟨g, cap, cur, rfl, -, -, -, -, -, -⟩
  · have : l = [] := List.eq_nil_of_length_eq_zero h0
    subst this
    exact run_convert_bytes_nil w src e hs he 0 0 dst hd
  · exact run_convert_bytes_back (P := P) w src dst e ⟨g, 0, none⟩ cap l hs he hd (fun j hj => hown.cells (g := g) rfl j _ (by simp [Lib.byteCells, hj]))

/-- 'string(b)' of a row that is known cell by cell. -/
theorem conv_row {P : Program} (w : World) (src dst e : TypeId) (hs : P.underlying src = some (.slice e)) (he : P.underlying e = some (.int .u8)) (hd : P.underlying dst = some .string)
    {g t n cap : Nat} {f : Nat → Value} {l : List UInt8} (h : w.rowIs g t n f) (hl : l.length = n) (hf : ∀ i (hi : i < l.length), f i = .int .u8 l[i].toNat) :
    (convert src dst (.slice (some ⟨g, 0, none⟩) n cap)).run P w = .ok (.string ⟨l.toArray⟩) w := by
  subst hl
  refine run_convert_bytes_back (P := P) w src dst e ⟨g, 0, none⟩ cap l hs he hd (fun j hj => ?_)
  have hadd : (⟨g, 0, none⟩ : Addr).add j = ⟨g, j, none⟩ := by unfold Addr.add; split <;> simp_all
  rw [hadd, h.cell hj, hf j hj]

theorem dec_step (k : Nat) (h : 0 < k) (out : List UInt8) : (if k = 0 then [] else Lib.decDigits k) ++ out = (if k / 10 = 0 then [] else Lib.decDigits (k / 10)) ++ (UInt8.ofNat (48 + k % 10) :: out) := by
  rw [if_neg (by omega)]
  by_cases h1 : k < 10
  · rw [if_pos (by omega), Lib.decDigits_one h1]
    have : k % 10 = k := by omega
    rw [this]; rfl
  · rw [if_neg (by omega)]
    conv => lhs; rw [Lib.decDigits, dif_neg h1]
    simp

theorem conv_one (w : World) (x : Int) (d : UInt8) (hd : (d.toNat : Int) = x) : (convert 22 9 (.slice (some ⟨w.heap.size, 0, none⟩) 1 1)).run Tryd.prog (w.alloc (.cells #[.int .u8 x] 5)) =
    .ok (.string ⟨#[d]⟩) (w.alloc (.cells #[.int .u8 x] 5)) := by
  have h := run_convert_bytes_back (P := Tryd.prog) (w.alloc (.cells #[.int .u8 x] 5)) 22 9 5 ⟨w.heap.size, 0, none⟩ 1 [d]
    Tryd.underlying22 Tryd.underlying5 Tryd.underlying9 (fun j hj => by
      have : j = 0 := by simp at hj; omega
      subst this
      rw [show (⟨w.heap.size, 0, none⟩ : Addr).add 0 = ⟨w.heap.size, 0, none⟩ from rfl, cell_of_row _ _ 0 _ _ _ (heap_alloc_new w _)]
      simp [hd])
  exact h

def EncOut (s : ByteArray) (w : World) (e : Ending) (w' : World) : Prop :=
  e = .returned (.tuple #[.string ⟨(hexOf s.data.toList).toArray⟩, .bool true]) ∧ Below w.heap.size w w'

end Go.Proofs.YteichodalcdbcaaDoor
