/- The contracts of laws.markStringS and heldStringS. No statement is proved here. -/
import Derived.Test.YteichodalcdbcaaMemStr
import Derived.Deep.AppendLies
import Derived.Deep.RegionHeld3
namespace Go.Proofs.Yteichodalcdbcaa
open Go.RowKit

theorem own_below {w w' : World} {B B' : Nat} {e : TypeId} {size : Nat} {v : Value} {n : Nat} {xs : List Value} (h : w.ownsRow B e size v n xs) (hb : Below B' w w') (hB : w.heap.size ≤ B') : w'.ownsRow B e size v n xs :=
  h.kept (row := none) ⟨hb.os, hb.tape, hb.output, hb.size, fun k hk _ => hb.block k (by omega)⟩ (by cases hv : v.ownBlock <;> simp)
theorem grown_below {a w w' : World} {row : Option Nat} (h : a.grownBy w row) (hb : Below w.heap.size w w') : a.grownBy w' row :=
  h.trans ⟨hb.os, hb.tape, hb.output, hb.size, fun k hk _ => hb.block k hk⟩

/-- the texts with which a row is marked -/
def marks (k n : Nat) : List ByteArray := (List.range n).map fun j => mt (k + j)
theorem marks_length (k n : Nat) : (marks k n).length = n := by simp [marks]
theorem marks_get (k n j : Nat) (h : j < n) : (marks k n)[j]? = some (mt (k + j)) := by simp [marks, h]
theorem marks_set (k j : Nat) (l : List ByteArray) (h : j < l.length) : (strCells (marks k j ++ l.drop j)).set j (.string (mt (k + j))) = strCells (marks k (j + 1) ++ l.drop (j + 1)) := by
  have hl : (strCells (marks k j)).length = j := by rw [strCells_length, marks_length]
  rw [strCells_append, List.set_append_right _ _ (by omega), hl, Nat.sub_self, List.drop_eq_getElem_cons h]
  simp only [strCells, List.map_cons, List.set_cons_zero, marks, List.range_succ, List.map_append, List.map_map, List.map_nil, List.append_assoc, List.cons_append, List.nil_append]

set_option maxHeartbeats 1000000 in
theorem markStr (B : Nat) (v : Value) (l : List ByteArray) (k0 : Nat) (w : World) (h0 : 0 < k0) (hm : k0 + l.length ≤ 1000000000) (hown : w.ownsRow B 9 1 v l.length (strCells l)) :
    Calls Try.prog 18 #[v, .int .i64 k0] w fun e w' => e = .returned (.int .i64 ((k0 + l.length : Nat) : Int)) ∧ w'.ownsRow B 9 1 v l.length (strCells (marks k0 l.length)) ∧ w.grownBy w' v.ownBlock := by
  obtain ⟨A, c, rfl⟩ := (Rd.of_own hown).form
  obtain ⟨n, hn⟩ : ∃ n, n = l.length := ⟨_, rfl⟩
  rw [← hn] at hm hown ⊢
  have Hn := Lib.hid hn
  have Hown0 := Lib.hid hown
  clear hn hown
  go_enter Try.func18, Try.ntmps18
  go_wp2_with fail
  go_loopw [1, 5] (fun t i wr => ∃ k : Nat, k ≤ n ∧ i = .int .i64 k ∧ t = .int .i64 ((k0 + k : Nat) : Int) ∧ wr.ownsRow B 9 1 (.slice A n c) n (strCells (marks k0 k ++ l.drop k)) ∧ w.grownBy wr (Value.slice A n c).ownBlock) (fun _ i _ => n - (intOf i).toNat)
  case atStart => exact ⟨0, Nat.zero_le _, rfl, rfl, by simpa [marks] using Hown0.out, World.grownBy.refl _ _⟩
  case round =>
    obtain ⟨k, hk, rfl, rfl, hown, hgr⟩ := hrel
    have hsz := hgr.size
    have Hgr := Lib.hid hgr
    clear hgr
    by_cases hlt : k < n
    · obtain ⟨g, cap, hv, hgB, hgl⟩ := hown.form (by omega)
      cases hv
      have Hown := Lib.hid hown
      clear hown
      have k0' : (0 : Int) ≤ (k : Int) := by omega
      have k1' : (k : Int) < (n : Int) := by omega
      go_wp2_with fail
      refine (markT (k0 + k) (by omega) (by omega) _).mono ?_
      rintro e w1 ⟨rfl, hb1⟩
      have hown1 := own_below Hown.out hb1 (Nat.le_refl _)
      have hgr1 := grown_below Hgr.out hb1
      have hc : w1.cell? ⟨g, k, none⟩ = (strCells (marks k0 k ++ l.drop k))[k]? := hown1.cellAt k (by omega)
      have hlen : k < (strCells (marks k0 k ++ l.drop k)).length := by have := Hn.out; rw [strCells_length, List.length_append, marks_length, List.length_drop]; omega
      rw [List.getElem?_eq_getElem hlen] at hc
      have hfz := hown1.frozenAt k
      obtain ⟨z, hz⟩ : ∃ z, z = (strCells (marks k0 k ++ l.drop k))[k]'hlen := ⟨_, rfl⟩
      rw [← hz] at hc
      have Hs := Lib.hid (hown1.stored k (.string (mt (k0 + k))))
      have Hgr1 := Lib.hid hgr1
      clear hz hown1 hgr1 hb1
      go_wp2_with fail
      go_roundw
      case rel =>
        refine ⟨k + 1, by omega, by go_num, by go_num, ?_, Hgr1.out.trans Hs.out.2⟩
        rw [← marks_set k0 k l (by rw [← Hn.out]; omega)]
        exact Hs.out.1
      case measure => simp [intOf]; omega
    · obtain rfl : k = n := by omega
      have hown2 : wr.ownsRow B 9 1 (.slice A k c) k (strCells (marks k0 k)) := by
        have h := hown
        rw [List.drop_of_length_le (by rw [← Hn.out]; exact Nat.le_refl _), List.append_nil] at h
        exact h
      have Hown2 := Lib.hid hown2
      clear hown hown2
      go_wp2_with fail
      go_ret
      exact ⟨by go_num, Hown2.out, Hgr.out⟩

set_option maxHeartbeats 1000000 in
theorem heldStr (v : Value) (k0 n : Nat) (w : World) (h0 : 0 < k0) (hm : k0 + n ≤ 1000000000) (hrd : Rd w v n (strCells (marks k0 n))) :
    Calls Try.prog 19 #[v, .int .i64 k0] w fun e w' => e = .returned (.int .i64 ((k0 + n : Nat) : Int)) ∧ Below w.heap.size w w' := by
  obtain ⟨A, c, rfl⟩ := hrd.form
  have Hrd := Lib.hid hrd
  clear hrd
  go_enter Try.func19, Try.ntmps19
  go_wp2_with fail
  go_loopw [1, 5] (fun t i wr => ∃ k : Nat, k ≤ n ∧ i = .int .i64 k ∧ t = .int .i64 ((k0 + k : Nat) : Int) ∧ Below w.heap.size w wr) (fun _ i _ => n - (intOf i).toNat)
  case atStart => exact ⟨0, Nat.zero_le _, rfl, rfl, Below.refl _ _⟩
  case round =>
    obtain ⟨k, hk, rfl, rfl, hb⟩ := hrel
    have hsz := hb.size
    by_cases hlt : k < n
    · have hrd2 := Hrd.out.below hb (fun g hg hl => hl)
      obtain ⟨a, u, rfl, hu, hc⟩ := hrd2.at_ hlt
      have hal : a.block < w.heap.size := by
        obtain ⟨a', u', ha', _, hc'⟩ := Hrd.out.at_ hlt
        injection ha' with ha'
        subst ha'
        have := World.block_lt_of_cell? w _ hc'
        rwa [add_block] at this
      have hu2 : u = .string (mt (k0 + k)) := by
        simp only [strCells, List.getElem?_map, marks_get k0 n k hlt, Option.map_some] at hu
        injection hu with hu
        exact hu.symm
      subst hu2
      have Hb := Lib.hid hb
      clear hrd2 hu hb
      have k0' : (0 : Int) ≤ (k : Int) := by omega
      have k1' : (k : Int) < (n : Int) := by omega
      go_wp2_with fail
      go_region_held3 (fun w' => w'.cell? (a.add k) = some (.string (mt (k0 + k)))) (first | go_keep | (rw [hb1.cell (by rw [add_block]; show a.block < wr.heap.size; omega)]; assumption)) ((go_at_call 29; refine (markT (k0 + k) (by omega) (by omega) _).mono ?_; rintro e w1 ⟨rfl, hb1⟩))
      have hb2 := Hb.out.drew.trans (hb1.mono (show w.heap.size ≤ wr.heap.size from hsz))
      have Hb2 := Lib.hid hb2
      clear hb2 hb1
      go_wp2_with fail
      go_roundw
      case rel => exact ⟨k + 1, by omega, by go_num, by go_num, Hb2.out⟩
      case measure => simp [intOf]; omega
    · obtain rfl : k = n := by omega
      go_wp2_with fail
      go_ret
      exact ⟨by go_num, hb⟩
end Go.Proofs.Yteichodalcdbcaa
