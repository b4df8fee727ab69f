/- Slices of ints: what they read; the contracts of laws.toIntS, laws.eqIntS at equal lists. No statement is proved here. -/
import Derived.Test.YtflehkbalnikiaaMA
import Derived.Test.YtflehkbalnikiaaRd
import Derived.Test.YtflehkbalnikiaaProg
import Derived.WalkKit
import Derived.ProofKit
import Derived.OpenShut
import Derived.WalkLawsBesides
import Derived.WalkSpells
import Derived.ShutString
import Derived.ChangeOld
import Derived.Below
import Derived.Lib.Hide
import Derived.BigQuiet
import Derived.Deep.QuietTactic
import Derived.Maps.AppendAt
import Derived.Deep.OwnRows
import Derived.Handy
namespace Go.Proofs.Ytflehkbalnikiaa
open Go.RowKit
def intCells (L : List Int) : List Value := L.map (Value.int .i64)
theorem intCells_length (L : List Int) : (intCells L).length = L.length := by simp [intCells]
theorem intCells_get (L : List Int) (k : Nat) : (intCells L)[k]? = (L[k]?).map (Value.int .i64) := by simp [intCells]
theorem Rd.of_row {w : World} {a : Option Addr} {len cap : Nat} {zs : List Int} (h : IsRow .i64 w a len cap zs) : Rd w (.slice a len cap) (zs.take len).length (intCells (zs.take len)) := by
  rcases h with ⟨rfl, rfl, rfl, rfl⟩ | ⟨x, rfl, h1, h2, h3, h4, h5⟩
  · exact ⟨rfl, by simp, none, 0, rfl, fun h => by simp at h⟩
  · have hl : (zs.take len).length = len := by rw [List.length_take]; omega
    rw [hl]
    refine ⟨by rw [intCells_length, hl], by omega, some x, cap, rfl, fun h0 => ⟨x, rfl, fun j u hu => ?_⟩⟩
    rw [intCells_get] at hu
    obtain ⟨z, hz, rfl⟩ := Option.map_eq_some_iff.1 hu
    have hj : j < len := by have := (List.getElem?_eq_some_iff.1 hz).1; omega
    rw [List.getElem?_take_of_lt hj] at hz
    rw [h4 j (by omega), List.getD_eq_getElem?_getD, hz]
    rfl
theorem Rd.int_at {w : World} {A : Option Addr} {c n k : Nat} {L : List Int} (h : Rd w (.slice A n c) n (intCells L)) (hk : k < n) : ∃ a x, A = some a ∧ L[k]? = some x ∧ w.cell? (a.add k) = some (.int .i64 x) := by
  obtain ⟨a, u, e, hu, hc⟩ := h.at_ hk
  rw [intCells_get] at hu
  obtain ⟨x, hx, rfl⟩ := Option.map_eq_some_iff.1 hu
  exact ⟨a, x, e, hx, hc⟩
theorem Rd.call {w w' : World} {v : Value} {n : Nat} {xs : List Value} (h : Rd w v n xs) (hb : Below w.heap.size w w') : Rd w' v n xs := h.below hb fun _ _ hl => hl
theorem Rd.alloc {w : World} {v : Value} {n : Nat} {xs : List Value} (h : Rd w v n xs) (o : Obj) : Rd (w.alloc o) v n xs := h.kept fun g _ hl => Below.heap_alloc w o g hl
theorem Rd.of_rowIs {w : World} {g t n cap : Nat} {f : Nat → Value} {L : List Int} (h : w.rowIs g t n f) (hm : n ≤ maxLen) (hL : L.length = n) (hf : ∀ j x, L[j]? = some x → f j = .int .i64 x) : Rd w (.slice (some ⟨g, 0, none⟩) n cap) n (intCells L) := by
  refine ⟨by rw [intCells_length, hL], hm, _, _, rfl, fun h0 => ⟨_, rfl, fun j u hu => ?_⟩⟩
  rw [intCells_get] at hu
  obtain ⟨x, hx, rfl⟩ := Option.map_eq_some_iff.1 hu
  have hj : j < n := by have := (List.getElem?_eq_some_iff.1 hx).1; omega
  rw [← hf j x hx, ← h.cell hj]
  unfold Addr.add
  split
  · rename_i e; rw [e]
  · simp
theorem infoInt : (Try.prog.info? 3).map (fun i => (i.zero, i.size, i.bytes)) = some (some (.int .i64 0), 1, 8) := by kernel_rfl
/-- What toIntS answers. -/
def ToIS (L : List Int) (w : World) (e : Ending) (w' : World) : Prop :=
  ∃ v, e = .returned v ∧ Rd w' v L.length (intCells L) ∧ Below w.heap.size w w'
set_option maxHeartbeats 1000000 in
theorem toIS (v : Value) (L : List Int) (w : World) (hm : L.length ≤ 1048576) (h : Rd w v L.length (intCells L)) : Calls Try.prog 101 #[v] w (ToIS L w) := by
  obtain ⟨A, c, rfl⟩ := h.form
  obtain ⟨n, hn⟩ : ∃ n, n = L.length := ⟨_, rfl⟩
  rw [← hn] at hm h
  have Hn := Lib.hid hn
  have H := Lib.hid h
  rw [← hn]
  have hmk := fun W => run_make_row' (P := Try.prog) 33 3 (.int .i64 0) 8 Try.underlying33 infoInt rfl .i64 .i64 n (by omega) (by omega) W
  clear h hn
  go_enter Try.func101, Try.ntmps101
  go_wp2_with fail
  go_loopw [4] (fun i wr => ∃ k : Nat, k ≤ n ∧ i = .int .i64 k ∧ wr.rowIs w.heap.size 3 n (fun j => if j < k then .int .i64 (L.getD j 0) else .int .i64 0) ∧ Below w.heap.size w wr) (fun i _ => n - (intOf i).toNat)
  case atStart => exact ⟨0, Nat.zero_le _, rfl, (World.rowIs_made _ _ _ _).congr (fun j hj => by simp), (Below.refl _ _).alloc (Nat.le_refl _) _⟩
  case round =>
    obtain ⟨k, hk, rfl, hrow, hb⟩ := hrel
    clear hmk
    have Hrow := Lib.hid hrow
    have Hb := Lib.hid hb
    clear hrow hb
    by_cases hlt : k < n
    · obtain ⟨a, x, rfl, hx, hc⟩ := (H.out.call Hb.out).int_at hlt
      have Hx := Lib.hid hx
      clear hx
      have k0 : (0 : Int) ≤ (k : Int) := by omega
      have k1 : (k : Int) < (n : Int) := by omega
      have hcl0 : wr.cell? ⟨w.heap.size, k, none⟩ = some (.int .i64 0) := by have := Hrow.out.cell hlt; simpa using this
      have hfz0 : wr.frozen? ⟨w.heap.size, k, none⟩ = false := Hrow.out.frozen k
      go_wp2_with fail
      go_roundw
      case rel =>
        refine ⟨k + 1, by omega, by go_num, ?_, Hb.out.setCell (by simp) _⟩
        refine (Hrow.out.set k _).congr fun j hj => ?_
        by_cases e : j = k
        · subst e
          rw [if_pos rfl, if_pos (by omega), List.getD_eq_getElem?_getD, Hx.out]
          rfl
        · rw [if_neg e]
          by_cases e2 : j < k
          · rw [if_pos e2, if_pos (by omega)]
          · rw [if_neg e2, if_neg (by omega)]
      case measure => simp [intOf]; omega
    · obtain rfl : k = n := by omega
      go_wp2_with fail
      go_ret
      have hR : Rd wr (.slice (some ⟨w.heap.size, 0, none⟩) k k) L.length (intCells L) := by
        rw [← Hn.out]
        refine Rd.of_rowIs Hrow.out (by unfold maxLen; omega) Hn.out.symm fun j x hx => ?_
        have hj : j < k := by have := (List.getElem?_eq_some_iff.1 hx).1; rw [Hn.out]; exact this
        rw [if_pos hj, List.getD_eq_getElem?_getD, hx]
        rfl
      exact ⟨_, rfl, hR, Hb.out⟩
set_option maxHeartbeats 1000000 in
theorem eqIS_same (v u : Value) (L : List Int) (w : World) (hv : Rd w v L.length (intCells L)) (hu : Rd w u L.length (intCells L)) :
    Calls Try.prog 81 #[v, u] w fun e w' => e = .returned (.bool true) ∧ ∃ q, w' = w.drewN q := by
  obtain ⟨A, c, rfl⟩ := hv.form
  obtain ⟨A', c', rfl⟩ := hu.form
  have hn1 : L.length ≤ 9223372036854775807 := by have := hv.len.2; unfold maxLen at this; omega
  obtain ⟨n, hn⟩ : ∃ n, n = L.length := ⟨_, rfl⟩
  rw [← hn] at hn1 hv hu ⊢
  have Hv := Lib.hid hv
  have Hu := Lib.hid hu
  clear hv hu hn
  go_enter Try.func81, Try.ntmps81
  go_wp2_with fail
  go_loopw [5] (fun i wr => ∃ k : Nat, k ≤ n ∧ i = .int .i64 k ∧ ∃ q, wr = w.drewN q) (fun i _ => n - (intOf i).toNat)
  case atStart => exact ⟨0, Nat.zero_le _, rfl, 0, rfl⟩
  case round =>
    obtain ⟨k, hk, rfl, q, rfl⟩ := hrel
    by_cases hlt : k < n
    · obtain ⟨a, x, rfl, hx, hcx⟩ := Hv.out.int_at hlt
      obtain ⟨a', y, rfl, hy, hcy⟩ := Hu.out.int_at hlt
      rw [hx] at hy
      injection hy with hy
      subst hy
      clear hx
      have k0 : (0 : Int) ≤ (k : Int) := by omega
      have k1 : (k : Int) < (n : Int) := by omega
      go_wp2_with fail
      go_quiet (fail)
      go_wp2_with fail
      rename_i nq
      go_roundw
      case rel => exact ⟨k + 1, by omega, by go_num, _, rfl⟩
      case measure => simp [intOf]; omega
    · obtain rfl : k = n := by omega
      go_wp2_with fail
      go_ret
      exact ⟨rfl, _, rfl⟩
end Go.Proofs.Ytflehkbalnikiaa
