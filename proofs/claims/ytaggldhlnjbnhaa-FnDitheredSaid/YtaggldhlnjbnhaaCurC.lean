/- The contracts of the cursor over drawn bytes (spec.l01New, l01Byte, l01Below, l01Once): each answers a number in its range, and turns no block but the cursor's own. No statement is proved here. -/
import Derived.Test.YtaggldhlnjbnhaaBase
import Derived.Test.YtaggldhlnjbnhaaProg
import Derived.WalkKit
import Derived.ProofKit
import Derived.OpenShut
import Derived.WalkLawsBesides
import Derived.WalkSpells
import Derived.ShutString
import Derived.ChangeOld
import Derived.Below
import Derived.Lib.Hide
import Derived.BigQuiet
import Derived.Deep.QuietTactic
import Derived.Maps.AppendAt
import Derived.Handy
namespace Go.Proofs.Ytaggldhlnjbnhaa
open Go.RowKit
theorem and_mask (x m : Int) (h0 : 0 ≤ m) (h1 : m ≤ 9223372036854775807) : 0 ≤ bits .and .i64 x m ∧ bits .and .i64 x m ≤ m := by
  obtain ⟨k, rfl⟩ := Int.eq_ofNat_of_zero_le h0
  have h2 : (BitVec.ofInt 64 (k : Int)).toNat = k := by
    rw [BitVec.ofInt_natCast, BitVec.toNat_ofNat]; exact Nat.mod_eq_of_lt (by omega)
  have h : (BitVec.ofInt 64 x &&& BitVec.ofInt 64 (k : Int)).toNat ≤ k := by
    rw [BitVec.toNat_and, h2]; exact Nat.and_le_right
  have e : bits .and .i64 x (k : Int) = IntKind.i64.wrap ((BitVec.ofInt 64 x &&& BitVec.ofInt 64 (k : Int)).toNat : Int) := rfl
  rw [e, IntWalk.i64_in _ (by omega)]; omega
/-- Block g is a cursor over a row of bytes. -/
structure Cur (w : World) (g : Nat) : Prop where
  ex : ∃ (a : Option Addr) (len cap i : Nat) (h : Int) (zs : List Int), w.heap[g]? = some (.cells #[.slice a len cap, .int .i64 i, .int .i64 h] 92 (0, 0)) ∧
    i ≤ len ∧ len ≤ maxLen ∧ IsRow .u8 w a len cap zs ∧ (∀ x, a = some x → 0 < cap → x.block < g)
theorem Cur.lt {w : World} {g : Nat} (h : Cur w g) : g < w.heap.size := by
  obtain ⟨a, len, cap, i, h, zs, hg, _⟩ := h.ex
  exact (Array.getElem?_eq_some_iff.1 hg).1
theorem IsRow.of_same {k : IntKind} {w w' : World} {a : Option Addr} {len cap : Nat} {zs : List Int} (h : IsRow k w a len cap zs)
    (hs : ∀ x, a = some x → 0 < cap → w'.heap[x.block]? = w.heap[x.block]?) : IsRow k w' a len cap zs := by
  rcases h with h | ⟨x, rfl, h1, h2, h3, h4, h5⟩
  · exact .inl h
  · refine .inr ⟨x, rfl, h1, h2, h3, fun i hi => ?_, h5⟩
    rw [← h4 i hi]
    have e : (x.add i).block = x.block := by unfold Addr.add; split <;> rfl
    exact World.cell?_of_block (by rw [e]; exact hs x rfl (by omega))
/-- A cursor stands while its own block and what lies below stand. -/
theorem Cur.kept {w w' : World} {g : Nat} (h : Cur w g) (hs : ∀ k, k ≤ g → w'.heap[k]? = w.heap[k]?) : Cur w' g := by
  obtain ⟨a, len, cap, i, h, zs, hg, h1, h2, h3, h4⟩ := h.ex
  exact ⟨a, len, cap, i, h, zs, (hs g (Nat.le_refl _)).trans hg, h1, h2, h3.of_same (fun x hx hp => hs _ (Nat.le_of_lt (h4 x hx hp))), h4⟩
theorem Cur.alloc {w : World} {g : Nat} (h : Cur w g) (o : Obj) : Cur (w.alloc o) g :=
  h.kept fun k hk => Below.heap_alloc _ _ _ (by have := h.lt; omega)
theorem Cur.drew {w : World} {g : Nat} (h : Cur w g) : Cur w.drew g := h.kept fun _ _ => rfl
theorem Cur.grown {w w' : World} {g : Nat} {row : Option Nat} (h : Cur w g) (hg : w.grownBy w' row) (hr : ∀ k, row = some k → g < k) : Cur w' g :=
  h.kept fun k hk => hg.block k (by have := h.lt; omega) (fun e => by have := hr k e.symm; omega)
theorem Cur.below {w w' : World} {g B : Nat} (h : Cur w g) (hb : Below B w w') (hB : g < B) : Cur w' g :=
  h.kept fun k hk => hb.block k (by omega)
def CurInt (lo hi : Int) (w : World) (g : Nat) (e : Ending) (w' : World) : Prop :=
  ∃ x : Int, e = .returned (.int .i64 x) ∧ lo ≤ x ∧ x ≤ hi ∧ Cur w' g ∧ w.grownBy w' (some g)
theorem cells_of_cur {w : World} {g : Nat} {s i h : Value} {T : TypeId} (hg : w.heap[g]? = some (.cells #[s, i, h] T (0, 0))) :
    w.cell? ⟨g, 0, none⟩ = some s ∧ w.cell? ⟨g, 1, none⟩ = some i ∧ w.cell? ⟨g, 2, none⟩ = some h ∧ (∀ o, w.frozen? ⟨g, o, none⟩ = false) := by
  refine ⟨?_, ?_, ?_, fun o => ?_⟩ <;> simp [World.cell?, World.frozen?, hg]
theorem grown_set (w : World) (g o : Nat) (v : Value) : w.grownBy (w.setCell ⟨g, o, none⟩ v) (some g) :=
  ⟨rfl, rfl, rfl, by simp [World.setCell], fun k _ hne => Below.heap_setCell _ _ _ _ (fun e => hne (by rw [e]))⟩
theorem grown_drewN (w : World) (n : Nat) (row : Option Nat) : w.grownBy (w.drewN n) row :=
  ⟨rfl, rfl, rfl, Nat.le_refl _, fun _ _ _ => rfl⟩
theorem Cur.turned {w w' : World} {g : Nat} {a : Option Addr} {len cap i : Nat} {h : Int} {zs : List Int} (hg' : w'.heap[g]? = some (.cells #[.slice a len cap, .int .i64 i, .int .i64 h] 92 (0, 0)))
    (h1 : i ≤ len) (h2 : len ≤ maxLen) (h3 : IsRow .u8 w a len cap zs) (h4 : ∀ x, a = some x → 0 < cap → x.block < g) (hgr : w.grownBy w' (some g)) (hgs : g < w.heap.size) : Cur w' g :=
  ⟨a, len, cap, i, h, zs, hg', h1, h2, h3.of_same (fun x hx hp => hgr.block _ (by have := h4 x hx hp; omega) (fun e => by have := h4 x hx hp; simp at e; omega)), h4⟩
theorem heap_set1 {w : World} {g : Nat} {s i h : Value} {T : TypeId} (hg : w.heap[g]? = some (.cells #[s, i, h] T (0, 0))) (v : Value) :
    (w.setCell ⟨g, 1, none⟩ v).heap[g]? = some (.cells #[s, v, h] T (0, 0)) := by simp [World.setCell, Array.getElem?_modify, hg]
theorem heap_set2 {w : World} {g : Nat} {s i h : Value} {T : TypeId} (hg : w.heap[g]? = some (.cells #[s, i, h] T (0, 0))) (v : Value) :
    (w.setCell ⟨g, 2, none⟩ v).heap[g]? = some (.cells #[s, i, v] T (0, 0)) := by simp [World.setCell, Array.getElem?_modify, hg]
theorem heap_drewN {w : World} {g : Nat} {o : Option Obj} (hg : w.heap[g]? = o) (n : Nat) : (w.drewN n).heap[g]? = o := hg
set_option maxHeartbeats 400000 in
theorem byte_any (w : World) (g : Nat) (hc : Cur w g) : Calls Try.prog 97 #[.pointer (some ⟨g, 0, none⟩)] w (CurInt 0 255 w g) := by
  obtain ⟨a, len, cap, i, h, zs, hg, hi, hm, hrow, hlt⟩ := hc.ex
  obtain ⟨c0, c1, c2, fz⟩ := cells_of_cur hg
  have hm' : len ≤ 9223372036854775807 := by unfold maxLen at hm; omega
  by_cases hil : i < len
  · rcases hrow with ⟨_, hl, _⟩ | ⟨x, rfl, hlc, hcm, hz0, hcell, hwf⟩
    · omega
    · have hxb := hlt x rfl (by omega)
      have hci := hcell i (by omega)
      have hwi : (Lit.int .u8 (zs.getD i 0)).wf = true := hwf _ (by rw [List.getD_eq_getElem?_getD, List.getElem?_eq_getElem (by omega)]; exact List.getElem_mem _)
      obtain ⟨z, hzz⟩ : ∃ z, z = zs.getD i 0 := ⟨_, rfl⟩
      rw [← hzz] at hci hwi
      clear hzz
      have hz : 0 ≤ z ∧ z ≤ 255 := by simpa [Lit.wf, IntKind.min, IntKind.max, IntKind.signed, IntKind.bits] using hwi
      have hne : ∀ o, (x.add i) ≠ ⟨g, o, none⟩ := fun o e => by
        have e2 : (x.add i).block = x.block := by unfold Addr.add; split <;> rfl
        rw [e] at e2; simp at e2; omega
      have hci2 : ∀ v, (w.setCell ⟨g, 2, none⟩ v).cell? (x.add i) = some (.int .u8 z) := fun v => by
        rw [← hci]
        exact World.cell?_of_block (Below.heap_setCell _ _ _ _ (by have e2 : (x.add i).block = x.block := by { unfold Addr.add; split <;> rfl }; rw [e2]; simp; omega))
      have Hil := Lib.hid hil
      have Hg := Lib.hid hg
      have Hrow : Hid (IsRow .u8 w (some x) len cap zs) := .inr ⟨x, rfl, hlc, hcm, hz0, hcell, hwf⟩
      clear hcell hwf hwi hne hil hg
      have hd : decide ((i : Int) < len) = true := by have := Hil.out; simp; omega
      have i0 : (0 : Int) ≤ i := by omega
      have i1 : (i : Int) < len := by have := Hil.out; omega
      go_enter Try.func97, Try.ntmps97
      go_wp2
      go_quiet (fail)
      go_wp2
      go_quiet (fail)
      go_wp2
      go_quiet (fail)
      go_wp2
      go_ret
      rename_i nq1 nq2
      have hgr := ((grown_set w g 2 (.int .i64 (wrap64 (wrap64 (h * 6364136223846793005) + 1442695040888963407)))).trans (grown_drewN _ (nq1 + nq2 + nq) _)).trans (grown_set _ g 1 (.int .i64 (i + 1)))
      refine ⟨_, rfl, (and_mask _ 255 (by omega) (by omega)).1, (and_mask _ 255 (by omega) (by omega)).2, ?_, hgr⟩
      exact Cur.turned (i := i + 1) (heap_set1 (heap_drewN (heap_set2 Hg.out _) _) _) (by have := Hil.out; omega) hm Hrow.out hlt hgr hc.lt
  · have Hg := Lib.hid hg
    clear hg
    have hd : decide ((i : Int) < len) = false := by simp; omega
    go_enter Try.func97, Try.ntmps97
    go_wp2
    go_quiet (fail)
    go_wp2
    go_quiet (fail)
    go_wp2
    go_ret
    rename_i nq1
    have hgr := ((grown_set w g 2 (.int .i64 (wrap64 (wrap64 (h * 6364136223846793005) + 1442695040888963407)))).trans (grown_drewN _ nq1 _)).trans (grown_drewN _ nq _)
    refine ⟨_, rfl, (and_mask _ 255 (by omega) (by omega)).1, (and_mask _ 255 (by omega) (by omega)).2, ?_, hgr⟩
    exact Cur.turned (heap_drewN (heap_drewN (heap_set2 Hg.out _) _) _) hi hm hrow hlt hgr hc.lt
/-- What l01Below answers at n. -/
def BelowInt (n : Int) (w : World) (g : Nat) (e : Ending) (w' : World) : Prop :=
  ∃ x : Int, e = .returned (.int .i64 x) ∧ 0 ≤ x ∧ (0 < n → x < n) ∧ (n ≤ 0 → x = 0) ∧ Cur w' g ∧ w.grownBy w' (some g)
set_option maxHeartbeats 400000 in
theorem below_any (w : World) (g : Nat) (n : Int) (hn : n ≤ 9223372036854775807) (hc : Cur w g) :
    Calls Try.prog 80 #[.pointer (some ⟨g, 0, none⟩), .int .i64 n] w (BelowInt n w g) := by
  by_cases h0 : n ≤ 0
  · go_enter Try.func80, Try.ntmps80
    go_wp2_with fail
    go_ret
    exact ⟨0, rfl, by omega, fun h => by omega, fun _ => rfl, hc, World.grownBy.refl _ _⟩
  by_cases h1 : n ≤ 256
  · go_enter Try.func80, Try.ntmps80
    go_wp2_with (go_at_call 97; (with_reducible refine (byte_any _ _ hc).mono ?_); rintro e w1 ⟨x, rfl, hx0, hx1, hc1, hg1⟩)
    go_ret
    exact ⟨_, rfl, Int.emod_nonneg _ (by omega), fun _ => Int.emod_lt_of_pos _ (by omega), fun h => by omega, hc1, hg1⟩
  · go_enter Try.func80, Try.ntmps80
    go_wp2_with fail
    refine (byte_any _ _ hc).mono ?_
    rintro e w1 ⟨x1, rfl, ha1, hb1, hc1, hg1⟩
    go_wp2_with fail
    refine (byte_any _ _ hc1).mono ?_
    rintro e w2 ⟨x2, rfl, ha2, hb2, hc2, hg2⟩
    go_wp2_with fail
    refine (byte_any _ _ hc2).mono ?_
    rintro e w3 ⟨x3, rfl, ha3, hb3, hc3, hg3⟩
    go_wp2_with fail
    refine (byte_any _ _ hc3).mono ?_
    rintro e w4 ⟨x4, rfl, ha4, hb4, hc4, hg4⟩
    go_wp2_with fail
    go_ret
    exact ⟨_, rfl, Int.emod_nonneg _ (by omega), fun _ => Int.emod_lt_of_pos _ (by omega), fun h => by omega, hc4, ((hg1.trans hg2).trans hg3).trans hg4⟩
/-- What l01New answers: a cursor in a new block. -/
def NewCur (w : World) (e : Ending) (w' : World) : Prop :=
  ∃ g : Nat, e = .returned (.pointer (some ⟨g, 0, none⟩)) ∧ w.heap.size ≤ g ∧ Cur w' g ∧ Below w.heap.size w w'
theorem cur_new (w : World) (a : Option Addr) (len cap : Nat) (h : Int) (zs : List Int) (hm : len ≤ maxLen) (hrow : IsRow .u8 w a len cap zs) (hlt : ∀ x, a = some x → 0 < cap → x.block < w.heap.size) :
    Cur (w.alloc (.cells #[.slice a len cap, .int .i64 0, .int .i64 h] 92)) w.heap.size :=
  ⟨a, len, cap, 0, h, zs, heap_alloc_new w _, Nat.zero_le _, hm, hrow.of_same (fun x hx hp => Below.heap_alloc _ _ _ (hlt x hx hp)), hlt⟩
theorem IsRow.lt {k : IntKind} {w : World} {a : Option Addr} {len cap : Nat} {zs : List Int} (h : IsRow k w a len cap zs) : ∀ x, a = some x → 0 < cap → x.block < w.heap.size := by
  rintro x rfl hl
  rcases h with ⟨h, _⟩ | ⟨y, hy, h1, h2, h3, h4, h5⟩
  · cases h
  · cases hy
    have := World.block_lt_of_cell? w _ (h4 0 (by omega))
    have e2 : (x.add 0).block = x.block := by unfold Addr.add; split <;> rfl
    rw [e2] at this
    exact this
set_option maxRecDepth 100000 in
set_option maxHeartbeats 400000 in
theorem new_any (w : World) (a : Option Addr) (len cap : Nat) (zs : List Int) (hrow : IsRow .u8 w a len cap zs) :
    Calls Try.prog 56 #[.slice a len cap] w (NewCur w) := by
  have hm : len ≤ maxLen := by rcases hrow with ⟨_, h, _⟩ | ⟨_, _, h1, h2, _⟩ <;> omega
  have hm' : len ≤ 9223372036854775807 := by unfold maxLen at hm; omega
  have hlt := hrow.lt
  have Hlt := Lib.hid hlt
  clear hlt
  have Hrow := Lib.hid hrow
  have Hm := Lib.hid hm
  have hcell : ∀ k, k < len → ∃ x z, a = some x ∧ w.cell? (x.add k) = some (.int .u8 z) ∧ 0 ≤ z ∧ z ≤ 255 := by
    intro k hk
    rcases hrow with ⟨_, hl, _⟩ | ⟨x, rfl, hlc, hcm, hz0, hcell, hwf⟩
    · omega
    · have hwi : (Lit.int .u8 (zs.getD k 0)).wf = true := hwf _ (by rw [List.getD_eq_getElem?_getD, List.getElem?_eq_getElem (by omega)]; exact List.getElem_mem _)
      exact ⟨x, _, rfl, hcell k (by omega), by simpa [Lit.wf, IntKind.min, IntKind.max, IntKind.signed, IntKind.bits] using hwi⟩
  clear hrow hm
  have Hcell := Lib.hid hcell
  clear hcell
  go_enter Try.func56, Try.ntmps56
  go_wp2
  go_loop [3, 4] (fun h i => ∃ (k : Nat) (x : Int), k ≤ len ∧ i = .int .i64 k ∧ h = .int .i64 x) (fun _ i => len - (intOf i).toNat)
  case atStart => exact ⟨0, _, Nat.zero_le _, rfl, rfl⟩
  case round =>
    obtain ⟨k, x, hk, rfl, rfl⟩ := hrel
    by_cases hl : k < len ∧ k < 4000
    · obtain ⟨hl1, hl2⟩ := hl
      obtain ⟨y, z, hy, hz, hz0, hz1⟩ := Hcell.out k hl1
      subst hy
      go_wp2
      go_round
      case rel => exact ⟨k + 1, _, by omega, by go_num, rfl⟩
      case measure => simp [intOf]; omega
    · by_cases hl1 : k < len
      · have hl2 : 4000 ≤ k := by omega
        clear hl
        go_wp2
        go_ret
        exact ⟨_, rfl, Nat.le_refl _, cur_new w a len cap x zs Hm.out Hrow.out Hlt.out, (Below.refl _ _).alloc (Nat.le_refl _) _⟩
      · clear hl
        go_wp2
        go_ret
        exact ⟨_, rfl, Nat.le_refl _, cur_new w a len cap x zs Hm.out Hrow.out Hlt.out, (Below.refl _ _).alloc (Nat.le_refl _) _⟩
end Go.Proofs.Ytaggldhlnjbnhaa
