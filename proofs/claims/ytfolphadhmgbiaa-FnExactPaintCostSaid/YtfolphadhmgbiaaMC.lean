/- Texts of mine in one file: MarkR, CurC, RectD, Rok, InR, ComP, RegD, AreaR, RegS, BoundI, FormA, SclM, PixA, PixB, OverS, OverI. No statement is proved here. -/
import Derived.Test.YtfolphadhmgbiaaMA
import Derived.Test.YtfolphadhmgbiaaProg
import Derived.WalkKit
import Derived.ProofKit
import Derived.OpenShut
import Derived.WalkLawsBesides
import Derived.WalkSpells
import Derived.ShutString
import Derived.ChangeOld
import Derived.Below
import Derived.Lib.Hide
import Derived.BigQuiet
import Derived.Deep.QuietTactic
import Derived.Maps.AppendAt
import Derived.Deep.Draws
import Derived.Deep.RegionHeld3
import Derived.Deep.DeepCutAuto
import Derived.OwnWalk
import Derived.Deep.AppendLies
import Derived.Deep.LoopGhost
import Derived.Deep.MidRow
import Derived.Deep.WholeRow
import Derived.Deep.OwnRows
import Derived.Deep.Onto
import Derived.Handy
import Derived.Deep.RegionWith
import Derived.Laws.AppendOwn
import Derived.Great.BuildSlice
import Derived.Laws.BitsAllLaws
import Derived.Lib.QuoteBits
import Derived.ChangeKeysEq
namespace Go.Proofs.Ytfolphadhmgbiaa
open Go.RowKit
set_option maxHeartbeats 1000000 in
set_option maxRecDepth 10000 in
theorem heldRS (v : Value) (k0 n : Nat) (w : World) (hm : k0 + n ≤ 1000000000) (hrd : RdR w v (marksL k0 n)) :
    Calls Try.prog 105 #[v, .int .i64 k0] w fun ed w' => ed = .returned (.int .i64 ((k0 + 4 * n : Nat) : Int)) ∧ w' = w := by
  obtain ⟨A, c, rfl⟩ := hrd.form
  rw [marksL_length] at hrd ⊢
  have Hrd := Lib.hid hrd
  clear hrd
  go_enter Try.func105, Try.ntmps105
  go_wp2_with fail
  go_loopw [1, 5] (fun s1 i wr => ∃ (k : Nat) (t : Int), k ≤ n ∧ i = .int .i64 k ∧ s1 = .int .i64 t ∧ Hid (t = ((k0 + 4 * k : Nat) : Int)) ∧ wr = w) (fun _ i _ => n - (intOf i).toNat)
  case atStart => exact ⟨0, k0, Nat.zero_le _, rfl, rfl, Lib.hid (by simp), rfl⟩
  case round =>
    obtain ⟨k, t, hk, rfl, rfl, Ht, rfl⟩ := hrel
    have ht0 : 0 ≤ t := by have := Ht.out; omega
    have ht1 : t ≤ 5000000000 := by have := Ht.out; omega
    by_cases hlt : k < n
    · obtain ⟨gq, r, rfl, hr, hC⟩ := Hrd.out.at_ (k := k) (by rw [marksL_length]; exact hlt)
      rw [marksL_get k0 n k hlt] at hr
      injection hr with hr
      have e0 : r.x = t := by rw [← hr, Ht.out]
      have e1 : r.y = t + 1 := by rw [← hr]; have := Ht.out; dsimp only; omega
      have e2 : r.w = t + 2 := by rw [← hr]; have := Ht.out; dsimp only; omega
      have e3 : r.h = t + 3 := by rw [← hr]; have := Ht.out; dsimp only; omega
      obtain ⟨c0, c1, c2, c3⟩ := hC.cells
      rw [e0] at c0
      rw [e1] at c1
      rw [e2] at c2
      rw [e3] at c3
      have k0' : (0 : Int) ≤ (k : Int) := by omega
      have k1' : (k : Int) < (n : Int) := by omega
      clear hr e0 e1 e2 e3 hC
      go_wp2_with fail
      go_roundw
      case rel => exact ⟨k + 1, _, by omega, by go_num, rfl, Lib.hid (by have := Ht.out; omega), by first | rfl | trivial⟩
      case measure => simp [intOf]; omega
    · obtain rfl : k = n := by omega
      go_wp2_with fail
      go_ret
      exact ⟨ret_int Ht.out, rfl⟩
/-- What markRegion leaves. -/
theorem markRg (B : Nat) (v : Value) (L : List Rc) (k0 : Nat) (w : World) (hm : k0 + L.length ≤ 1000000000) (hown : w.ownsRow B 49 4 v L.length (rcsCells L)) :
    Calls Try.prog 50 #[.agg #[v], .int .i64 k0] w fun ed w' => ed = .returned (.int .i64 ((k0 + 4 * L.length : Nat) : Int)) ∧ w'.ownsRow B 49 4 v L.length (rcsCells (marksL k0 L.length)) ∧ w.grownBy w' v.ownBlock := by
  have hown2 := hown.alloc (.cells #[v] 79)
  have hg := World.grownBy_alloc w (.cells #[v] 79) v.ownBlock
  have hc : (w.alloc (.cells #[v] 79)).cell? ⟨w.heap.size, 0, none⟩ = some v := new_cell w v _
  clear hown
  go_enter Try.func50, Try.ntmps50
  go_wp2_with fail
  refine (markRS B _ v L k0 _ hm hown2).mono ?_
  rintro e w1 ⟨rfl, h1, h2⟩
  have H1 := Lib.hid h1
  have H2 := Lib.hid (hg.trans h2)
  clear h1 h2 hg hown2
  go_wp2_with fail
  go_ret
  exact ⟨rfl, H1.out, H2.out⟩
theorem heldRg (v : Value) (k0 n : Nat) (w : World) (hm : k0 + n ≤ 1000000000) (hrd : RdR w v (marksL k0 n)) :
    Calls Try.prog 51 #[.agg #[v], .int .i64 k0] w fun ed w' => ed = .returned (.int .i64 ((k0 + 4 * n : Nat) : Int)) ∧ Below w.heap.size w w' := by
  have h2 := hrd.alloc (.cells #[v] 79)
  clear hrd
  have c1 : ¬ ((k0 + 4 * n : Nat) : Int) < 0 := by omega
  go_enter Try.func51, Try.ntmps51
  go_wp2_with fail
  refine (heldRS v k0 n _ hm h2).mono ?_
  rintro e w1 ⟨rfl, rfl⟩
  clear h2
  go_wp2_with fail
  go_ret
  exact ⟨rfl, (Below.refl _ _).alloc (Nat.le_refl _) _⟩
theorem eqRg_same (v u : Value) (L : List Rc) (w : World) (hv : RdR w v L) (hu : RdR w u L) :
    Calls Try.prog 49 #[.agg #[v], .agg #[u]] w fun e w' => e = .returned (.bool true) ∧ Below w.heap.size w w' := by
  have hv2 := (hv.alloc (.cells #[v] 79)).alloc (.cells #[u] 79)
  have hu2 := (hu.alloc (.cells #[v] 79)).alloc (.cells #[u] 79)
  have hw := ((Below.refl w.heap.size w).alloc (Nat.le_refl _) (.cells #[v] 79)).alloc (by simp) (.cells #[u] 79)
  clear hv hu
  go_enter Try.func49, Try.ntmps49
  go_wp2_with fail
  refine (eqRectS_same v u L _ hv2 hu2).mono ?_
  rintro e w1 ⟨rfl, hb⟩
  have Hw := Lib.hid (hw.trans (hb.mono hw.size))
  clear hv2 hu2 hw hb
  go_wp2_with fail
  go_ret
  exact ⟨rfl, Hw.out⟩
end Go.Proofs.Ytfolphadhmgbiaa
namespace Go.Proofs.Ytfolphadhmgbiaa
open Go.RowKit
theorem and_mask (x m : Int) (h0 : 0 ≤ m) (h1 : m ≤ 9223372036854775807) : 0 ≤ bits .and .i64 x m ∧ bits .and .i64 x m ≤ m := by
  obtain ⟨k, rfl⟩ := Int.eq_ofNat_of_zero_le h0
  have h2 : (BitVec.ofInt 64 (k : Int)).toNat = k := by
    rw [BitVec.ofInt_natCast, BitVec.toNat_ofNat]; exact Nat.mod_eq_of_lt (by omega)
  have h : (BitVec.ofInt 64 x &&& BitVec.ofInt 64 (k : Int)).toNat ≤ k := by
    rw [BitVec.toNat_and, h2]; exact Nat.and_le_right
  have e : bits .and .i64 x (k : Int) = IntKind.i64.wrap ((BitVec.ofInt 64 x &&& BitVec.ofInt 64 (k : Int)).toNat : Int) := rfl
  rw [e, IntWalk.i64_in _ (by omega)]; omega
/-- Block g is a cursor over a row of bytes. -/
structure Cur (w : World) (g : Nat) : Prop where
  ex : ∃ (a : Option Addr) (len cap i : Nat) (h : Int) (zs : List Int), w.heap[g]? = some (.cells #[.slice a len cap, .int .i64 i, .int .i64 h] 130 (0, 0)) ∧
    i ≤ len ∧ len ≤ maxLen ∧ IsRow .u8 w a len cap zs ∧ (∀ x, a = some x → 0 < cap → x.block < g)
theorem Cur.lt {w : World} {g : Nat} (h : Cur w g) : g < w.heap.size := by
  obtain ⟨a, len, cap, i, h, zs, hg, _⟩ := h.ex
  exact (Array.getElem?_eq_some_iff.1 hg).1
theorem IsRow.of_same {k : IntKind} {w w' : World} {a : Option Addr} {len cap : Nat} {zs : List Int} (h : IsRow k w a len cap zs)
    (hs : ∀ x, a = some x → 0 < cap → w'.heap[x.block]? = w.heap[x.block]?) : IsRow k w' a len cap zs := by
  rcases h with h | ⟨x, rfl, h1, h2, h3, h4, h5⟩
  · exact .inl h
  · refine .inr ⟨x, rfl, h1, h2, h3, fun i hi => ?_, h5⟩
    rw [← h4 i hi]
    have e : (x.add i).block = x.block := by unfold Addr.add; split <;> rfl
    exact World.cell?_of_block (by rw [e]; exact hs x rfl (by omega))
/-- A cursor stands while its own block and what lies below stand. -/
theorem Cur.kept {w w' : World} {g : Nat} (h : Cur w g) (hs : ∀ k, k ≤ g → w'.heap[k]? = w.heap[k]?) : Cur w' g := by
  obtain ⟨a, len, cap, i, h, zs, hg, h1, h2, h3, h4⟩ := h.ex
  exact ⟨a, len, cap, i, h, zs, (hs g (Nat.le_refl _)).trans hg, h1, h2, h3.of_same (fun x hx hp => hs _ (Nat.le_of_lt (h4 x hx hp))), h4⟩
theorem Cur.alloc {w : World} {g : Nat} (h : Cur w g) (o : Obj) : Cur (w.alloc o) g :=
  h.kept fun k hk => Below.heap_alloc _ _ _ (by have := h.lt; omega)
theorem Cur.drew {w : World} {g : Nat} (h : Cur w g) : Cur w.drew g := h.kept fun _ _ => rfl
theorem Cur.grown {w w' : World} {g : Nat} {row : Option Nat} (h : Cur w g) (hg : w.grownBy w' row) (hr : ∀ k, row = some k → g < k) : Cur w' g :=
  h.kept fun k hk => hg.block k (by have := h.lt; omega) (fun e => by have := hr k e.symm; omega)
theorem Cur.below {w w' : World} {g B : Nat} (h : Cur w g) (hb : Below B w w') (hB : g < B) : Cur w' g :=
  h.kept fun k hk => hb.block k (by omega)
def CurInt (lo hi : Int) (w : World) (g : Nat) (e : Ending) (w' : World) : Prop :=
  ∃ x : Int, e = .returned (.int .i64 x) ∧ lo ≤ x ∧ x ≤ hi ∧ Cur w' g ∧ w.grownBy w' (some g)
theorem cells_of_cur {w : World} {g : Nat} {s i h : Value} {T : TypeId} (hg : w.heap[g]? = some (.cells #[s, i, h] T (0, 0))) :
    w.cell? ⟨g, 0, none⟩ = some s ∧ w.cell? ⟨g, 1, none⟩ = some i ∧ w.cell? ⟨g, 2, none⟩ = some h ∧ (∀ o, w.frozen? ⟨g, o, none⟩ = false) := by
  refine ⟨?_, ?_, ?_, fun o => ?_⟩ <;> simp [World.cell?, World.frozen?, hg]
theorem grown_set (w : World) (g o : Nat) (v : Value) : w.grownBy (w.setCell ⟨g, o, none⟩ v) (some g) :=
  ⟨rfl, rfl, rfl, by simp [World.setCell], fun k _ hne => Below.heap_setCell _ _ _ _ (fun e => hne (by rw [e]))⟩
theorem grown_drewN (w : World) (n : Nat) (row : Option Nat) : w.grownBy (w.drewN n) row :=
  ⟨rfl, rfl, rfl, Nat.le_refl _, fun _ _ _ => rfl⟩
theorem Cur.turned {w w' : World} {g : Nat} {a : Option Addr} {len cap i : Nat} {h : Int} {zs : List Int} (hg' : w'.heap[g]? = some (.cells #[.slice a len cap, .int .i64 i, .int .i64 h] 130 (0, 0)))
    (h1 : i ≤ len) (h2 : len ≤ maxLen) (h3 : IsRow .u8 w a len cap zs) (h4 : ∀ x, a = some x → 0 < cap → x.block < g) (hgr : w.grownBy w' (some g)) (hgs : g < w.heap.size) : Cur w' g :=
  ⟨a, len, cap, i, h, zs, hg', h1, h2, h3.of_same (fun x hx hp => hgr.block _ (by have := h4 x hx hp; omega) (fun e => by have := h4 x hx hp; simp at e; omega)), h4⟩
theorem heap_set1 {w : World} {g : Nat} {s i h : Value} {T : TypeId} (hg : w.heap[g]? = some (.cells #[s, i, h] T (0, 0))) (v : Value) :
    (w.setCell ⟨g, 1, none⟩ v).heap[g]? = some (.cells #[s, v, h] T (0, 0)) := by simp [World.setCell, Array.getElem?_modify, hg]
theorem heap_set2 {w : World} {g : Nat} {s i h : Value} {T : TypeId} (hg : w.heap[g]? = some (.cells #[s, i, h] T (0, 0))) (v : Value) :
    (w.setCell ⟨g, 2, none⟩ v).heap[g]? = some (.cells #[s, i, v] T (0, 0)) := by simp [World.setCell, Array.getElem?_modify, hg]
theorem heap_drewN {w : World} {g : Nat} {o : Option Obj} (hg : w.heap[g]? = o) (n : Nat) : (w.drewN n).heap[g]? = o := hg
set_option maxHeartbeats 400000 in
theorem byte_any (w : World) (g : Nat) (hc : Cur w g) : Calls Try.prog 149 #[.pointer (some ⟨g, 0, none⟩)] w (CurInt 0 255 w g) := by
  obtain ⟨a, len, cap, i, h, zs, hg, hi, hm, hrow, hlt⟩ := hc.ex
  obtain ⟨c0, c1, c2, fz⟩ := cells_of_cur hg
  have hm' : len ≤ 9223372036854775807 := by unfold maxLen at hm; omega
  by_cases hil : i < len
  · rcases hrow with ⟨_, hl, _⟩ | ⟨x, rfl, hlc, hcm, hz0, hcell, hwf⟩
    · omega
    · have hxb := hlt x rfl (by omega)
      have hci := hcell i (by omega)
      have hwi : (Lit.int .u8 (zs.getD i 0)).wf = true := hwf _ (by rw [List.getD_eq_getElem?_getD, List.getElem?_eq_getElem (by omega)]; exact List.getElem_mem _)
      obtain ⟨z, hzz⟩ : ∃ z, z = zs.getD i 0 := ⟨_, rfl⟩
      rw [← hzz] at hci hwi
      clear hzz
      have hz : 0 ≤ z ∧ z ≤ 255 := by simpa [Lit.wf, IntKind.min, IntKind.max, IntKind.signed, IntKind.bits] using hwi
      have hne : ∀ o, (x.add i) ≠ ⟨g, o, none⟩ := fun o e => by
        have e2 : (x.add i).block = x.block := by unfold Addr.add; split <;> rfl
        rw [e] at e2; simp at e2; omega
      have hci2 : ∀ v, (w.setCell ⟨g, 2, none⟩ v).cell? (x.add i) = some (.int .u8 z) := fun v => by
        rw [← hci]
        exact World.cell?_of_block (Below.heap_setCell _ _ _ _ (by have e2 : (x.add i).block = x.block := by { unfold Addr.add; split <;> rfl }; rw [e2]; simp; omega))
      have Hil := Lib.hid hil
      have Hg := Lib.hid hg
      have Hrow : Hid (IsRow .u8 w (some x) len cap zs) := .inr ⟨x, rfl, hlc, hcm, hz0, hcell, hwf⟩
      clear hcell hwf hwi hne hil hg
      have hd : decide ((i : Int) < len) = true := by have := Hil.out; simp; omega
      have i0 : (0 : Int) ≤ i := by omega
      have i1 : (i : Int) < len := by have := Hil.out; omega
      go_enter Try.func149, Try.ntmps149
      go_wp2
      go_quiet (fail)
      go_wp2
      go_quiet (fail)
      go_wp2
      go_quiet (fail)
      go_wp2
      go_ret
      rename_i nq1 nq2
      have hgr := ((grown_set w g 2 (.int .i64 (wrap64 (wrap64 (h * 6364136223846793005) + 1442695040888963407)))).trans (grown_drewN _ (nq1 + nq2 + nq) _)).trans (grown_set _ g 1 (.int .i64 (i + 1)))
      refine ⟨_, rfl, (and_mask _ 255 (by omega) (by omega)).1, (and_mask _ 255 (by omega) (by omega)).2, ?_, hgr⟩
      exact Cur.turned (i := i + 1) (heap_set1 (heap_drewN (heap_set2 Hg.out _) _) _) (by have := Hil.out; omega) hm Hrow.out hlt hgr hc.lt
  · have Hg := Lib.hid hg
    clear hg
    have hd : decide ((i : Int) < len) = false := by simp; omega
    go_enter Try.func149, Try.ntmps149
    go_wp2
    go_quiet (fail)
    go_wp2
    go_quiet (fail)
    go_wp2
    go_ret
    rename_i nq1
    have hgr := ((grown_set w g 2 (.int .i64 (wrap64 (wrap64 (h * 6364136223846793005) + 1442695040888963407)))).trans (grown_drewN _ nq1 _)).trans (grown_drewN _ nq _)
    refine ⟨_, rfl, (and_mask _ 255 (by omega) (by omega)).1, (and_mask _ 255 (by omega) (by omega)).2, ?_, hgr⟩
    exact Cur.turned (heap_drewN (heap_drewN (heap_set2 Hg.out _) _) _) hi hm hrow hlt hgr hc.lt
/-- What l01Below answers at n. -/
def BelowInt (n : Int) (w : World) (g : Nat) (e : Ending) (w' : World) : Prop :=
  ∃ x : Int, e = .returned (.int .i64 x) ∧ 0 ≤ x ∧ (0 < n → x < n) ∧ (n ≤ 0 → x = 0) ∧ Cur w' g ∧ w.grownBy w' (some g)
set_option maxHeartbeats 400000 in
theorem below_any (w : World) (g : Nat) (n : Int) (hn : n ≤ 9223372036854775807) (hc : Cur w g) :
    Calls Try.prog 107 #[.pointer (some ⟨g, 0, none⟩), .int .i64 n] w (BelowInt n w g) := by
  by_cases h0 : n ≤ 0
  · go_enter Try.func107, Try.ntmps107
    go_wp2_with fail
    go_ret
    exact ⟨0, rfl, by omega, fun h => by omega, fun _ => rfl, hc, World.grownBy.refl _ _⟩
  by_cases h1 : n ≤ 256
  · go_enter Try.func107, Try.ntmps107
    go_wp2_with (go_at_call 149; (with_reducible refine (byte_any _ _ hc).mono ?_); rintro e w1 ⟨x, rfl, hx0, hx1, hc1, hg1⟩)
    go_ret
    exact ⟨_, rfl, Int.emod_nonneg _ (by omega), fun _ => Int.emod_lt_of_pos _ (by omega), fun h => by omega, hc1, hg1⟩
  · go_enter Try.func107, Try.ntmps107
    go_wp2_with fail
    refine (byte_any _ _ hc).mono ?_
    rintro e w1 ⟨x1, rfl, ha1, hb1, hc1, hg1⟩
    go_wp2_with fail
    refine (byte_any _ _ hc1).mono ?_
    rintro e w2 ⟨x2, rfl, ha2, hb2, hc2, hg2⟩
    go_wp2_with fail
    refine (byte_any _ _ hc2).mono ?_
    rintro e w3 ⟨x3, rfl, ha3, hb3, hc3, hg3⟩
    go_wp2_with fail
    refine (byte_any _ _ hc3).mono ?_
    rintro e w4 ⟨x4, rfl, ha4, hb4, hc4, hg4⟩
    go_wp2_with fail
    go_ret
    exact ⟨_, rfl, Int.emod_nonneg _ (by omega), fun _ => Int.emod_lt_of_pos _ (by omega), fun h => by omega, hc4, ((hg1.trans hg2).trans hg3).trans hg4⟩
/-- What l01Once answers. -/
def CurBool (w : World) (g : Nat) (e : Ending) (w' : World) : Prop := ∃ b : Bool, e = .returned (.bool b) ∧ Cur w' g ∧ w.grownBy w' (some g)
theorem once_any (w : World) (g : Nat) (n : Int) (hn : n ≤ 9223372036854775807) (hc : Cur w g) :
    Calls Try.prog 154 #[.pointer (some ⟨g, 0, none⟩), .int .i64 n] w (CurBool w g) := by
  go_enter Try.func154, Try.ntmps154
  go_wp2_with (go_at_call 107; (with_reducible refine (below_any _ _ _ hn hc).mono ?_); rintro e w1 ⟨x, rfl, hx0, hx1, hx2, hc1, hg1⟩)
  go_ret
  exact ⟨_, rfl, hc1, hg1⟩
/-- What l01New answers: a cursor in a new block. -/
def NewCur (w : World) (e : Ending) (w' : World) : Prop :=
  ∃ g : Nat, e = .returned (.pointer (some ⟨g, 0, none⟩)) ∧ w.heap.size ≤ g ∧ Cur w' g ∧ Below w.heap.size w w'
theorem cur_new (w : World) (a : Option Addr) (len cap : Nat) (h : Int) (zs : List Int) (hm : len ≤ maxLen) (hrow : IsRow .u8 w a len cap zs) (hlt : ∀ x, a = some x → 0 < cap → x.block < w.heap.size) :
    Cur (w.alloc (.cells #[.slice a len cap, .int .i64 0, .int .i64 h] 130)) w.heap.size :=
  ⟨a, len, cap, 0, h, zs, heap_alloc_new w _, Nat.zero_le _, hm, hrow.of_same (fun x hx hp => Below.heap_alloc _ _ _ (hlt x hx hp)), hlt⟩
theorem IsRow.lt {k : IntKind} {w : World} {a : Option Addr} {len cap : Nat} {zs : List Int} (h : IsRow k w a len cap zs) : ∀ x, a = some x → 0 < cap → x.block < w.heap.size := by
  rintro x rfl hl
  rcases h with ⟨h, _⟩ | ⟨y, hy, h1, h2, h3, h4, h5⟩
  · cases h
  · cases hy
    have := World.block_lt_of_cell? w _ (h4 0 (by omega))
    have e2 : (x.add 0).block = x.block := by unfold Addr.add; split <;> rfl
    rw [e2] at this
    exact this
set_option maxRecDepth 100000 in
set_option maxHeartbeats 400000 in
theorem new_any (w : World) (a : Option Addr) (len cap : Nat) (zs : List Int) (hrow : IsRow .u8 w a len cap zs) :
    Calls Try.prog 54 #[.slice a len cap] w (NewCur w) := by
  have hm : len ≤ maxLen := by rcases hrow with ⟨_, h, _⟩ | ⟨_, _, h1, h2, _⟩ <;> omega
  have hm' : len ≤ 9223372036854775807 := by unfold maxLen at hm; omega
  have hlt := hrow.lt
  have Hlt := Lib.hid hlt
  clear hlt
  have Hrow := Lib.hid hrow
  have Hm := Lib.hid hm
  have hcell : ∀ k, k < len → ∃ x z, a = some x ∧ w.cell? (x.add k) = some (.int .u8 z) ∧ 0 ≤ z ∧ z ≤ 255 := by
    intro k hk
    rcases hrow with ⟨_, hl, _⟩ | ⟨x, rfl, hlc, hcm, hz0, hcell, hwf⟩
    · omega
    · have hwi : (Lit.int .u8 (zs.getD k 0)).wf = true := hwf _ (by rw [List.getD_eq_getElem?_getD, List.getElem?_eq_getElem (by omega)]; exact List.getElem_mem _)
      exact ⟨x, _, rfl, hcell k (by omega), by simpa [Lit.wf, IntKind.min, IntKind.max, IntKind.signed, IntKind.bits] using hwi⟩
  clear hrow hm
  have Hcell := Lib.hid hcell
  clear hcell
  go_enter Try.func54, Try.ntmps54
  go_wp2
  go_loop [3, 4] (fun h i => ∃ (k : Nat) (x : Int), k ≤ len ∧ i = .int .i64 k ∧ h = .int .i64 x) (fun _ i => len - (intOf i).toNat)
  case atStart => exact ⟨0, _, Nat.zero_le _, rfl, rfl⟩
  case round =>
    obtain ⟨k, x, hk, rfl, rfl⟩ := hrel
    by_cases hl : k < len ∧ k < 4000
    · obtain ⟨hl1, hl2⟩ := hl
      obtain ⟨y, z, hy, hz, hz0, hz1⟩ := Hcell.out k hl1
      subst hy
      go_wp2
      go_round
      case rel => exact ⟨k + 1, _, by omega, by go_num, rfl⟩
      case measure => simp [intOf]; omega
    · by_cases hl1 : k < len
      · have hl2 : 4000 ≤ k := by omega
        clear hl
        go_wp2
        go_ret
        exact ⟨_, rfl, Nat.le_refl _, cur_new w a len cap x zs Hm.out Hrow.out Hlt.out, (Below.refl _ _).alloc (Nat.le_refl _) _⟩
      · clear hl
        go_wp2
        go_ret
        exact ⟨_, rfl, Nat.le_refl _, cur_new w a len cap x zs Hm.out Hrow.out Hlt.out, (Below.refl _ _).alloc (Nat.le_refl _) _⟩
end Go.Proofs.Ytfolphadhmgbiaa
namespace Go.Proofs.Ytfolphadhmgbiaa
open Go.RowKit
theorem RcAt.grown {w w' : World} {g : Nat} {row : Option Nat} {r : Rc} (h : RcAt w g r) (hb : w.grownBy w' row) (hg : some g ≠ row) : RcAt w' g r := (hb.block g h.lt hg).trans h
end Go.Proofs.Ytfolphadhmgbiaa
namespace Go.Proofs.Ytfolphadhmgbiaa
open Go.RowKit
/-- What RegionOk answers. -/
def RokAns (L : List Rc) (w : World) (e : Ending) (w' : World) : Prop := e = .returned (.bool (okL L)) ∧ Below w.heap.size w w'
theorem cell_drew {w : World} {a : Addr} {v : Value} (h : w.cell? a = some v) : w.drew.cell? a = some v := h
theorem cell_drewN {w : World} {a : Addr} {v : Value} (h : w.cell? a = some v) (q : Nat) : (w.drewN q).cell? a = some v := h
theorem cell_call {w w' : World} {g o : Nat} {v : Value} (hb : Below w.heap.size w w') (h : w.cell? ⟨g, o, none⟩ = some v) : w'.cell? ⟨g, o, none⟩ = some v :=
  (hb.cell (p := ⟨g, o, none⟩) (World.block_lt_of_cell? w _ h)).trans h
theorem below_call {a w w' : World} (h : Below a.heap.size a w) (hb : Below w.heap.size w w') : Below a.heap.size a w' := h.trans (hb.mono h.size)
theorem field_rg (u : Value) (W : World) : (Instr.field 79 (.agg #[u]) 0).run Try.prog W = .ok u W := by
  simp [Instr.field, run_underlying Try.underlying79, asAgg, part, go_sem]
set_option maxHeartbeats 1000000 in
set_option maxRecDepth 10000 in
theorem rokI (v : Value) (L : List Rc) (w : World) (h : RdR w v L) : Calls Try.prog 148 #[.agg #[v]] w (RokAns L w) := by
  have hV := h.alloc (.cells #[v] 79)
  have hw := (Below.refl w.heap.size w).alloc (Nat.le_refl _) (.cells #[v] 79)
  have hc : (w.alloc (.cells #[v] 79)).cell? ⟨w.heap.size, 0, none⟩ = some v := new_cell w v _
  clear h
  go_enter Try.func148, Try.ntmps148
  go_wp2_with fail
  go_region_held3 (fun w' => w'.cell? ⟨w.heap.size, 0, none⟩ = some v)
    (with_reducible first | exact hc | exact cell_drew hc | fail)
    (first | (go_at_call 146; (with_reducible first | refine (rofI v L _ hV).mono ?_ | refine (rofI v L _ hV.drew).mono ?_); rintro e wk ⟨u, rfl, hown, hbk⟩; have hfld := field_rg u; (with_reducible first | have hV := hV.call hbk | have hV := hV.drew.call hbk); (with_reducible first | have hw := below_call hw hbk | have hw := below_call hw.drew hbk); (with_reducible first | (have hc := cell_call hbk hc) | (have hc := cell_call hbk (cell_drew hc)))) | (go_at_call 176; (with_reducible first | refine (sameI u v _ L _ (RdR.of_own hown) hV).mono ?_ | refine (sameI u v _ L _ (RdR.of_own hown).drew hV.drew).mono ?_); rintro e wk ⟨rfl, q, rfl⟩; have hw := below_drewN hw q; have hc := cell_drewN hc q))
  go_wp2_with fail
  go_ret
  exact ⟨rfl, by first | exact hw | exact hw.drew | exact below_drewN hw _⟩
end Go.Proofs.Ytfolphadhmgbiaa
namespace Go.Proofs.Ytfolphadhmgbiaa
open Go.RowKit
open Classical in
theorem okL_iff (L : List Rc) : okL L = true ↔ canon (gridOf L) = L := by unfold okL sameL; exact decide_eq_true_iff
theorem ok_on {L : List Rc} (h : okL L = true) : ∀ r ∈ L, OnScreen r := by
  rw [← (okL_iff L).1 h]; exact bands_on _ 0
end Go.Proofs.Ytfolphadhmgbiaa
namespace Go.Proofs.Ytfolphadhmgbiaa
open Go.RowKit
theorem GrAt.call {w w' : World} {b : Nat} {t : TypeId} {g : Nat → Bool} (h : GrAt w b t g) (hb : Below w.heap.size w w') : GrAt w' b t g := h.below hb h.lt
/-- Block b is a region's variable that still holds nothing. -/
def BxR (w : World) (b : Nat) : Prop := w.heap[b]? = some (.cells #[.slice none 0 0] 79 (0, 0))
theorem BxR.lt {w : World} {b : Nat} (h : BxR w b) : b < w.heap.size := (Array.getElem?_eq_some_iff.1 h).1
theorem BxR.cell {w : World} {b : Nat} (h : BxR w b) : w.cell? ⟨b, 0, none⟩ = some (.slice none 0 0) := by rw [cell_of_row _ _ _ _ _ _ h]; rfl
theorem BxR.frozen {w : World} {b : Nat} (h : BxR w b) : w.frozen? ⟨b, 0, none⟩ = false := by unfold BxR at h; simp [World.frozen?, h]
theorem BxR.call {w w' : World} {b : Nat} (h : BxR w b) (hb : Below w.heap.size w w') : BxR w' b := (hb.block b h.lt).trans h
end Go.Proofs.Ytfolphadhmgbiaa
namespace Go.Proofs.Ytfolphadhmgbiaa
open Go.RowKit
theorem ok_canon (g : Nat → Bool) : okL (canon g) = true := (okL_iff _).2 (canon_idem g)
end Go.Proofs.Ytfolphadhmgbiaa
namespace Go.Proofs.Ytfolphadhmgbiaa
open Go.RowKit
/-- The area of a region; 0 if it is not valid. -/
noncomputable def areaR (L : List Rc) : Int := if okL L = true then areaL L else 0
theorem areaL_nonneg {L : List Rc} (h : ∀ r ∈ L, OnScreen r) : 0 ≤ areaL L := by have := area_len L h; omega
theorem areaL_take {L : List Rc} (h : ∀ r ∈ L, OnScreen r) (k : Nat) : 0 ≤ areaL (L.take k) ∧ areaL (L.take k) ≤ areaL L := by
  have e : areaL L = areaL (L.take k) + areaL (L.drop k) := by rw [← areaL_append, List.take_append_drop]
  have h1 := areaL_nonneg (L := L.take k) (fun r hr => h r (List.mem_of_mem_take hr))
  have h2 := areaL_nonneg (L := L.drop k) (fun r hr => h r (List.mem_of_mem_drop hr))
  omega
theorem ok_area {L : List Rc} (h : okL L = true) : 0 ≤ areaL L ∧ areaL L ≤ 256 := by
  have e := (okL_iff L).1 h
  have h1 := cntRows_le (gridOf L) 0 (by omega)
  rw [← e, canon_area]
  omega
theorem area_one {r : Rc} (h : OnScreen r) : 0 ≤ r.w * r.h ∧ r.w * r.h ≤ 256 := by
  unfold OnScreen at h
  have h1 : 0 * 0 ≤ r.w * r.h := Int.mul_le_mul (by omega) (by omega) (by omega) (by omega)
  have h2 : r.w * r.h ≤ 16 * 16 := Int.mul_le_mul (by omega) (by omega) (by omega) (by omega)
  omega
theorem area_next {L : List Rc} {k : Nat} {r : Rc} (h : L[k]? = some r) : areaL (L.take (k + 1)) = areaL (L.take k) + r.w * r.h := by
  rw [List.take_add_one, h, areaL_append]; simp [areaL]
set_option maxHeartbeats 1000000 in
set_option maxRecDepth 10000 in
theorem areaI (v : Value) (L : List Rc) (w : World) (h : RdR w v L) :
    Calls Try.prog 106 #[.agg #[v]] w fun e w' => e = .returned (.int .i64 (areaR L)) ∧ Below w.heap.size w w' := by
  obtain ⟨A, c, rfl⟩ := h.form
  have hm : L.length ≤ 9223372036854775807 := by have := h.len; unfold maxLen at this; omega
  obtain ⟨n, hn⟩ : ∃ n, n = L.length := ⟨_, rfl⟩
  rw [← hn] at hm h ⊢
  have Hn := Lib.hid hn
  have K := (Below.refl w.heap.size w).alloc (Nat.le_refl _) (.cells #[.slice A n c] 79)
  have hc := new_cell w (.slice A n c) 79
  have H := Lib.hid (h.call K)
  have H0 := Lib.hid h
  clear h hn
  rcases hk : okL L with _ | _
  · have Hi : Hid (areaR L = 0) := Lib.hid (by unfold areaR; rw [if_neg (by rw [hk]; simp)])
    have R := fun W hv => rokI (.slice A n c) L W hv
    unfold RokAns at R
    rw [hk] at R
    clear hk
    go_enter Try.func106, Try.ntmps106
    go_wp2_with fail
    refine (R _ H.out).mono ?_
    rintro e w1 ⟨rfl, hb⟩
    replace K := below_call K hb
    clear hb hc R
    go_wp2_with fail
    go_ret
    exact ⟨ret_int Hi.out.symm, K⟩
  · have Hk := Lib.hid hk
    have Hi : Hid (areaR L = areaL L) := Lib.hid (if_pos hk)
    have R := fun W hv => rokI (.slice A n c) L W hv
    unfold RokAns at R
    rw [hk] at R
    clear hk
    go_enter Try.func106, Try.ntmps106
    go_wp2_with fail
    refine (R _ H.out).mono ?_
    rintro e w1 ⟨rfl, hb⟩
    replace hc := cell_call hb hc
    replace K := below_call K hb
    clear hb R
    go_wp2_with fail
    go_loopw [3, 12] (fun s i wr => ∃ (k : Nat) (a : Int), k ≤ n ∧ i = .int .i64 k ∧ s = .int .i64 a ∧ Hid (a = areaL (L.take k)) ∧ Below w.heap.size w wr) (fun _ i _ => n - (intOf i).toNat)
    case atStart => exact ⟨0, 0, Nat.zero_le _, rfl, rfl, Lib.hid (by simp [areaL]), K⟩
    case round =>
      clear K hc
      obtain ⟨k, a, hk, rfl, rfl, Ha, K⟩ := hrel
      by_cases hlt : k < n
      · obtain ⟨g, r, rfl, hr, hC⟩ := (H0.out.call K).at_ (k := k) (by rw [← Hn.out]; exact hlt)
        have Hr := Lib.hid hr
        obtain ⟨c0, c1, c2, c3⟩ := hC.cells
        have k0 : (0 : Int) ≤ (k : Int) := by omega
        have k1 : (k : Int) < (n : Int) := by omega
        have ha := areaL_take (ok_on Hk.out) k
        rw [← Ha.out] at ha
        have hA := ok_area Hk.out
        have a0 : 0 ≤ a := ha.1
        have a1 : a ≤ 256 := by omega
        obtain ⟨m0, m1⟩ := area_one (ok_on Hk.out r (List.mem_of_getElem? hr))
        clear hr hC ha hA
        go_wp2_with fail
        go_roundw
        case rel => exact ⟨k + 1, _, by omega, by go_num, rfl, Lib.hid (by rw [area_next Hr.out, Ha.out]), K.alloc K.size _⟩
        case measure => simp [intOf]; omega
      · obtain rfl : k = n := by omega
        have Hj : Hid (a = areaR L) := Lib.hid (by rw [Hi.out, Ha.out, List.take_of_length_le (by rw [← Hn.out]; exact Nat.le_refl _)])
        go_wp2_with fail
        go_ret
        exact ⟨ret_int Hj.out, K⟩
end Go.Proofs.Ytfolphadhmgbiaa
namespace Go.Proofs.Ytfolphadhmgbiaa
open Go.RowKit
theorem area_bd (L : List Rc) : 0 ≤ areaR L ∧ areaR L ≤ 256 := by
  unfold areaR
  split
  · rename_i h; exact ok_area h
  · omega
end Go.Proofs.Ytfolphadhmgbiaa
namespace Go.Proofs.Ytfolphadhmgbiaa
open Go.RowKit
theorem RcAt.call {w w' : World} {g : Nat} {r : Rc} (h : RcAt w g r) (hb : Below w.heap.size w w') : RcAt w' g r := h.below hb h.lt
end Go.Proofs.Ytfolphadhmgbiaa
namespace Go.Proofs.Ytfolphadhmgbiaa
open Go.RowKit
theorem wp_append_row {P : Program} {o : Oper} {a : Act} {w : World} {K : Act → World → Prop} {Q : Exit → Act → World → Prop} (s x : Operand) (t : TypeId)
    (ho : o.op = .call { callee := .builtin .append, args := #[s, x], argTypes := #[t, t] })
    (base base' : Nat) (e : TypeId) (i : TypeInfo) (z : Value) (size bytes : Nat) (ht : P.underlying t = some (.slice e)) (hi : P.info? e = some i) (hz : i.zero = some z)
    (hsize : i.size = size) (hby : i.bytes = bytes) (hzs : z.cells.size = size) (hsz : 0 < size)
    (v : Value) (n : Nat) (xs : List Value) (hs : a.eval s = v) (hown : w.ownsRow base e size v n xs)
    (u : Value) (m : Nat) (news : List Value) (hx : a.eval x = u) (hu : w.ownsRow base' e size u m news) (h1 : ∀ u ∈ news, u.oneCell' = true)
    (h63 : n + m ≤ maxLen) (hbytes : (n + m) * bytes ≤ 140737488355328) (hbase : base ≤ w.heap.size)
    (h : ∀ v' w', w'.ownsRow base e size v' (n + m) (xs ++ news) → w.grownBy w' v.ownBlock → (v'.ownBlock = v.ownBlock ∨ v'.ownBlock = some w.heap.size) → K (a.put o.dst v') w') : o.wp P a w K Q := by
  rcases hu.2 with ⟨rfl, rfl⟩ | ⟨g, cap, cur, rfl, _, _, hn, _, _, _⟩
  · have hnil : news = [] := List.eq_nil_of_length_eq_zero (by have := hu.1; omega)
    subst hnil
    have hr := run_append_none w base t o.type e i size ht hi v n xs hown
    unfold Oper.wp execOp
    simp only [ho, resolve, invoke, builtin, Sem.run_bind, Sem.run_pure, Result.andThen_ok, List.map_toArray, List.map_cons, List.map_nil, hs, hx, hr]
    exact h v w (by simpa using hown) ⟨rfl, rfl, rfl, Nat.le_refl _, fun _ _ _ => rfl⟩ (.inl rfl)
  · obtain ⟨v', w', hr, h2, h3, _, h5⟩ := run_append_own_at (P := P) w base t o.type e i z size bytes ht hi hz hsize hby hzs hsz v n xs hown ⟨g, 0, none⟩ m cap news hu.1 (hu.cells rfl) h1 h63 hbytes hbase
    unfold Oper.wp execOp
    simp only [ho, resolve, invoke, builtin, Sem.run_bind, Sem.run_pure, Result.andThen_ok, List.map_toArray, List.map_cons, List.map_nil, hs, hx, hr]
    exact h v' w' h2 h3 h5
theorem BxR.grown {w w' : World} {b : Nat} {row : Option Nat} (h : BxR w b) (hg : w.grownBy w' row) (hr : some b ≠ row) : BxR w' b := (hg.block b h.lt hr).trans h
theorem own_call2 {w w' : World} {B n : Nat} {e : TypeId} {v : Value} {xs : List Value} (h : w.ownsRow B e 4 v n xs) (hb : Below w.heap.size w w') : w'.ownsRow B e 4 v n xs :=
  h.kept (row := none) ⟨hb.os, hb.tape, hb.output, hb.size, fun k hk _ => hb.block k hk⟩ (by
    by_cases hv : v.ownBlock = none
    · exact .inl hv
    · exact .inr hv)
end Go.Proofs.Ytfolphadhmgbiaa
namespace Go.Proofs.Ytfolphadhmgbiaa
open Go.RowKit
/-- The place that is shown at place k, of f pixels on t. -/
def sclN (f t k : Nat) : Nat := k * f / t
theorem sclN_lt {f t k : Nat} (h1 : 1 ≤ f) (h2 : k < t) : sclN f t k < f := by
  unfold sclN
  exact Nat.div_lt_of_lt_mul (Nat.mul_lt_mul_of_pos_right h2 h1)
theorem scl_num {f t k : Nat} (h1 : 1 ≤ f ∧ f ≤ 16) (h2 : 1 ≤ t ∧ t ≤ 16) (h3 : k < t) :
    ∃ m q : Nat, (k : Int) * (f : Int) = (m : Int) ∧ m ≤ 256 ∧ Int.tdiv (m : Int) (t : Int) = (q : Int) ∧ (m : Int) / (t : Int) = (q : Int) ∧ sclN f t k = q ∧ q < f := by
  refine ⟨k * f, k * f / t, by simp, Nat.mul_le_mul (show k ≤ 16 by omega) h1.2, ?_, by simp, rfl, sclN_lt h1.1 h3⟩
  rw [Int.tdiv_eq_ediv_of_nonneg (by omega)]; simp
theorem scI_yes {f t k : Nat} (h1 : 1 ≤ f ∧ f ≤ 16) (h2 : 1 ≤ t ∧ t ≤ 16) (h3 : k < t) (w : World) : Calls Try.prog 126 #[.int .i64 f, .int .i64 t, .int .i64 k] w fun e w' => e = .returned (.int .i64 (sclN f t k : Nat)) ∧ w = w' := by
  obtain ⟨m, q, hm, m1, d1, d2, hq, q1⟩ := scl_num h1 h2 h3
  have Hq := Lib.hid hq
  obtain ⟨f1, f2⟩ := h1
  obtain ⟨t1, t2⟩ := h2
  have h0 : ¬ (t : Int) = 0 := by omega
  have hk : (k : Int) ≤ (t : Int) - 1 := by omega
  clear hq
  go_enter Try.func126, Try.ntmps126
  go_wp2_with ((go_at_call 100; (with_reducible refine (inI_yes _ _ _ _ (by omega) (by omega)).mono ?_); rintro e w' ⟨rfl, rfl⟩))
  go_ret
  exact ⟨ret_int (by rw [Hq.out]), rfl⟩
theorem scS_yes {f t k : Nat} (h1 : 1 ≤ f ∧ f ≤ 16) (h2 : 1 ≤ t ∧ t ≤ 16) (h3 : k < t) (w : World) : Calls Try.prog 181 #[.int .i64 f, .int .i64 t, .int .i64 k] w fun e w' => e = .returned (.int .i64 (sclN f t k : Nat)) ∧ w = w' := by
  obtain ⟨m, q, hm, m1, d1, d2, hq, q1⟩ := scl_num h1 h2 h3
  have Hq := Lib.hid hq
  obtain ⟨f1, f2⟩ := h1
  obtain ⟨t1, t2⟩ := h2
  have h0 : ¬ (t : Int) = 0 := by omega
  have hk : (k : Int) ≤ (t : Int) - 1 := by omega
  clear hq
  go_enter Try.func181, Try.ntmps181
  go_wp2_with ((go_at_call 85; (with_reducible refine (inS_yes _ _ _ _ (by omega) (by omega)).mono ?_); rintro e w' ⟨rfl, rfl⟩))
  go_ret
  exact ⟨ret_int (by rw [Hq.out]), rfl⟩
end Go.Proofs.Ytfolphadhmgbiaa
namespace Go.Proofs.Ytfolphadhmgbiaa
open Go.RowKit
/-- Block g holds four channels. -/
def ChAt (w : World) (g : Nat) (a b c d : Int) : Prop := w.heap[g]? = some (.cells #[.int .i64 a, .int .i64 b, .int .i64 c, .int .i64 d] 155 (0, 0))
section
variable {w w' : World} {g B : Nat} {a b c d : Int}
theorem ChAt.lt (h : ChAt w g a b c d) : g < w.heap.size := (Array.getElem?_eq_some_iff.1 h).1
theorem ChAt.cells (h : ChAt w g a b c d) :
    w.cell? ⟨g, 0, none⟩ = some (.int .i64 a) ∧ w.cell? ⟨g, 1, none⟩ = some (.int .i64 b) ∧ w.cell? ⟨g, 2, none⟩ = some (.int .i64 c) ∧ w.cell? ⟨g, 3, none⟩ = some (.int .i64 d) := by
  unfold ChAt at h
  refine ⟨?_, ?_, ?_, ?_⟩ <;> simp [World.cell?, h]
theorem ChAt.frozen (h : ChAt w g a b c d) (o : Nat) : w.frozen? ⟨g, o, none⟩ = false := by
  unfold ChAt at h; simp [World.frozen?, h]
theorem ChAt.below (h : ChAt w g a b c d) (hb : Below B w w') (hg : g < B) : ChAt w' g a b c d := (hb.block g hg).trans h
theorem ChAt.call (h : ChAt w g a b c d) (hb : Below w.heap.size w w') : ChAt w' g a b c d := h.below hb h.lt
theorem ChAt.alloc (h : ChAt w g a b c d) (o : Obj) : ChAt (w.alloc o) g a b c d := (Below.heap_alloc w o g h.lt).trans h
theorem ChAt.new (w : World) (a b c d : Int) : ChAt (w.alloc (.cells #[.int .i64 a, .int .i64 b, .int .i64 c, .int .i64 d] 155)) w.heap.size a b c d := heap_alloc_new w _
theorem ChAt.newAt (h : w.heap.size = g) (a b c d : Int) : ChAt (w.alloc (.cells #[.int .i64 a, .int .i64 b, .int .i64 c, .int .i64 d] 155)) g a b c d := h ▸ ChAt.new w a b c d
theorem ChAt.drew (h : ChAt w g a b c d) : ChAt w.drew g a b c d := h
theorem ChAt.far (h : ChAt w g a b c d) {p : Addr} (hp : g ≠ p.block) (v : Value) : ChAt (w.setCell p v) g a b c d := (Below.heap_setCell w p v g hp).trans h
theorem ChAt.set1 (h : ChAt w g a b c d) (x : Int) : ChAt (w.setCell ⟨g, 1, none⟩ (.int .i64 x)) g a x c d := by
  unfold ChAt at *; simp [World.setCell, Array.getElem?_modify, h]
theorem ChAt.set2 (h : ChAt w g a b c d) (x : Int) : ChAt (w.setCell ⟨g, 2, none⟩ (.int .i64 x)) g a b x d := by
  unfold ChAt at *; simp [World.setCell, Array.getElem?_modify, h]
theorem ChAt.set3 (h : ChAt w g a b c d) (x : Int) : ChAt (w.setCell ⟨g, 3, none⟩ (.int .i64 x)) g a b c x := by
  unfold ChAt at *; simp [World.setCell, Array.getElem?_modify, h]
end
theorem px_call {a w w' : World} (h : Below a.heap.size a w) (hb : Below w.heap.size w w') : Below a.heap.size a w' := h.trans (hb.mono h.size)
end Go.Proofs.Ytfolphadhmgbiaa
namespace Go.Proofs.Ytfolphadhmgbiaa
open Go.RowKit
theorem fadeI_in (p al : Int) (hp : pixOk p) (ha : chOk al) (w : World) :
    Calls Try.prog 72 #[.int .i64 p, .int .i64 al] w fun e w' => e = .returned (.int .i64 (fade p al)) ∧ Below w.heap.size w w' := by
  have Hn : Hid (fade p al = fadeK p al) := if_pos ⟨hp, ha⟩
  obtain ⟨c0, h0⟩ : ∃ x, x = p / 16777216 := ⟨_, rfl⟩
  obtain ⟨c1, h1⟩ : ∃ x, x = p / 65536 % 256 := ⟨_, rfl⟩
  obtain ⟨c2, h2⟩ : ∃ x, x = p / 256 % 256 := ⟨_, rfl⟩
  obtain ⟨c3, h3⟩ : ∃ x, x = p % 256 := ⟨_, rfl⟩
  have HU := Lib.hid (unpackedI p hp)
  have Hc0 : Hid (chOk c0) := by rw [h0]; exact ch_0 hp
  have Hc1 : Hid (chOk c1) := by rw [h1]; exact ch_1 p
  have Hc2 : Hid (chOk c2) := by rw [h2]; exact ch_2 p
  have Hc3 : Hid (chOk c3) := by rw [h3]; exact ch_3 p
  rw [fadeK, ← h0, ← h1, ← h2, ← h3] at Hn
  rw [← h0, ← h1, ← h2, ← h3] at HU
  have HP := Lib.hid (partI_ok c0 al Hc0.out ha)
  have Hx := Lib.hid (part_ok Hc0.out ha)
  obtain ⟨x, hx⟩ : ∃ x, x = pxPart c0 al := ⟨_, rfl⟩
  rw [← hx] at HP Hn Hx
  have Hp := Lib.hid hp
  have Ha := Lib.hid ha
  clear h0 h1 h2 h3 hx hp ha
  go_enter Try.func72, Try.ntmps72
  go_wp2_with fail
  refine (pixI_yes p Hp.out _).mono ?_
  rintro e w' ⟨rfl, rfl⟩
  go_wp2_with fail
  refine (inI_yes _ 0 255 _ Ha.out.1 Ha.out.2).mono ?_
  rintro e w' ⟨rfl, rfl⟩
  go_wp2_with fail
  refine (HU.out _).mono ?_
  rintro e w1 ⟨rfl, K⟩
  go_wp2_with fail
  refine (HP.out _).mono ?_
  rintro e w' ⟨rfl, rfl⟩
  go_wp2_with fail
  refine (packedI x c1 c2 c3 Hx.out Hc1.out Hc2.out Hc3.out _).mono ?_
  rintro e w2 ⟨rfl, hb⟩
  go_wp2_with fail
  go_ret
  exact ⟨ret_int Hn.out.symm, px_call (by repeat first | exact K | refine Below.setCell ?_ (by have := K.size; first | (simp; done) | (simp; omega)) _ | refine Below.alloc ?_ (by have := K.size; first | (simp; done) | (simp; omega)) _) hb⟩
theorem fadeI_any (p al : Int) (w : World) :
    Calls Try.prog 72 #[.int .i64 p, .int .i64 al] w fun e w' => e = .returned (.int .i64 (fade p al)) ∧ Below w.heap.size w w' := by
  by_cases hp : pixOk p
  · by_cases ha : chOk al
    · exact fadeI_in p al hp ha w
    · have Hn : Hid (fade p al = -1) := if_neg fun h => ha h.2
      have Hp := Lib.hid hp
      have Ha := Lib.hid ha
      clear hp ha
      go_enter Try.func72, Try.ntmps72
      go_wp2_with fail
      refine (pixI_yes p Hp.out _).mono ?_
      rintro e w' ⟨rfl, rfl⟩
      go_wp2_with fail
      refine (inI_no _ 0 255 _ (ch_no Ha.out)).mono ?_
      rintro e w' ⟨rfl, rfl⟩
      go_wp2
      go_ret
      exact ⟨ret_int Hn.out.symm, Below.refl _ _⟩
  · have Hn : Hid (fade p al = -1) := if_neg fun h => hp h.1
    have Hp := Lib.hid hp
    clear hp
    go_enter Try.func72, Try.ntmps72
    go_wp2_with fail
    refine (pixI_no p Hp.out _).mono ?_
    rintro e w' ⟨rfl, rfl⟩
    go_wp2
    go_ret
    exact ⟨ret_int Hn.out.symm, Below.refl _ _⟩
end Go.Proofs.Ytfolphadhmgbiaa
namespace Go.Proofs.Ytfolphadhmgbiaa
open Go.RowKit
theorem over_no {p q : Int} (h : ¬ (pixOk p ∧ pixOk q)) : over p q = -1 := if_neg h
theorem over_yes {p q : Int} (hp : pixOk p) (hq : pixOk q) : over p q = overK p q := if_pos ⟨hp, hq⟩
set_option maxHeartbeats 600000 in
theorem overS_in (p q : Int) (hp : pixOk p) (hq : pixOk q) (w : World) :
    Calls Try.prog 25 #[.int .i64 p, .int .i64 q] w fun e w' => e = .returned (.int .i64 (over p q)) ∧ w = w' := by
  have Hn : Hid (over p q = overK p q) := over_yes hp hq
  obtain ⟨al, ha⟩ : ∃ x, x = p / 16777216 := ⟨_, rfl⟩
  obtain ⟨x1, hx1⟩ : ∃ x, x = p / 65536 % 256 := ⟨_, rfl⟩
  obtain ⟨x2, hx2⟩ : ∃ x, x = p / 256 % 256 := ⟨_, rfl⟩
  obtain ⟨x3, hx3⟩ : ∃ x, x = p % 256 := ⟨_, rfl⟩
  obtain ⟨y1, hy1⟩ : ∃ x, x = q / 65536 % 256 := ⟨_, rfl⟩
  obtain ⟨y2, hy2⟩ : ∃ x, x = q / 256 % 256 := ⟨_, rfl⟩
  obtain ⟨y3, hy3⟩ : ∃ x, x = q % 256 := ⟨_, rfl⟩
  have hal : chOk al := by rw [ha]; exact ch_0 hp
  have hbl : chOk (255 - al) := by unfold chOk at hal ⊢; omega
  have Cp0 := Lib.hid (chS_in p 0 hp (by omega) (by omega))
  have Cp1 := Lib.hid (chS_in p 1 hp (by omega) (by omega))
  have Cp2 := Lib.hid (chS_in p 2 hp (by omega) (by omega))
  have Cp3 := Lib.hid (chS_in p 3 hp (by omega) (by omega))
  have Cq1 := Lib.hid (chS_in q 1 hq (by omega) (by omega))
  have Cq2 := Lib.hid (chS_in q 2 hq (by omega) (by omega))
  have Cq3 := Lib.hid (chS_in q 3 hq (by omega) (by omega))
  rw [chan_0 hp, ← ha] at Cp0
  rw [chan_1 hp, ← hx1] at Cp1
  rw [chan_2 hp, ← hx2] at Cp2
  rw [chan_3 hp, ← hx3] at Cp3
  rw [chan_1 hq, ← hy1] at Cq1
  rw [chan_2 hq, ← hy2] at Cq2
  rw [chan_3 hq, ← hy3] at Cq3
  have k1 : chOk x1 := by rw [hx1]; exact ch_1 p
  have k2 : chOk x2 := by rw [hx2]; exact ch_2 p
  have k3 : chOk x3 := by rw [hx3]; exact ch_3 p
  have l1 : chOk y1 := by rw [hy1]; exact ch_1 q
  have l2 : chOk y2 := by rw [hy2]; exact ch_2 q
  have l3 : chOk y3 := by rw [hy3]; exact ch_3 q
  have P1 := Lib.hid (partS_ok x1 al k1 hal)
  have P2 := Lib.hid (partS_ok x2 al k2 hal)
  have P3 := Lib.hid (partS_ok x3 al k3 hal)
  have Q1 := Lib.hid (partS_ok y1 (255 - al) l1 hbl)
  have Q2 := Lib.hid (partS_ok y2 (255 - al) l2 hbl)
  have Q3 := Lib.hid (partS_ok y3 (255 - al) l3 hbl)
  obtain ⟨a1, ea1⟩ : ∃ x, x = pxPart x1 al := ⟨_, rfl⟩
  obtain ⟨a2, ea2⟩ : ∃ x, x = pxPart x2 al := ⟨_, rfl⟩
  obtain ⟨a3, ea3⟩ : ∃ x, x = pxPart x3 al := ⟨_, rfl⟩
  obtain ⟨b1, eb1⟩ : ∃ x, x = pxPart y1 (255 - al) := ⟨_, rfl⟩
  obtain ⟨b2, eb2⟩ : ∃ x, x = pxPart y2 (255 - al) := ⟨_, rfl⟩
  obtain ⟨b3, eb3⟩ : ∃ x, x = pxPart y3 (255 - al) := ⟨_, rfl⟩
  obtain ⟨a10, a11⟩ : chOk a1 := by rw [ea1]; exact part_ok k1 hal
  obtain ⟨a20, a21⟩ : chOk a2 := by rw [ea2]; exact part_ok k2 hal
  obtain ⟨a30, a31⟩ : chOk a3 := by rw [ea3]; exact part_ok k3 hal
  obtain ⟨b10, b11⟩ : chOk b1 := by rw [eb1]; exact part_ok l1 hbl
  obtain ⟨b20, b21⟩ : chOk b2 := by rw [eb2]; exact part_ok l2 hbl
  obtain ⟨b30, b31⟩ : chOk b3 := by rw [eb3]; exact part_ok l3 hbl
  rw [overK, ← ha, ← hx1, ← hx2, ← hx3, ← hy1, ← hy2, ← hy3, mixC, mixC, mixC, ← ea1, ← ea2, ← ea3, ← eb1, ← eb2, ← eb3, pack4] at Hn
  rw [← ea1] at P1
  rw [← ea2] at P2
  rw [← ea3] at P3
  rw [← eb1] at Q1
  rw [← eb2] at Q2
  rw [← eb3] at Q3
  obtain ⟨al0, al1⟩ := hal
  have Hp := Lib.hid hp
  have Hq := Lib.hid hq
  clear ha hx1 hx2 hx3 hy1 hy2 hy3 ea1 ea2 ea3 eb1 eb2 eb3 hbl k1 k2 k3 l1 l2 l3 hp hq
  go_enter Try.func25, Try.ntmps25
  go_wp2_with fail
  refine (pixS_yes p Hp.out _).mono ?_
  rintro e w' ⟨rfl, rfl⟩
  go_wp2_with fail
  refine (pixS_yes q Hq.out _).mono ?_
  rintro e w' ⟨rfl, rfl⟩
  go_wp2_with fail
  refine (Cp0.out _).mono ?_
  rintro e w' ⟨rfl, rfl⟩
  go_wp2_with fail
  go_loop [6, 7] (fun s i => (i = .int .i64 1 ∧ s = .int .i64 255) ∨ (i = .int .i64 2 ∧ s = .int .i64 (65280 + a1 + b1)) ∨ (i = .int .i64 3 ∧ s = .int .i64 ((65280 + a1 + b1) * 256 + a2 + b2)) ∨ (i = .int .i64 4 ∧ s = .int .i64 (((65280 + a1 + b1) * 256 + a2 + b2) * 256 + a3 + b3))) (fun _ i => 4 - (intOf i).toNat)
  case atStart => exact .inl ⟨rfl, rfl⟩
  case round =>
    rcases hrel with ⟨rfl, rfl⟩ | ⟨rfl, rfl⟩ | ⟨rfl, rfl⟩ | ⟨rfl, rfl⟩
    · go_wp2_with fail
      refine (Cp1.out _).mono ?_
      rintro e w' ⟨rfl, rfl⟩
      go_wp2_with fail
      refine (P1.out _).mono ?_
      rintro e w' ⟨rfl, rfl⟩
      go_wp2_with fail
      refine (Cq1.out _).mono ?_
      rintro e w' ⟨rfl, rfl⟩
      go_wp2_with fail
      refine (Q1.out _).mono ?_
      rintro e w' ⟨rfl, rfl⟩
      go_wp2_with fail
      go_round
      case rel => exact .inr (.inl ⟨rfl, rfl⟩)
      case measure => simp [intOf]
    · go_wp2_with fail
      refine (Cp2.out _).mono ?_
      rintro e w' ⟨rfl, rfl⟩
      go_wp2_with fail
      refine (P2.out _).mono ?_
      rintro e w' ⟨rfl, rfl⟩
      go_wp2_with fail
      refine (Cq2.out _).mono ?_
      rintro e w' ⟨rfl, rfl⟩
      go_wp2_with fail
      refine (Q2.out _).mono ?_
      rintro e w' ⟨rfl, rfl⟩
      go_wp2_with fail
      go_round
      case rel => exact .inr (.inr (.inl ⟨rfl, rfl⟩))
      case measure => simp [intOf]
    · go_wp2_with fail
      refine (Cp3.out _).mono ?_
      rintro e w' ⟨rfl, rfl⟩
      go_wp2_with fail
      refine (P3.out _).mono ?_
      rintro e w' ⟨rfl, rfl⟩
      go_wp2_with fail
      refine (Cq3.out _).mono ?_
      rintro e w' ⟨rfl, rfl⟩
      go_wp2_with fail
      refine (Q3.out _).mono ?_
      rintro e w' ⟨rfl, rfl⟩
      go_wp2_with fail
      go_round
      case rel => exact .inr (.inr (.inr ⟨rfl, rfl⟩))
      case measure => simp [intOf]
    · go_wp2_with fail
      go_ret
      exact ⟨ret_int (by rw [Hn.out]; omega), rfl⟩
theorem overS_any (p q : Int) (w : World) :
    Calls Try.prog 25 #[.int .i64 p, .int .i64 q] w fun e w' => e = .returned (.int .i64 (over p q)) ∧ w = w' := by
  by_cases hp : pixOk p
  · by_cases hq : pixOk q
    · exact overS_in p q hp hq w
    · have Hn : Hid (over p q = -1) := over_no fun h => hq h.2
      have Hp := Lib.hid hp
      have Hq := Lib.hid hq
      clear hp hq
      go_enter Try.func25, Try.ntmps25
      go_wp2_with fail
      refine (pixS_yes p Hp.out _).mono ?_
      rintro e w' ⟨rfl, rfl⟩
      go_wp2_with fail
      refine (pixS_no q Hq.out _).mono ?_
      rintro e w' ⟨rfl, rfl⟩
      go_wp2
      go_ret
      exact ⟨ret_int Hn.out.symm, rfl⟩
  · have Hn : Hid (over p q = -1) := over_no fun h => hp h.1
    have Hp := Lib.hid hp
    clear hp
    go_enter Try.func25, Try.ntmps25
    go_wp2_with fail
    refine (pixS_no p Hp.out _).mono ?_
    rintro e w' ⟨rfl, rfl⟩
    go_wp2
    go_ret
    exact ⟨ret_int Hn.out.symm, rfl⟩
end Go.Proofs.Ytfolphadhmgbiaa
namespace Go.Proofs.Ytfolphadhmgbiaa
open Go.RowKit
set_option maxHeartbeats 1000000 in
theorem overI_in (p q : Int) (hp : pixOk p) (hq : pixOk q) (w : World) :
    Calls Try.prog 120 #[.int .i64 p, .int .i64 q] w fun e w' => e = .returned (.int .i64 (over p q)) ∧ Below w.heap.size w w' := by
  have Hn : Hid (over p q = overK p q) := over_yes hp hq
  obtain ⟨al, ha⟩ : ∃ x, x = p / 16777216 := ⟨_, rfl⟩
  obtain ⟨x1, hx1⟩ : ∃ x, x = p / 65536 % 256 := ⟨_, rfl⟩
  obtain ⟨x2, hx2⟩ : ∃ x, x = p / 256 % 256 := ⟨_, rfl⟩
  obtain ⟨x3, hx3⟩ : ∃ x, x = p % 256 := ⟨_, rfl⟩
  obtain ⟨y0, hy0⟩ : ∃ x, x = q / 16777216 := ⟨_, rfl⟩
  obtain ⟨y1, hy1⟩ : ∃ x, x = q / 65536 % 256 := ⟨_, rfl⟩
  obtain ⟨y2, hy2⟩ : ∃ x, x = q / 256 % 256 := ⟨_, rfl⟩
  obtain ⟨y3, hy3⟩ : ∃ x, x = q % 256 := ⟨_, rfl⟩
  have hal : chOk al := by rw [ha]; exact ch_0 hp
  have hbl : chOk (255 - al) := by unfold chOk at hal ⊢; omega
  have Up := Lib.hid (unpackedI p hp)
  have Uq := Lib.hid (unpackedI q hq)
  rw [← ha, ← hx1, ← hx2, ← hx3] at Up
  rw [← hy0, ← hy1, ← hy2, ← hy3] at Uq
  have k1 : chOk x1 := by rw [hx1]; exact ch_1 p
  have k2 : chOk x2 := by rw [hx2]; exact ch_2 p
  have k3 : chOk x3 := by rw [hx3]; exact ch_3 p
  have l1 : chOk y1 := by rw [hy1]; exact ch_1 q
  have l2 : chOk y2 := by rw [hy2]; exact ch_2 q
  have l3 : chOk y3 := by rw [hy3]; exact ch_3 q
  have M1 : Hid (chOk (mixC x1 y1 al)) := mix_ok k1 l1 hal
  have M2 : Hid (chOk (mixC x2 y2 al)) := mix_ok k2 l2 hal
  have M3 : Hid (chOk (mixC x3 y3 al)) := mix_ok k3 l3 hal
  have P1 := Lib.hid (partI_ok x1 al k1 hal)
  have P2 := Lib.hid (partI_ok x2 al k2 hal)
  have P3 := Lib.hid (partI_ok x3 al k3 hal)
  have Q1 := Lib.hid (partI_ok y1 (255 - al) l1 hbl)
  have Q2 := Lib.hid (partI_ok y2 (255 - al) l2 hbl)
  have Q3 := Lib.hid (partI_ok y3 (255 - al) l3 hbl)
  obtain ⟨a1, ea1⟩ : ∃ x, x = pxPart x1 al := ⟨_, rfl⟩
  obtain ⟨a2, ea2⟩ : ∃ x, x = pxPart x2 al := ⟨_, rfl⟩
  obtain ⟨a3, ea3⟩ : ∃ x, x = pxPart x3 al := ⟨_, rfl⟩
  obtain ⟨b1, eb1⟩ : ∃ x, x = pxPart y1 (255 - al) := ⟨_, rfl⟩
  obtain ⟨b2, eb2⟩ : ∃ x, x = pxPart y2 (255 - al) := ⟨_, rfl⟩
  obtain ⟨b3, eb3⟩ : ∃ x, x = pxPart y3 (255 - al) := ⟨_, rfl⟩
  obtain ⟨a10, a11⟩ : chOk a1 := by rw [ea1]; exact part_ok k1 hal
  obtain ⟨a20, a21⟩ : chOk a2 := by rw [ea2]; exact part_ok k2 hal
  obtain ⟨a30, a31⟩ : chOk a3 := by rw [ea3]; exact part_ok k3 hal
  obtain ⟨b10, b11⟩ : chOk b1 := by rw [eb1]; exact part_ok l1 hbl
  obtain ⟨b20, b21⟩ : chOk b2 := by rw [eb2]; exact part_ok l2 hbl
  obtain ⟨b30, b31⟩ : chOk b3 := by rw [eb3]; exact part_ok l3 hbl
  rw [overK, ← ha, ← hx1, ← hx2, ← hx3, ← hy1, ← hy2, ← hy3, mixC, mixC, mixC, ← ea1, ← ea2, ← ea3, ← eb1, ← eb2, ← eb3] at Hn
  rw [mixC, ← ea1, ← eb1] at M1
  rw [mixC, ← ea2, ← eb2] at M2
  rw [mixC, ← ea3, ← eb3] at M3
  rw [← ea1] at P1
  rw [← ea2] at P2
  rw [← ea3] at P3
  rw [← eb1] at Q1
  rw [← eb2] at Q2
  rw [← eb3] at Q3
  obtain ⟨al0, al1⟩ := hal
  have Hp := Lib.hid hp
  have Hq := Lib.hid hq
  have s1 : IntKind.i64.wrap (a1 + b1) = a1 + b1 := IntWalk.i64_in _ (by omega)
  have s2 : IntKind.i64.wrap (a2 + b2) = a2 + b2 := IntWalk.i64_in _ (by omega)
  have s3 : IntKind.i64.wrap (a3 + b3) = a3 + b3 := IntWalk.i64_in _ (by omega)
  have s4 : IntKind.i64.wrap (255 - al) = 255 - al := IntWalk.i64_in _ (by omega)
  clear ha hx1 hx2 hx3 hy0 hy1 hy2 hy3 ea1 ea2 ea3 eb1 eb2 eb3 hbl k1 k2 k3 l1 l2 l3 hp hq
  go_enter Try.func120, Try.ntmps120
  go_wp2_with fail
  refine (pixI_yes p Hp.out _).mono ?_
  rintro e w' ⟨rfl, rfl⟩
  go_wp2_with fail
  refine (pixI_yes q Hq.out _).mono ?_
  rintro e w' ⟨rfl, rfl⟩
  go_wp2_with fail
  refine (Up.out _).mono ?_
  rintro e w1 ⟨rfl, K⟩
  go_wp2_with fail
  refine (Uq.out _).mono ?_
  rintro e w2 ⟨rfl, hb⟩
  replace K := px_call K hb
  have hlw := K.size
  clear hb
  go_wp2_with fail
  go_loopw [9] (fun i wr => ∃ (k : Nat) (m1 m2 m3 : Int), 1 ≤ k ∧ k ≤ 4 ∧ i = .int .i64 k ∧ Hid ((1 < k → m1 = a1 + b1) ∧ (2 < k → m2 = a2 + b2) ∧ (3 < k → m3 = a3 + b3)) ∧
    ChAt wr w2.heap.size al x1 x2 x3 ∧ ChAt wr (w2.heap.size + 1) y0 y1 y2 y3 ∧ ChAt wr (w2.heap.size + 1 + 1) 255 m1 m2 m3 ∧ Below w.heap.size w wr) (fun i _ => 4 - (intOf i).toNat)
  case atStart =>
    exact ⟨1, 0, 0, 0, by omega, by omega, rfl, ⟨fun h => by omega, fun h => by omega, fun h => by omega⟩, ((ChAt.new w2 al x1 x2 x3).alloc _).alloc _, (ChAt.newAt (by simp) y0 y1 y2 y3).alloc _, ChAt.newAt (by simp) 255 0 0 0,
      ((K.alloc K.size _).alloc (by simp; omega) _).alloc (by simp; omega) _⟩
  case round =>
    clear K
    obtain ⟨k, m1, m2, m3, hk0, hk, rfl, Hm, hU, hL, hM, K⟩ := hrel
    have hsz := hM.lt
    have mf := hM.frozen
    have hsz1 := hL.lt
    have hsz0 := hU.lt
    obtain ⟨u0, u1, u2, u3⟩ := hU.cells
    obtain ⟨v0, v1, v2, v3⟩ := hL.cells
    obtain ⟨n0, n1, n2, n3⟩ := hM.cells
    have HU := Lib.hid hU
    have HL := Lib.hid hL
    have HM := Lib.hid hM
    have HK := Lib.hid K
    clear hU hL hM K
    obtain rfl | rfl | rfl | rfl : k = 1 ∨ k = 2 ∨ k = 3 ∨ k = 4 := by omega
    · have P := P1
      have Q := Q1
      clear P1 P2 P3 Q1 Q2 Q3
      clear u0 u2 u3 v0 v2 v3
      go_wp2_with fail
      go_region_held3 (fun w' => w'.cell? ⟨w2.heap.size, 1, none⟩ = some (.int .i64 x1) ∧ w'.cell? ⟨w2.heap.size + 1, 1, none⟩ = some (.int .i64 y1))
        (first | exact ⟨((HU.out.far (p := ⟨w2.heap.size + 1 + 1, 1, none⟩) (by show w2.heap.size ≠ w2.heap.size + 1 + 1; omega) _).drew.cells).2.1, ((HL.out.far (p := ⟨w2.heap.size + 1 + 1, 1, none⟩) (by show w2.heap.size + 1 ≠ w2.heap.size + 1 + 1; omega) _).drew.cells).2.1⟩ | go_keep | fail)
        (first | (go_at_call 129; (with_reducible refine (P.out _).mono ?_); rintro e w' ⟨rfl, rfl⟩) | (go_at_call 129; (with_reducible refine (Q.out _).mono ?_); rintro e w' ⟨rfl, rfl⟩))
      all_goals
        go_wp2_with fail
        go_roundw
        case rel => exact ⟨2, _, m2, m3, by omega, by omega, rfl, ⟨fun _ => rfl, fun h => by omega, fun h => by omega⟩, HU.out.drew.far (by show w2.heap.size ≠ w2.heap.size + 1 + 1; omega) _, HL.out.drew.far (by show w2.heap.size + 1 ≠ w2.heap.size + 1 + 1; omega) _, HM.out.drew.set1 _, HK.out.drew.setCell (by simp; omega) _⟩
        case measure => simp [intOf]
    · have P := P2
      have Q := Q2
      clear P1 P2 P3 Q1 Q2 Q3
      clear u0 u1 u3 v0 v1 v3
      go_wp2_with fail
      go_region_held3 (fun w' => w'.cell? ⟨w2.heap.size, 2, none⟩ = some (.int .i64 x2) ∧ w'.cell? ⟨w2.heap.size + 1, 2, none⟩ = some (.int .i64 y2))
        (first | exact ⟨((HU.out.far (p := ⟨w2.heap.size + 1 + 1, 2, none⟩) (by show w2.heap.size ≠ w2.heap.size + 1 + 1; omega) _).drew.cells).2.2.1, ((HL.out.far (p := ⟨w2.heap.size + 1 + 1, 2, none⟩) (by show w2.heap.size + 1 ≠ w2.heap.size + 1 + 1; omega) _).drew.cells).2.2.1⟩ | go_keep | fail)
        (first | (go_at_call 129; (with_reducible refine (P.out _).mono ?_); rintro e w' ⟨rfl, rfl⟩) | (go_at_call 129; (with_reducible refine (Q.out _).mono ?_); rintro e w' ⟨rfl, rfl⟩))
      all_goals
        go_wp2_with fail
        go_roundw
        case rel => exact ⟨3, m1, _, m3, by omega, by omega, rfl, ⟨fun _ => Hm.out.1 (by omega), fun _ => rfl, fun h => by omega⟩, HU.out.drew.far (by show w2.heap.size ≠ w2.heap.size + 1 + 1; omega) _, HL.out.drew.far (by show w2.heap.size + 1 ≠ w2.heap.size + 1 + 1; omega) _, HM.out.drew.set2 _, HK.out.drew.setCell (by simp; omega) _⟩
        case measure => simp [intOf]
    · have P := P3
      have Q := Q3
      clear P1 P2 P3 Q1 Q2 Q3
      clear u0 u1 u2 v0 v1 v2
      go_wp2_with fail
      go_region_held3 (fun w' => w'.cell? ⟨w2.heap.size, 3, none⟩ = some (.int .i64 x3) ∧ w'.cell? ⟨w2.heap.size + 1, 3, none⟩ = some (.int .i64 y3))
        (first | exact ⟨((HU.out.far (p := ⟨w2.heap.size + 1 + 1, 3, none⟩) (by show w2.heap.size ≠ w2.heap.size + 1 + 1; omega) _).drew.cells).2.2.2, ((HL.out.far (p := ⟨w2.heap.size + 1 + 1, 3, none⟩) (by show w2.heap.size + 1 ≠ w2.heap.size + 1 + 1; omega) _).drew.cells).2.2.2⟩ | go_keep | fail)
        (first | (go_at_call 129; (with_reducible refine (P.out _).mono ?_); rintro e w' ⟨rfl, rfl⟩) | (go_at_call 129; (with_reducible refine (Q.out _).mono ?_); rintro e w' ⟨rfl, rfl⟩))
      all_goals
        go_wp2_with fail
        go_roundw
        case rel => exact ⟨4, m1, m2, _, by omega, by omega, rfl, ⟨fun _ => Hm.out.1 (by omega), fun _ => Hm.out.2.1 (by omega), fun _ => rfl⟩, HU.out.drew.far (by show w2.heap.size ≠ w2.heap.size + 1 + 1; omega) _, HL.out.drew.far (by show w2.heap.size + 1 ≠ w2.heap.size + 1 + 1; omega) _, HM.out.drew.set3 _, HK.out.drew.setCell (by simp; omega) _⟩
        case measure => simp [intOf]
    · obtain rfl : m1 = a1 + b1 := Hm.out.1 (by omega)
      obtain rfl : m2 = a2 + b2 := Hm.out.2.1 (by omega)
      obtain rfl : m3 = a3 + b3 := Hm.out.2.2 (by omega)
      go_wp2_with fail
      refine (packedI 255 _ _ _ ch_255 M1.out M2.out M3.out _).mono ?_
      rintro e w3 ⟨rfl, hb⟩
      go_wp2_with fail
      go_ret
      exact ⟨ret_int Hn.out.symm, px_call HK.out hb⟩
theorem overI_any (p q : Int) (w : World) :
    Calls Try.prog 120 #[.int .i64 p, .int .i64 q] w fun e w' => e = .returned (.int .i64 (over p q)) ∧ Below w.heap.size w w' := by
  by_cases hp : pixOk p
  · by_cases hq : pixOk q
    · exact overI_in p q hp hq w
    · have Hn : Hid (over p q = -1) := over_no fun h => hq h.2
      have Hp := Lib.hid hp
      have Hq := Lib.hid hq
      clear hp hq
      go_enter Try.func120, Try.ntmps120
      go_wp2_with fail
      refine (pixI_yes p Hp.out _).mono ?_
      rintro e w' ⟨rfl, rfl⟩
      go_wp2_with fail
      refine (pixI_no q Hq.out _).mono ?_
      rintro e w' ⟨rfl, rfl⟩
      go_wp2
      go_ret
      exact ⟨ret_int Hn.out.symm, Below.refl _ _⟩
  · have Hn : Hid (over p q = -1) := over_no fun h => hp h.1
    have Hp := Lib.hid hp
    clear hp
    go_enter Try.func120, Try.ntmps120
    go_wp2_with fail
    refine (pixI_no p Hp.out _).mono ?_
    rintro e w' ⟨rfl, rfl⟩
    go_wp2
    go_ret
    exact ⟨ret_int Hn.out.symm, Below.refl _ _⟩
end Go.Proofs.Ytfolphadhmgbiaa
