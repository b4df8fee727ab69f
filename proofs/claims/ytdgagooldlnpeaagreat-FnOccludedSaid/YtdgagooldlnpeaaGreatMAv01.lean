/- Texts of mine in one file: IntR, ImR, Rep, Bk, PixM, SfM, CurC, PixS, PixD, HasC, RectD, BlendM, Big. No statement is proved here. -/
import Derived.Test.YtdgagooldlnpeaaGreatMA
import Derived.Test.YtdgagooldlnpeaaGreatMC
import Derived.Test.YtdgagooldlnpeaaGreatProg
import Derived.WalkKit
import Derived.ProofKit
import Derived.OpenShut
import Derived.WalkLawsBesides
import Derived.WalkSpells
import Derived.ShutString
import Derived.ChangeOld
import Derived.Below
import Derived.Lib.Hide
import Derived.BigQuiet
import Derived.Deep.QuietTactic
import Derived.Maps.AppendAt
import Derived.Deep.OwnRows
import Derived.Handy
import Derived.Deep.Draws
import Derived.OwnWalk
import Derived.Deep.AppendLies
import Derived.Deep.LoopGhost
import Derived.Deep.Onto
import Derived.Deep.MidRow
import Derived.Deep.WholeRow
import Derived.Laws.BitsAllLaws
import Derived.Lib.QuoteBits
import Derived.Deep.RegionHeld3
import Derived.Deep.DeepCutAuto
import Derived.Deep.RegionWith
namespace Go.Proofs.YtdgagooldlnpeaaGreat
open Go.RowKit
theorem Rd.of_rowIs {w : World} {g t n cap : Nat} {f : Nat → Value} {L : List Int} (h : w.rowIs g t n f) (hm : n ≤ maxLen) (hL : L.length = n) (hf : ∀ j x, L[j]? = some x → f j = .int .i64 x) : Rd w (.slice (some ⟨g, 0, none⟩) n cap) n (intCells L) := by
 refine ⟨by rw [intCells_length, hL], hm, _, _, rfl, fun h0 => ⟨_, rfl, fun j u hu => ?_⟩⟩
 rw [intCells_get] at hu
 obtain ⟨x, hx, rfl⟩ := Option.map_eq_some_iff.1 hu
 have hj : j < n := by have := (List.getElem?_eq_some_iff.1 hx).1; omega
 rw [← hf j x hx, ← h.cell hj]
 unfold Addr.add
 split
 ·rename_i e; rw [e]
 ·simp
end Go.Proofs.YtdgagooldlnpeaaGreat
namespace Go.Proofs.YtdgagooldlnpeaaGreat
open Go.RowKit
theorem RdI.drewN {w : World} {v : Value} {L : List Int} (h : RdI w v L) (k : Nat) : RdI (w.drewN k) v L := h.kept fun _ _ _ => rfl
theorem ImAt.drewN {w : World} {g : Nat} {t : TypeId} {W H : Int} {v : Value} (h : ImAt w g t W H v) (n : Nat) : ImAt (w.drewN n) g t W H v := h
end Go.Proofs.YtdgagooldlnpeaaGreat
namespace Go.Proofs.YtdgagooldlnpeaaGreat
open Go.RowKit
section
variable {α : Type} {E : Rep α} {w w' : World} {a : α} {vs : List Value} {bs cs : List Nat}
end
section
variable {α : Type} {E : Rep α} {w w' : World}
theorem rowsR_append : ∀ {L M : List α} {xs ys : List (List Value)} {bss css : List (List Nat)}, rowsR E w L xs bss → rowsR E w M ys css → rowsR E w (L ++ M) (xs ++ ys) (bss ++ css)
 | [], _, [], _, [], _, _, h => h
 | _ :: _, _, _ :: _, _, _ :: _, _, h, hk => ⟨h.1, rowsR_append h.2 hk⟩
end
end Go.Proofs.YtdgagooldlnpeaaGreat
namespace Go.Proofs.YtdgagooldlnpeaaGreat
open Go.RowKit
theorem grown_setB (w : World) (g o : Nat) (v : Value) : w.grownBy (w.setCell ⟨g, o, none⟩ v) (some g) :=
 ⟨rfl, rfl, rfl, by simp, fun k _ hk => Below.heap_setCell w ⟨g, o, none⟩ v k (fun e => hk (by rw [e]))⟩
theorem wp_load_bk {op : Oper} {a : Act} {w : World} {K : Act → World → Prop} {Q : Exit → Act → World → Prop} (t : TypeId) (x : Operand) (ho : op.op = .load t x) (b : Nat) (t0 : TypeId) (cs : Array Value) (fs : Array Field) (hu : Tryz.prog.underlying t = some (.struct fs))
  (hsz : (Tryz.prog.info? t).map (·.size) = some cs.size) (hx : a.eval x = .pointer (some ⟨b, 0, none⟩)) (hI : BkAt w b t0 cs) (h : K (a.put op.dst (.agg cs)) w) : op.wp Tryz.prog a w K Q :=
 wp_load_row t x ho b hx _ cs _ _ hI hu rfl hsz h
end Go.Proofs.YtdgagooldlnpeaaGreat
namespace Go.Proofs.YtdgagooldlnpeaaGreat
open Go.RowKit
theorem pack_0 {a r g b : Int} (hr : chOk r) (hg : chOk g) (hb : chOk b) : pack4 a r g b / 16777216 = a := by
 unfold chOk pack4 at *; omega
theorem pack_1 {a r g b : Int} (hr : chOk r) (hg : chOk g) (hb : chOk b) : pack4 a r g b / 65536 % 256 = r := by
 unfold chOk pack4 at *; omega
theorem pack_2 {a r g b : Int} (hg : chOk g) (hb : chOk b) : pack4 a r g b / 256 % 256 = g := by
 unfold chOk pack4 at *; omega
theorem pack_3 {a r g b : Int} (hb : chOk b) : pack4 a r g b % 256 = b := by
 unfold chOk pack4 at *; omega
def mkPix (a r g b : Int) : Int := if chOk a ∧ chOk r ∧ chOk g ∧ chOk b then pack4 a r g b else -1
theorem overK_ok {p : Int} (h : pixOk p) (q : Int) : pixOk (overK p q) :=
 pack_ok ch_255 (mix_ok (ch_1 p) (ch_1 q) (ch_0 h)) (mix_ok (ch_2 p) (ch_2 q) (ch_0 h)) (mix_ok (ch_3 p) (ch_3 q) (ch_0 h))
end Go.Proofs.YtdgagooldlnpeaaGreat
namespace Go.Proofs.YtdgagooldlnpeaaGreat
open Go.RowKit
theorem idxF_is {L : List Sf} {i : Int} : (idxF L i = -1 ∧ ∀ (j : Nat) (g : Sf), L[j]? = some g → g.id ≠ i) ∨ ∃ (k : Nat) (f : Sf), idxF L i = k ∧ L[k]? = some f ∧ f.id = i ∧ ∀ (j : Nat) (g : Sf), j < k → L[j]? = some g → g.id ≠ i := by
  induction L with
  | nil => exact .inl ⟨rfl, fun j g h => by simp at h⟩
  | cons g L ih =>
    by_cases hg : g.id = i
    · exact .inr ⟨0, g, by simp [idxF, hg], rfl, hg, fun j e hj _ => by omega⟩
    · rcases ih with ⟨h1, h2⟩ | ⟨k, f, h1, h2, h3, h4⟩
      · refine .inl ⟨by unfold idxF; rw [if_neg hg, h1, if_pos (by omega)], fun j e he => ?_⟩
        cases j with
        | zero => obtain rfl : g = e := by simpa using he
                  exact hg
        | succ j => exact h2 j e (by simpa using he)
      · refine .inr ⟨k + 1, f, by unfold idxF; rw [if_neg hg, h1, if_neg (by omega)]; push_cast; rfl, by simpa using h2, h3, fun j e hj he => ?_⟩
        cases j with
        | zero => obtain rfl : g = e := by simpa using he
                  exact hg
        | succ j => exact h4 j e (by omega) (by simpa using he)
def repEd : Rep Ed where
 R := fun w f vs bs => ∃ d, vs = edCells f d ∧ repInts.R w f.data [d] bs
 ex := by rintro w f vs bs ⟨d, rfl, h⟩; exact repInts.ex h
 keep := by rintro w w' f vs bs ⟨d, rfl, h⟩ hk; exact ⟨d, rfl, repInts.keep h hk⟩
end Go.Proofs.YtdgagooldlnpeaaGreat
namespace Go.Proofs.YtdgagooldlnpeaaGreat
open Go.RowKit
theorem and_mask (x m : Int) (h0 : 0 ≤ m) (h1 : m ≤ 9223372036854775807) : 0 ≤ bits .and .i64 x m ∧ bits .and .i64 x m ≤ m := by
 obtain ⟨k, rfl⟩ := Int.eq_ofNat_of_zero_le h0
 have h2 : (BitVec.ofInt 64 (k : Int)).toNat = k := by
  rw [BitVec.ofInt_natCast, BitVec.toNat_ofNat]; exact Nat.mod_eq_of_lt (by omega)
 have h : (BitVec.ofInt 64 x &&& BitVec.ofInt 64 (k : Int)).toNat ≤ k := by
  rw [BitVec.toNat_and, h2]; exact Nat.and_le_right
 have e : bits .and .i64 x (k : Int) = IntKind.i64.wrap ((BitVec.ofInt 64 x &&& BitVec.ofInt 64 (k : Int)).toNat : Int) := rfl
 rw [e, IntWalk.i64_in _ (by omega)]; omega
structure Cur (w : World) (g : Nat) : Prop where
 ex : ∃ (a : Option Addr) (len cap i : Nat) (h : Int) (zs : List Int), w.heap[g]? = some (.cells #[.slice a len cap, .int .i64 i, .int .i64 h] 156 (0, 0)) ∧
  i ≤ len ∧ len ≤ maxLen ∧ IsRow .u8 w a len cap zs ∧ (∀ x, a = some x → 0 < cap → x.block < g)
theorem Cur.lt {w : World} {g : Nat} (h : Cur w g) : g < w.heap.size := by
 obtain ⟨a, len, cap, i, h, zs, hg, _⟩ := h.ex
 exact (Array.getElem?_eq_some_iff.1 hg).1
theorem IsRow.of_same {k : IntKind} {w w' : World} {a : Option Addr} {len cap : Nat} {zs : List Int} (h : IsRow k w a len cap zs)
  (hs : ∀ x, a = some x → 0 < cap → w'.heap[x.block]? = w.heap[x.block]?) : IsRow k w' a len cap zs := by
 rcases h with h | ⟨x, rfl, h1, h2, h3, h4, h5⟩
 ·exact .inl h
 ·refine .inr ⟨x, rfl, h1, h2, h3, fun i hi => ?_, h5⟩
  rw [← h4 i hi]
  have e : (x.add i).block = x.block := by unfold Addr.add; split <;> rfl
  exact World.cell?_of_block (by rw [e]; exact hs x rfl (by omega))
theorem Cur.kept {w w' : World} {g : Nat} (h : Cur w g) (hs : ∀ k, k ≤ g → w'.heap[k]? = w.heap[k]?) : Cur w' g := by
 obtain ⟨a, len, cap, i, h, zs, hg, h1, h2, h3, h4⟩ := h.ex
 exact ⟨a, len, cap, i, h, zs, (hs g (Nat.le_refl _)).trans hg, h1, h2, h3.of_same (fun x hx hp => hs _ (Nat.le_of_lt (h4 x hx hp))), h4⟩
theorem Cur.alloc {w : World} {g : Nat} (h : Cur w g) (o : Obj) : Cur (w.alloc o) g :=
 h.kept fun k hk => Below.heap_alloc _ _ _ (by have := h.lt; omega)
theorem Cur.drew {w : World} {g : Nat} (h : Cur w g) : Cur w.drew g := h.kept fun _ _ => rfl
theorem Cur.grown {w w' : World} {g : Nat} {row : Option Nat} (h : Cur w g) (hg : w.grownBy w' row) (hr : ∀ k, row = some k → g < k) : Cur w' g :=
 h.kept fun k hk => hg.block k (by have := h.lt; omega) (fun e => by have := hr k e.symm; omega)
theorem Cur.below {w w' : World} {g B : Nat} (h : Cur w g) (hb : Below B w w') (hB : g < B) : Cur w' g :=
 h.kept fun k hk => hb.block k (by omega)
def CurInt (lo hi : Int) (w : World) (g : Nat) (e : Ending) (w' : World) : Prop :=
 ∃ x : Int, e = .returned (.int .i64 x) ∧ lo ≤ x ∧ x ≤ hi ∧ Cur w' g ∧ w.grownBy w' (some g)
theorem cells_of_cur {w : World} {g : Nat} {s i h : Value} {T : TypeId} (hg : w.heap[g]? = some (.cells #[s, i, h] T (0, 0))) :
  w.cell? ⟨g, 0, none⟩ = some s ∧ w.cell? ⟨g, 1, none⟩ = some i ∧ w.cell? ⟨g, 2, none⟩ = some h ∧ (∀ o, w.frozen? ⟨g, o, none⟩ = false) := by
 refine ⟨?_, ?_, ?_, fun o => ?_⟩ <;> simp [World.cell?, World.frozen?, hg]
theorem grown_set (w : World) (g o : Nat) (v : Value) : w.grownBy (w.setCell ⟨g, o, none⟩ v) (some g) :=
 ⟨rfl, rfl, rfl, by simp [World.setCell], fun k _ hne => Below.heap_setCell _ _ _ _ (fun e => hne (by rw [e]))⟩
theorem grown_drewN (w : World) (n : Nat) (row : Option Nat) : w.grownBy (w.drewN n) row :=
 ⟨rfl, rfl, rfl, Nat.le_refl _, fun _ _ _ => rfl⟩
theorem Cur.turned {w w' : World} {g : Nat} {a : Option Addr} {len cap i : Nat} {h : Int} {zs : List Int} (hg' : w'.heap[g]? = some (.cells #[.slice a len cap, .int .i64 i, .int .i64 h] 156 (0, 0)))
  (h1 : i ≤ len) (h2 : len ≤ maxLen) (h3 : IsRow .u8 w a len cap zs) (h4 : ∀ x, a = some x → 0 < cap → x.block < g) (hgr : w.grownBy w' (some g)) (hgs : g < w.heap.size) : Cur w' g :=
 ⟨a, len, cap, i, h, zs, hg', h1, h2, h3.of_same (fun x hx hp => hgr.block _ (by have := h4 x hx hp; omega) (fun e => by have := h4 x hx hp; simp at e; omega)), h4⟩
theorem heap_set1 {w : World} {g : Nat} {s i h : Value} {T : TypeId} (hg : w.heap[g]? = some (.cells #[s, i, h] T (0, 0))) (v : Value) :
  (w.setCell ⟨g, 1, none⟩ v).heap[g]? = some (.cells #[s, v, h] T (0, 0)) := by simp [World.setCell, Array.getElem?_modify, hg]
theorem heap_set2 {w : World} {g : Nat} {s i h : Value} {T : TypeId} (hg : w.heap[g]? = some (.cells #[s, i, h] T (0, 0))) (v : Value) :
  (w.setCell ⟨g, 2, none⟩ v).heap[g]? = some (.cells #[s, i, v] T (0, 0)) := by simp [World.setCell, Array.getElem?_modify, hg]
theorem heap_drewN {w : World} {g : Nat} {o : Option Obj} (hg : w.heap[g]? = o) (n : Nat) : (w.drewN n).heap[g]? = o := hg
set_option maxHeartbeats 400000 in
theorem byte_any (w : World) (g : Nat) (hc : Cur w g) : Calls Tryz.prog 181 #[.pointer (some ⟨g, 0, none⟩)] w (CurInt 0 255 w g) := by
 obtain ⟨a, len, cap, i, h, zs, hg, hi, hm, hrow, hlt⟩ := hc.ex
 obtain ⟨c0, c1, c2, fz⟩ := cells_of_cur hg
 have hm' : len ≤ 9223372036854775807 := by unfold maxLen at hm; omega
 by_cases hil : i < len
 ·rcases hrow with ⟨_, hl, _⟩ | ⟨x, rfl, hlc, hcm, hz0, hcell, hwf⟩
  ·omega
  ·have hxb := hlt x rfl (by omega)
   have hci := hcell i (by omega)
   have hwi : (Lit.int .u8 (zs.getD i 0)).wf = true := hwf _ (by rw [List.getD_eq_getElem?_getD, List.getElem?_eq_getElem (by omega)]; exact List.getElem_mem _)
   obtain ⟨z, hzz⟩ : ∃ z, z = zs.getD i 0 := ⟨_, rfl⟩
   rw [← hzz] at hci hwi
   clear hzz
   have hz : 0 ≤ z ∧ z ≤ 255 := by simpa [Lit.wf, IntKind.min, IntKind.max, IntKind.signed, IntKind.bits] using hwi
   have hne : ∀ o, (x.add i) ≠ ⟨g, o, none⟩ := fun o e => by
    have e2 : (x.add i).block = x.block := by unfold Addr.add; split <;> rfl
    rw [e] at e2; simp at e2; omega
   have hci2 : ∀ v, (w.setCell ⟨g, 2, none⟩ v).cell? (x.add i) = some (.int .u8 z) := fun v => by
    rw [← hci]
    exact World.cell?_of_block (Below.heap_setCell _ _ _ _ (by have e2 : (x.add i).block = x.block := by { unfold Addr.add; split <;> rfl }; rw [e2]; simp; omega))
   have Hil := Lib.hid hil
   have Hg := Lib.hid hg
   have Hrow : Hid (IsRow .u8 w (some x) len cap zs) := .inr ⟨x, rfl, hlc, hcm, hz0, hcell, hwf⟩
   clear hcell hwf hwi hne hil hg
   have hd : decide ((i : Int) < len) = true := by have := Hil.out; simp; omega
   have i0 : (0 : Int) ≤ i := by omega
   have i1 : (i : Int) < len := by have := Hil.out; omega
   go_enter Tryz.func181, Tryz.ntmps181
   go_wp2
   go_quiet (fail)
   go_wp2
   go_quiet (fail)
   go_wp2
   go_quiet (fail)
   go_wp2
   go_ret
   rename_i nq1 nq2
   have hgr := ((grown_set w g 2 (.int .i64 (wrap64 (wrap64 (h * 6364136223846793005) + 1442695040888963407)))).trans (grown_drewN _ (nq1 + nq2 + nq) _)).trans (grown_set _ g 1 (.int .i64 (i + 1)))
   refine ⟨_, rfl, (and_mask _ 255 (by omega) (by omega)).1, (and_mask _ 255 (by omega) (by omega)).2, ?_, hgr⟩
   exact Cur.turned (i := i + 1) (heap_set1 (heap_drewN (heap_set2 Hg.out _) _) _) (by have := Hil.out; omega) hm Hrow.out hlt hgr hc.lt
 ·have Hg := Lib.hid hg
  clear hg
  have hd : decide ((i : Int) < len) = false := by simp; omega
  go_enter Tryz.func181, Tryz.ntmps181
  go_wp2
  go_quiet (fail)
  go_wp2
  go_quiet (fail)
  go_wp2
  go_ret
  rename_i nq1
  have hgr := ((grown_set w g 2 (.int .i64 (wrap64 (wrap64 (h * 6364136223846793005) + 1442695040888963407)))).trans (grown_drewN _ nq1 _)).trans (grown_drewN _ nq _)
  refine ⟨_, rfl, (and_mask _ 255 (by omega) (by omega)).1, (and_mask _ 255 (by omega) (by omega)).2, ?_, hgr⟩
  exact Cur.turned (heap_drewN (heap_drewN (heap_set2 Hg.out _) _) _) hi hm hrow hlt hgr hc.lt
def BelowInt (n : Int) (w : World) (g : Nat) (e : Ending) (w' : World) : Prop :=
 ∃ x : Int, e = .returned (.int .i64 x) ∧ 0 ≤ x ∧ (0 < n → x < n) ∧ (n ≤ 0 → x = 0) ∧ Cur w' g ∧ w.grownBy w' (some g)
set_option maxHeartbeats 400000 in
theorem below_any (w : World) (g : Nat) (n : Int) (hn : n ≤ 9223372036854775807) (hc : Cur w g) :
  Calls Tryz.prog 131 #[.pointer (some ⟨g, 0, none⟩), .int .i64 n] w (BelowInt n w g) := by
 by_cases h0 : n ≤ 0
 ·go_enter Tryz.func131, Tryz.ntmps131
  go_wp2_with fail
  go_ret
  exact ⟨0, rfl, by omega, fun h => by omega, fun _ => rfl, hc, World.grownBy.refl _ _⟩
 by_cases h1 : n ≤ 256
 ·go_enter Tryz.func131, Tryz.ntmps131
  go_wp2_with (go_at_call 181; (with_reducible refine (byte_any _ _ hc).mono ?_); rintro e w1 ⟨x, rfl, hx0, hx1, hc1, hg1⟩)
  go_ret
  exact ⟨_, rfl, Int.emod_nonneg _ (by omega), fun _ => Int.emod_lt_of_pos _ (by omega), fun h => by omega, hc1, hg1⟩
 ·go_enter Tryz.func131, Tryz.ntmps131
  go_wp2_with fail
  refine (byte_any _ _ hc).mono ?_
  rintro e w1 ⟨x1, rfl, ha1, hb1, hc1, hg1⟩
  go_wp2_with fail
  refine (byte_any _ _ hc1).mono ?_
  rintro e w2 ⟨x2, rfl, ha2, hb2, hc2, hg2⟩
  go_wp2_with fail
  refine (byte_any _ _ hc2).mono ?_
  rintro e w3 ⟨x3, rfl, ha3, hb3, hc3, hg3⟩
  go_wp2_with fail
  refine (byte_any _ _ hc3).mono ?_
  rintro e w4 ⟨x4, rfl, ha4, hb4, hc4, hg4⟩
  go_wp2_with fail
  go_ret
  exact ⟨_, rfl, Int.emod_nonneg _ (by omega), fun _ => Int.emod_lt_of_pos _ (by omega), fun h => by omega, hc4, ((hg1.trans hg2).trans hg3).trans hg4⟩
def CurBool (w : World) (g : Nat) (e : Ending) (w' : World) : Prop := ∃ b : Bool, e = .returned (.bool b) ∧ Cur w' g ∧ w.grownBy w' (some g)
theorem once_any (w : World) (g : Nat) (n : Int) (hn : n ≤ 9223372036854775807) (hc : Cur w g) :
  Calls Tryz.prog 186 #[.pointer (some ⟨g, 0, none⟩), .int .i64 n] w (CurBool w g) := by
 go_enter Tryz.func186, Tryz.ntmps186
 go_wp2_with (go_at_call 131; (with_reducible refine (below_any _ _ _ hn hc).mono ?_); rintro e w1 ⟨x, rfl, hx0, hx1, hx2, hc1, hg1⟩)
 go_ret
 exact ⟨_, rfl, hc1, hg1⟩
def NewCur (w : World) (e : Ending) (w' : World) : Prop :=
 ∃ g : Nat, e = .returned (.pointer (some ⟨g, 0, none⟩)) ∧ w.heap.size ≤ g ∧ Cur w' g ∧ Below w.heap.size w w'
theorem cur_new (w : World) (a : Option Addr) (len cap : Nat) (h : Int) (zs : List Int) (hm : len ≤ maxLen) (hrow : IsRow .u8 w a len cap zs) (hlt : ∀ x, a = some x → 0 < cap → x.block < w.heap.size) :
  Cur (w.alloc (.cells #[.slice a len cap, .int .i64 0, .int .i64 h] 156)) w.heap.size :=
 ⟨a, len, cap, 0, h, zs, heap_alloc_new w _, Nat.zero_le _, hm, hrow.of_same (fun x hx hp => Below.heap_alloc _ _ _ (hlt x hx hp)), hlt⟩
set_option maxRecDepth 100000 in
set_option maxHeartbeats 400000 in
theorem new_any (w : World) (a : Option Addr) (len cap : Nat) (zs : List Int) (hrow : IsRow .u8 w a len cap zs) :
  Calls Tryz.prog 72 #[.slice a len cap] w (NewCur w) := by
 have hm : len ≤ maxLen := by rcases hrow with ⟨_, h, _⟩ | ⟨_, _, h1, h2, _⟩ <;> omega
 have hm' : len ≤ 9223372036854775807 := by unfold maxLen at hm; omega
 have hlt := hrow.lt
 have Hlt := Lib.hid hlt
 clear hlt
 have Hrow := Lib.hid hrow
 have Hm := Lib.hid hm
 have hcell : ∀ k, k < len → ∃ x z, a = some x ∧ w.cell? (x.add k) = some (.int .u8 z) ∧ 0 ≤ z ∧ z ≤ 255 := by
  intro k hk
  rcases hrow with ⟨_, hl, _⟩ | ⟨x, rfl, hlc, hcm, hz0, hcell, hwf⟩
  ·omega
  ·have hwi : (Lit.int .u8 (zs.getD k 0)).wf = true := hwf _ (by rw [List.getD_eq_getElem?_getD, List.getElem?_eq_getElem (by omega)]; exact List.getElem_mem _)
   exact ⟨x, _, rfl, hcell k (by omega), by simpa [Lit.wf, IntKind.min, IntKind.max, IntKind.signed, IntKind.bits] using hwi⟩
 clear hrow hm
 have Hcell := Lib.hid hcell
 clear hcell
 go_enter Tryz.func72, Tryz.ntmps72
 go_wp2
 go_loop [3, 4] (fun h i => ∃ (k : Nat) (x : Int), k ≤ len ∧ i = .int .i64 k ∧ h = .int .i64 x) (fun _ i => len - (intOf i).toNat)
 case atStart => exact ⟨0, _, Nat.zero_le _, rfl, rfl⟩
 case round =>
  obtain ⟨k, x, hk, rfl, rfl⟩ := hrel
  by_cases hl : k < len ∧ k < 4000
  ·obtain ⟨hl1, hl2⟩ := hl
   obtain ⟨y, z, hy, hz, hz0, hz1⟩ := Hcell.out k hl1
   subst hy
   go_wp2
   go_round
   case rel => exact ⟨k + 1, _, by omega, by go_num, rfl⟩
   case measure => simp [intOf]; omega
  ·by_cases hl1 : k < len
   ·have hl2 : 4000 ≤ k := by omega
    clear hl
    go_wp2
    go_ret
    exact ⟨_, rfl, Nat.le_refl _, cur_new w a len cap x zs Hm.out Hrow.out Hlt.out, (Below.refl _ _).alloc (Nat.le_refl _) _⟩
   ·clear hl
    go_wp2
    go_ret
    exact ⟨_, rfl, Nat.le_refl _, cur_new w a len cap x zs Hm.out Hrow.out Hlt.out, (Below.refl _ _).alloc (Nat.le_refl _) _⟩
end Go.Proofs.YtdgagooldlnpeaaGreat
namespace Go.Proofs.YtdgagooldlnpeaaGreat
open Go.RowKit
theorem mk_yes {a r g b : Int} (ha : chOk a) (hr : chOk r) (hg : chOk g) (hb : chOk b) : mkPix a r g b = pack4 a r g b := if_pos ⟨ha, hr, hg, hb⟩
theorem mkS_in (a r g b : Int) (ha : chOk a) (hr : chOk r) (hg : chOk g) (hb : chOk b) (w : World) :
  Calls Tryz.prog 184 #[.int .i64 a, .int .i64 r, .int .i64 g, .int .i64 b] w fun e w' => e = .returned (.int .i64 (mkPix a r g b)) ∧ w = w' := by
 have Hn : Hid (mkPix a r g b = pack4 a r g b) := mk_yes ha hr hg hb
 obtain ⟨a0, a1⟩ := ha
 obtain ⟨r0, r1⟩ := hr
 obtain ⟨g0, g1⟩ := hg
 obtain ⟨b0, b1⟩ := hb
 go_enter Tryz.func184, Tryz.ntmps184
 go_wp2_with fail
 refine (inS_yes _ 0 255 _ (by omega) (by omega)).mono ?_
 rintro e w' ⟨rfl, rfl⟩
 go_wp2_with fail
 refine (inS_yes _ 0 255 _ (by omega) (by omega)).mono ?_
 rintro e w' ⟨rfl, rfl⟩
 go_wp2_with fail
 refine (inS_yes _ 0 255 _ (by omega) (by omega)).mono ?_
 rintro e w' ⟨rfl, rfl⟩
 go_wp2_with fail
 refine (inS_yes _ 0 255 _ (by omega) (by omega)).mono ?_
 rintro e w' ⟨rfl, rfl⟩
 go_wp2
 go_ret
 exact ⟨ret_int (Hn.out.trans rfl).symm, rfl⟩
end Go.Proofs.YtdgagooldlnpeaaGreat
namespace Go.Proofs.YtdgagooldlnpeaaGreat
open Go.RowKit
def PickInt (L : List Int) (w : World) (g : Nat) (e : Ending) (w' : World) : Prop :=
 ∃ x : Int, e = .returned (.int .i64 x) ∧ x ∈ L ∧ Cur w' g ∧ w.grownBy w' (some g)
theorem pickI_any (v : Value) (L : List Int) (w : World) (g : Nat) (hL : 0 < L.length) (hc : Cur w g) (h : Rd w v L.length (intCells L)) (hg : ∀ b, v.ownBlock = some b → b ≠ g) :
  Calls Tryz.prog 182 #[.pointer (some ⟨g, 0, none⟩), v] w (PickInt L w g) := by
 obtain ⟨A, c, rfl⟩ := h.form
 have hm := h.len.2
 have hm' : (L.length : Int) ≤ 9223372036854775807 := by unfold maxLen at hm; omega
 have H := Lib.hid h
 clear h hm
 go_enter Tryz.func182, Tryz.ntmps182
 go_wp2_with fail
 refine (below_any _ _ _ hm' hc).mono ?_
 rintro e w1 ⟨k, rfl, h0, h1, _, hc1, hg1⟩
 have h2 : k < (L.length : Int) := h1 (by omega)
 obtain ⟨j, rfl⟩ := Int.eq_ofNat_of_zero_le h0
 obtain ⟨a, x, rfl, hx, hcx⟩ := (H.out.grown hg1 (fun b hb => by simpa using hg b hb)).int_at (k := j) (by omega)
 have Hx : Hid (x ∈ L) := List.mem_of_getElem? hx
 have Hj : Hid (Cur w1 g) := hc1
 clear hx h1 hg
 go_wp2_with fail
 go_ret
 exact ⟨x, rfl, Hx.out, hc1, hg1⟩
theorem px_grown_alloc (w : World) (o : Obj) (row : Option Nat) : w.grownBy (w.alloc o) row :=
 ⟨rfl, rfl, rfl, by simp, fun k hk _ => Below.heap_alloc w o k hk⟩
theorem rd_built (w : World) (L : List Int) (t : TypeId) (cs : Array Value) (hc : cs.toList = intCells L) (hm : L.length ≤ 1000) :
  Rd (w.alloc (.cells cs t)) (.slice (some ⟨w.heap.size, 0, none⟩) L.length L.length) L.length (intCells L) := by
 have hs : cs.size = L.length := by rw [← Array.length_toList, hc, intCells_length]
 have h := Rd.of_rowIs (cap := L.length) (L := L) (World.rowIs_alloc w cs t (fun j => .int .i64 (L.getD j 0)) (fun i hi => by
  rw [← Array.getElem?_toList, hc, intCells_get, List.getD_eq_getElem?_getD, List.getElem?_eq_getElem (by omega)]
  rfl)) (by unfold maxLen; omega) hs.symm (fun j x hx => by rw [List.getD_eq_getElem?_getD, hx]; rfl)
 rw [hs] at h
 exact h
def DrawnCh (w : World) (g : Nat) (e : Ending) (w' : World) : Prop :=
 ∃ x : Int, e = .returned (.int .i64 x) ∧ chOk x ∧ Cur w' g ∧ w.grownBy w' (some g)
def DrawnPx (w : World) (g : Nat) (e : Ending) (w' : World) : Prop :=
 ∃ x : Int, e = .returned (.int .i64 x) ∧ pixOk x ∧ Cur w' g ∧ w.grownBy w' (some g)
theorem l04Byte_any (w : World) (g : Nat) (hc : Cur w g) : Calls Tryz.prog 183 #[.pointer (some ⟨g, 0, none⟩)] w (DrawnCh w g) := by
 go_enter Tryz.func183, Tryz.ntmps183
 go_wp2_with fail
 refine (below_any _ _ _ (by omega) hc).mono ?_
 rintro e w1 ⟨x, rfl, h0, h1, _, hc1, hg1⟩
 have h2 : x < 256 := h1 (by omega)
 have hl := hc1.lt
 have hR := rd_built w1 [0, 255, 127, 128, 1, 254, x] 3 #[.int .i64 0, .int .i64 255, .int .i64 127, .int .i64 128, .int .i64 1, .int .i64 254, .int .i64 x] rfl (by simp)
 have hP := pickI_any _ _ _ g (by simp) (hc1.alloc _) hR (fun b hb => by simp [Value.ownBlock] at hb; omega)
 have HP := Lib.hid hP
 clear h1 hR hP
 go_wp2_with fail
 refine HP.out.mono ?_
 rintro e w2 ⟨y, rfl, hy, hc2, hg2⟩
 have hok : Hid (chOk y) := by
  unfold chOk
  simp only [List.mem_cons, List.not_mem_nil, or_false] at hy
  rcases hy with h | h | h | h | h | h | h <;> exact ⟨by omega, by omega⟩
 clear hy HP
 go_wp2_with fail
 go_ret
 exact ⟨y, rfl, hok.out, hc2, (hg1.trans (px_grown_alloc _ _ _)).trans hg2⟩
theorem l04Draw_any (w : World) (g : Nat) (hc : Cur w g) : Calls Tryz.prog 132 #[.pointer (some ⟨g, 0, none⟩)] w (DrawnPx w g) := by
 go_enter Tryz.func132, Tryz.ntmps132
 go_wp2_with fail
 refine (below_any _ _ _ (by omega) hc).mono ?_
 rintro e w1 ⟨x, rfl, h0, h1, _, hc1, hg1⟩
 have h2 : x < 256 := h1 (by omega)
 have hl := hc1.lt
 have hR := rd_built w1 [255, 255, 255, 0, 128, 200, x] 3 #[.int .i64 255, .int .i64 255, .int .i64 255, .int .i64 0, .int .i64 128, .int .i64 200, .int .i64 x] rfl (by simp)
 have hP := pickI_any _ _ _ g (by simp) (hc1.alloc _) hR (fun b hb => by simp [Value.ownBlock] at hb; omega)
 have HP := Lib.hid hP
 clear h1 hR hP
 go_wp2_with fail
 refine HP.out.mono ?_
 rintro e w2 ⟨a, rfl, hy, hc2, hg2⟩
 have ha : Hid (chOk a) := by
  unfold chOk
  simp only [List.mem_cons, List.not_mem_nil, or_false] at hy
  rcases hy with h | h | h | h | h | h | h <;> exact ⟨by omega, by omega⟩
 have hg := (hg1.trans (px_grown_alloc _ _ _)).trans hg2
 clear hy HP hg1 hg2 hc1 hl h0 h2
 go_wp2_with fail
 refine (l04Byte_any _ _ hc2).mono ?_
 rintro e w3 ⟨r, rfl, hr, hc3, hg3⟩
 have hg := hg.trans hg3
 have Hr := Lib.hid hr
 clear hr hg3
 go_wp2_with fail
 refine (l04Byte_any _ _ hc3).mono ?_
 rintro e w4 ⟨u, rfl, hu, hc4, hg4⟩
 have hg := hg.trans hg4
 have Hu := Lib.hid hu
 clear hu hg4
 go_wp2_with fail
 refine (l04Byte_any _ _ hc4).mono ?_
 rintro e w5 ⟨b, rfl, hb, hc5, hg5⟩
 have hg := hg.trans hg5
 have Hb := Lib.hid hb
 clear hb hg5
 go_wp2_with fail
 refine (mkS_in a r u b ha.out Hr.out Hu.out Hb.out _).mono ?_
 rintro e w6 ⟨rfl, rfl⟩
 go_wp2_with fail
 go_ret
 exact ⟨_, rfl, by rw [mk_yes ha.out Hr.out Hu.out Hb.out]; exact pack_ok ha.out Hr.out Hu.out Hb.out, hc5, hg⟩
end Go.Proofs.YtdgagooldlnpeaaGreat
namespace Go.Proofs.YtdgagooldlnpeaaGreat
open Go.RowKit
theorem has_no {r : Rc} {x y : Int} (h : ¬ (r.ok ∧ r.x ≤ x ∧ x < r.x + r.w ∧ r.y ≤ y ∧ y < r.y + r.h)) : hasB r x y = false := decide_eq_false h
end Go.Proofs.YtdgagooldlnpeaaGreat
namespace Go.Proofs.YtdgagooldlnpeaaGreat
open Go.RowKit
theorem Cur.far {w : World} {g : Nat} (h : Cur w g) {p : Addr} (hp : g < p.block) (v : Value) : Cur (w.setCell p v) g :=
 h.kept fun k hk => Below.heap_setCell w p v k (by omega)
end Go.Proofs.YtdgagooldlnpeaaGreat
namespace Go.Proofs.YtdgagooldlnpeaaGreat
open Go.RowKit
theorem mix_255 {x y : Int} : mixC x y 255 = x := by
 unfold mixC pxPart
 rw [show (255 : Int) - 255 = 0 from rfl, Int.mul_zero]
 omega
theorem over_op {x y z q : Int} (hx : chOk x) (hy : chOk y) (hz : chOk z) (hq : pixOk q) : over (pack4 255 x y z) q = pack4 255 x y z := by
 rw [over_yes (pack_ok ch_255 hx hy hz) hq, overK, pack_0 hx hy hz, pack_1 hx hy hz, pack_2 hy hz, pack_3 hz, mix_255, mix_255, mix_255]
end Go.Proofs.YtdgagooldlnpeaaGreat
namespace Go.Proofs.YtdgagooldlnpeaaGreat
open Go.RowKit
theorem big_no (w : World) (a : Option Addr) (len cap : Nat) (h : len ≤ 1048576) :
  Calls Tryz.prog 24 #[.slice a len cap] w fun e w' => e = .returned (.bool false) ∧ w = w' := by
 have hd : decide ((1048576 : Int) < len) = false := by simp; omega
 go_enter Tryz.func24, Tryz.ntmps24
 go_wp2
 go_ret
 exact ⟨ret_bool (by first | rfl | (simp; done) | (simp; omega)), rfl⟩
theorem big_yes (w : World) (a : Option Addr) (len cap : Nat) (h : 1048576 < len) :
  Calls Tryz.prog 24 #[.slice a len cap] w fun e w' => e = .returned (.bool true) ∧ w = w' := by
 go_enter Tryz.func24, Tryz.ntmps24
 go_wp2
 go_ret
 exact ⟨ret_bool (by first | rfl | (simp; done) | (simp; omega)), rfl⟩
end Go.Proofs.YtdgagooldlnpeaaGreat
