/- Texts of mine in one file: Base, Rd, IntR, Frame, ImR, Rep, Bk, Var, RectC, PixM, PixC, AllR, ImO, SfM, Blk4, IsectI, HasC, ImL, Sq, ImP, CurC, RectD, BoundI. No statement is proved here. -/
import Derived.Test.YtokniebejilcbaaProg
import Derived.WalkKit
import Derived.ProofKit
import Derived.OpenShut
import Derived.WalkLawsBesides
import Derived.WalkSpells
import Derived.ShutString
import Derived.ChangeOld
import Derived.Below
import Derived.Lib.Hide
import Derived.BigQuiet
import Derived.Deep.QuietTactic
import Derived.Maps.AppendAt
import Derived.Deep.OwnRows
import Derived.Handy
import Derived.Deep.Draws
import Derived.OwnWalk
import Derived.Deep.AppendLies
import Derived.Deep.LoopGhost
import Derived.Deep.Onto
import Derived.Deep.MidRow
import Derived.Deep.WholeRow
import Derived.Laws.BitsAllLaws
import Derived.Lib.QuoteBits
import Derived.Deep.RegionHeld3
import Derived.Deep.DeepCutAuto
import Derived.Deep.RegionWith
import Derived.Laws.AppendOwn
namespace Go.Proofs.Ytokniebejilcbaa
open Go.RowKit
theorem ret_int {k : IntKind} {a b : Int} (h : a = b) : Ending.returned (.int k a) = .returned (.int k b) := by rw [h]
theorem ret_bool {a b : Bool} (h : a = b) : Ending.returned (.bool a) = .returned (.bool b) := by rw [h]
def IsRow (k : IntKind) (w : World) (a : Option Addr) (len cap : Nat) (zs : List Int) : Prop :=
 (a = none ∧ len = 0 ∧ cap = 0 ∧ zs = []) ∨
 ∃ x, a = some x ∧ len ≤ cap ∧ cap ≤ maxLen ∧ zs.length = cap ∧ (∀ i, i < zs.length → w.cell? (x.add i) = some (.int k (zs.getD i 0))) ∧ ∀ n ∈ zs, (Lit.int k n).wf = true
end Go.Proofs.Ytokniebejilcbaa
namespace Go.Proofs.Ytokniebejilcbaa
open Go.RowKit
theorem add_block (a : Addr) (n : Nat) : (a.add n).block = a.block := by unfold Addr.add; split <;> rfl
def Rd (w : World) (v : Value) (n : Nat) (xs : List Value) : Prop :=
 xs.length = n ∧ n ≤ maxLen ∧ ∃ A c, v = .slice A n c ∧ (0 < n → ∃ a, A = some a ∧ ∀ j u, xs[j]? = some u → w.cell? (a.add j) = some u)
theorem Rd.of_own {w : World} {B : Nat} {e : TypeId} {v : Value} {n : Nat} {xs : List Value} (h : w.ownsRow B e 1 v n xs) : Rd w v n xs := by
 have hl : xs.length = n := by have := h.1; omega
 rcases h.2 with ⟨rfl, rfl⟩ | ⟨g, cap, cur, rfl, hg, hh, hn, hc, hs, ht⟩
 ·exact ⟨hl, by unfold maxLen; omega, none, 0, rfl, fun h0 => by omega⟩
 ·exact ⟨hl, by omega, _, _, rfl, fun h0 => ⟨_, rfl, fun j u hu => h.cells (g := g) rfl j u hu⟩⟩
theorem Rd.form {w : World} {v : Value} {n : Nat} {xs : List Value} (h : Rd w v n xs) : ∃ A c, v = .slice A n c := by
 obtain ⟨_, _, A, c, rfl, _⟩ := h; exact ⟨A, c, rfl⟩
theorem Rd.kept {w w' : World} {v : Value} {n : Nat} {xs : List Value} (h : Rd w v n xs) (hs : ∀ g, v.ownBlock = some g → g < w.heap.size → w'.heap[g]? = w.heap[g]?) : Rd w' v n xs := by
 obtain ⟨hl, hm, A, c, rfl, hc⟩ := h
 refine ⟨hl, hm, A, c, rfl, fun h0 => ?_⟩
 obtain ⟨a, rfl, hd⟩ := hc h0
 refine ⟨a, rfl, fun j u hu => ?_⟩
 have h1 := hd j u hu
 have hlt := World.block_lt_of_cell? w _ h1
 rw [add_block] at hlt
 rw [← h1]
 exact World.cell?_of_block (by rw [add_block]; exact hs a.block rfl hlt)
theorem Rd.drewN {w : World} {v : Value} {n : Nat} {xs : List Value} (h : Rd w v n xs) (k : Nat) : Rd (w.drewN k) v n xs := h
theorem Rd.below {w w' : World} {v : Value} {n B : Nat} {xs : List Value} (h : Rd w v n xs) (hb : Below B w w') (hB : ∀ g, v.ownBlock = some g → g < w.heap.size → g < B) : Rd w' v n xs :=
 h.kept fun g hg hl => hb.block g (hB g hg hl)
theorem Rd.grown {w w' : World} {v : Value} {n : Nat} {row : Option Nat} {xs : List Value} (h : Rd w v n xs) (hb : w.grownBy w' row) (hr : ∀ g, v.ownBlock = some g → some g ≠ row) : Rd w' v n xs :=
 h.kept fun g hg hl => hb.block g hl (hr g hg)
theorem Rd.at_ {w : World} {A : Option Addr} {c n k : Nat} {xs : List Value} (h : Rd w (.slice A n c) n xs) (hk : k < n) : ∃ a u, A = some a ∧ xs[k]? = some u ∧ w.cell? (a.add k) = some u := by
 obtain ⟨hl, hm, A', c', he, hc⟩ := h
 injection he with e1 e2 e3
 subst e1
 obtain ⟨a, rfl, hd⟩ := hc (by omega)
 exact ⟨a, xs[k]'(by omega), rfl, List.getElem?_eq_getElem _, hd k _ (List.getElem?_eq_getElem _)⟩
theorem Rd.len {w : World} {v : Value} {n : Nat} {xs : List Value} (h : Rd w v n xs) : xs.length = n ∧ n ≤ maxLen := ⟨h.1, h.2.1⟩
end Go.Proofs.Ytokniebejilcbaa
namespace Go.Proofs.Ytokniebejilcbaa
open Go.RowKit
def intCells (L : List Int) : List Value := L.map (Value.int .i64)
theorem intCells_length (L : List Int) : (intCells L).length = L.length := by simp [intCells]
theorem intCells_get (L : List Int) (k : Nat) : (intCells L)[k]? = (L[k]?).map (Value.int .i64) := by simp [intCells]
theorem Rd.of_row {w : World} {a : Option Addr} {len cap : Nat} {zs : List Int} (h : IsRow .i64 w a len cap zs) : Rd w (.slice a len cap) (zs.take len).length (intCells (zs.take len)) := by
 rcases h with ⟨rfl, rfl, rfl, rfl⟩ | ⟨x, rfl, h1, h2, h3, h4, h5⟩
 ·exact ⟨rfl, by simp, none, 0, rfl, fun h => by simp at h⟩
 ·have hl : (zs.take len).length = len := by rw [List.length_take]; omega
  rw [hl]
  refine ⟨by rw [intCells_length, hl], by omega, some x, cap, rfl, fun h0 => ⟨x, rfl, fun j u hu => ?_⟩⟩
  rw [intCells_get] at hu
  obtain ⟨z, hz, rfl⟩ := Option.map_eq_some_iff.1 hu
  have hj : j < len := by have := (List.getElem?_eq_some_iff.1 hz).1; omega
  rw [List.getElem?_take_of_lt hj] at hz
  rw [h4 j (by omega), List.getD_eq_getElem?_getD, hz]
  rfl
theorem Rd.int_at {w : World} {A : Option Addr} {c n k : Nat} {L : List Int} (h : Rd w (.slice A n c) n (intCells L)) (hk : k < n) : ∃ a x, A = some a ∧ L[k]? = some x ∧ w.cell? (a.add k) = some (.int .i64 x) := by
 obtain ⟨a, u, e, hu, hc⟩ := h.at_ hk
 rw [intCells_get] at hu
 obtain ⟨x, hx, rfl⟩ := Option.map_eq_some_iff.1 hu
 exact ⟨a, x, e, hx, hc⟩
theorem Rd.call {w w' : World} {v : Value} {n : Nat} {xs : List Value} (h : Rd w v n xs) (hb : Below w.heap.size w w') : Rd w' v n xs := h.below hb fun _ _ hl => hl
theorem Rd.alloc {w : World} {v : Value} {n : Nat} {xs : List Value} (h : Rd w v n xs) (o : Obj) : Rd (w.alloc o) v n xs := h.kept fun g _ hl => Below.heap_alloc w o g hl
theorem infoInt : (Try.prog.info? 3).map (fun i => (i.zero, i.size, i.bytes)) = some (some (.int .i64 0), 1, 8) := by kernel_rfl
set_option maxHeartbeats 1000000 in
theorem eqIS_same (v u : Value) (L : List Int) (w : World) (hv : Rd w v L.length (intCells L)) (hu : Rd w u L.length (intCells L)) :
  Calls Try.prog 20 #[v, u] w fun e w' => e = .returned (.bool true) ∧ ∃ q, w' = w.drewN q := by
 obtain ⟨A, c, rfl⟩ := hv.form
 obtain ⟨A', c', rfl⟩ := hu.form
 have hn1 : L.length ≤ 9223372036854775807 := by have := hv.len.2; unfold maxLen at this; omega
 obtain ⟨n, hn⟩ : ∃ n, n = L.length := ⟨_, rfl⟩
 rw [← hn] at hn1 hv hu ⊢
 have Hv := Lib.hid hv
 have Hu := Lib.hid hu
 clear hv hu hn
 go_enter Try.func20, Try.ntmps20
 go_wp2_with fail
 go_loopw [5] (fun i wr => ∃ k : Nat, k ≤ n ∧ i = .int .i64 k ∧ ∃ q, wr = w.drewN q) (fun i _ => n - (intOf i).toNat)
 case atStart => exact ⟨0, Nat.zero_le _, rfl, 0, rfl⟩
 case round =>
  obtain ⟨k, hk, rfl, q, rfl⟩ := hrel
  by_cases hlt : k < n
  ·obtain ⟨a, x, rfl, hx, hcx⟩ := Hv.out.int_at hlt
   obtain ⟨a', y, rfl, hy, hcy⟩ := Hu.out.int_at hlt
   rw [hx] at hy
   injection hy with hy
   subst hy
   clear hx
   have k0 : (0 : Int) ≤ (k : Int) := by omega
   have k1 : (k : Int) < (n : Int) := by omega
   go_wp2_with fail
   go_quiet (fail)
   go_wp2_with fail
   rename_i nq
   go_roundw
   case rel => exact ⟨k + 1, by omega, by go_num, _, rfl⟩
   case measure => simp [intOf]; omega
  ·obtain rfl : k = n := by omega
   go_wp2_with fail
   go_ret
   exact ⟨rfl, _, rfl⟩
end Go.Proofs.Ytokniebejilcbaa
namespace Go.Proofs.Ytokniebejilcbaa
open Go.RowKit
theorem own_below {w w' : World} {B B' : Nat} {e : TypeId} {size : Nat} {v : Value} {n : Nat} {xs : List Value} (h : w.ownsRow B e size v n xs) (hb : Below B' w w') (hB : w.heap.size ≤ B') : w'.ownsRow B e size v n xs :=
 h.kept (row := none) ⟨hb.os, hb.tape, hb.output, hb.size, fun k hk _ => hb.block k (by omega)⟩ (by cases hv : v.ownBlock <;> simp)
theorem below_drewN {B : Nat} {a w : World} (h : Below B a w) (q : Nat) : Below B a (w.drewN q) := ⟨h.os, h.tape, h.output, h.size, h.block⟩
end Go.Proofs.Ytokniebejilcbaa
namespace Go.Proofs.Ytokniebejilcbaa
open Go.RowKit
def tabI (n : Nat) (f : Nat → Int) : List Int := (List.range n).map f
theorem tabI_length (n : Nat) (f : Nat → Int) : (tabI n f).length = n := by simp [tabI]
theorem tabI_get (n : Nat) (f : Nat → Int) (k : Nat) (h : k < n) : (tabI n f)[k]? = some (f k) := by simp [tabI, h]
theorem tabI_congr (n : Nat) {f g : Nat → Int} (h : ∀ k, k < n → f k = g k) : tabI n f = tabI n g := by
 unfold tabI; exact List.map_congr_left fun k hk => h k (List.mem_range.1 hk)
theorem tabI_ext {L : List Int} {n : Nat} {f : Nat → Int} (hl : L.length = n) (h : ∀ k x, L[k]? = some x → f k = x) : L = tabI n f := by
 apply List.ext_getElem?
 intro k
 by_cases hk : k < n
 ·rw [tabI_get n f k hk]
  have e : L[k]? = some (L[k]'(by omega)) := List.getElem?_eq_getElem _
  rw [e, h k _ e]
 ·rw [List.getElem?_eq_none (by omega), List.getElem?_eq_none (by rw [tabI_length]; omega)]
theorem tabI_self (L : List Int) : L = tabI L.length (fun k => L.getD k 0) :=
 tabI_ext rfl fun k x h => by rw [List.getD_eq_getElem?_getD, h]; rfl
theorem tabI_set (n : Nat) (f : Nat → Int) (k : Nat) (x : Int) : (tabI n f).set k x = tabI n (fun j => if j = k then x else f j) := by
 apply tabI_ext (by rw [List.length_set, tabI_length])
 intro j y hj
 by_cases e : j = k
 ·subst e
  rw [if_pos rfl]
  have hlt : j < n := by have := (List.getElem?_eq_some_iff.1 hj).1; rw [List.length_set, tabI_length] at this; exact this
  rw [List.getElem?_set_self (by rw [tabI_length]; exact hlt)] at hj
  exact Option.some.inj hj
 ·rw [if_neg e]
  rw [List.getElem?_set_ne (Ne.symm e)] at hj
  have hlt : j < n := by have := (List.getElem?_eq_some_iff.1 hj).1; rw [tabI_length] at this; exact this
  rw [tabI_get n f j hlt] at hj
  exact Option.some.inj hj
theorem intCells_set (L : List Int) (k : Nat) (x : Int) : (intCells L).set k (.int .i64 x) = intCells (L.set k x) := by
 simp [intCells, List.map_set]
theorem intCells_one (L : List Int) : ∀ v ∈ intCells L, v.oneCell' = true := ints_oneCell .i64 L
def RdI (w : World) (v : Value) (L : List Int) : Prop :=
 (v = .slice none 0 0 ∧ L = []) ∨ ∃ g c, v = .slice (some ⟨g, 0, none⟩) L.length c ∧ L.length ≤ maxLen ∧ L.length ≤ c ∧ ∀ k x, L[k]? = some x → w.cell? ⟨g, k, none⟩ = some (.int .i64 x)
theorem addr_add (g k : Nat) : (⟨g, 0, none⟩ : Addr).add k = ⟨g, k, none⟩ := by unfold Addr.add; split <;> simp_all
theorem RdI.of_own {w : World} {B : Nat} {e : TypeId} {v : Value} {n : Nat} {L : List Int} (h : w.ownsRow B e 1 v n (intCells L)) : RdI w v L := by
 have hl : n = L.length := by have := h.1; rw [intCells_length] at this; omega
 subst hl
 rcases h.2 with ⟨rfl, h0⟩ | ⟨g, cap, cur, rfl, hg, hh, hn, hc, hs, ht⟩
 ·exact .inl ⟨rfl, List.eq_nil_of_length_eq_zero h0⟩
 ·refine .inr ⟨g, cap, rfl, by omega, hn, fun k x hx => ?_⟩
  have := h.cells (g := g) rfl k (.int .i64 x) (by rw [intCells_get, hx]; rfl)
  rwa [addr_add] at this
theorem RdI.rd {w : World} {v : Value} {L : List Int} (h : RdI w v L) : Rd w v L.length (intCells L) := by
 rcases h with ⟨rfl, rfl⟩ | ⟨g, c, rfl, hm, hlc, hc⟩
 ·exact ⟨rfl, by simp, none, 0, rfl, fun h => by simp at h⟩
 ·refine ⟨intCells_length L, hm, _, c, rfl, fun _ => ⟨_, rfl, fun j u hu => ?_⟩⟩
  rw [intCells_get] at hu
  obtain ⟨x, hx, rfl⟩ := Option.map_eq_some_iff.1 hu
  rw [addr_add]
  exact hc j x hx
theorem RdI.len {w : World} {v : Value} {L : List Int} (h : RdI w v L) : L.length ≤ maxLen := h.rd.len.2
theorem RdI.form {w : World} {v : Value} {L : List Int} (h : RdI w v L) : ∃ A c, v = .slice A L.length c := h.rd.form
theorem RdI.kept {w w' : World} {v : Value} {L : List Int} (h : RdI w v L) (hs : ∀ g, v.ownBlock = some g → g < w.heap.size → w'.heap[g]? = w.heap[g]?) : RdI w' v L := by
 rcases h with h | ⟨g, c, rfl, hm, hlc, hc⟩
 ·exact .inl h
 ·refine .inr ⟨g, c, rfl, hm, hlc, fun k x hx => ?_⟩
  have h1 := hc k x hx
  have hlt := World.block_lt_of_cell? w _ h1
  rw [← h1]
  exact World.cell?_of_block (hs g rfl hlt)
theorem RdI.drewN {w : World} {v : Value} {L : List Int} (h : RdI w v L) (k : Nat) : RdI (w.drewN k) v L := h.kept fun _ _ _ => rfl
theorem RdI.drew {w : World} {v : Value} {L : List Int} (h : RdI w v L) : RdI w.drew v L := h.kept fun _ _ _ => rfl
theorem RdI.alloc {w : World} {v : Value} {L : List Int} (h : RdI w v L) (o : Obj) : RdI (w.alloc o) v L := h.kept fun g _ hl => Below.heap_alloc w o g hl
theorem RdI.below {w w' : World} {v : Value} {L : List Int} {B : Nat} (h : RdI w v L) (hb : Below B w w') (hB : ∀ g, v.ownBlock = some g → g < w.heap.size → g < B) : RdI w' v L :=
 h.kept fun g hg hl => hb.block g (hB g hg hl)
theorem RdI.call {w w' : World} {v : Value} {L : List Int} (h : RdI w v L) (hb : Below w.heap.size w w') : RdI w' v L := h.below hb fun _ _ hl => hl
theorem RdI.grown {w w' : World} {v : Value} {L : List Int} {row : Option Nat} (h : RdI w v L) (hb : w.grownBy w' row) (hr : ∀ g, v.ownBlock = some g → some g ≠ row) : RdI w' v L :=
 h.kept fun g hg hl => hb.block g hl (hr g hg)
theorem RdI.at_ {w : World} {A : Option Addr} {n c k : Nat} {L : List Int} (h : RdI w (.slice A n c) L) (hk : k < L.length) : ∃ g x, A = some ⟨g, 0, none⟩ ∧ L[k]? = some x ∧ w.cell? ⟨g, k, none⟩ = some (.int .i64 x) := by
 rcases h with ⟨_, rfl⟩ | ⟨g, c', he, hm, hlc, hc⟩
 ·simp at hk
 ·injection he with e1 e2 e3
  subst e1
  exact ⟨g, L[k]'hk, rfl, List.getElem?_eq_getElem hk, hc k _ (List.getElem?_eq_getElem hk)⟩
theorem RdI.nil (w : World) : RdI w (.slice none 0 0) [] := .inl ⟨rfl, rfl⟩
theorem ownI_shape {w : World} {B n : Nat} {e : TypeId} {v : Value} {xs : List Value} (h : w.ownsRow B e 1 v n xs) : ∃ A c, v = .slice A n c := by
 rcases h.2 with ⟨rfl, rfl⟩ | ⟨g, cap, cur, rfl, _⟩
 ·exact ⟨none, 0, rfl⟩
 ·exact ⟨_, _, rfl⟩
theorem ownI_put {w : World} {B gq n cap : Nat} {e : TypeId} {L : List Int} (hown : w.ownsRow B e 1 (.slice (some ⟨gq, 0, none⟩) n cap) n (intCells L)) (j : Nat) (x : Int) :
  (w.setCell ⟨gq, j, none⟩ (.int .i64 x)).ownsRow B e 1 (.slice (some ⟨gq, 0, none⟩) n cap) n (intCells (L.set j x)) ∧ w.grownBy (w.setCell ⟨gq, j, none⟩ (.int .i64 x)) (some gq) := by
 obtain ⟨s0, g0⟩ := hown.stored j (.int .i64 x)
 rw [intCells_set] at s0
 exact ⟨s0, g0⟩
theorem own_of_rowIs {w : World} {g B t n : Nat} {f : Nat → Value} {L : List Int} (h : w.rowIs g t n f) (hB : B ≤ g) (hm : n ≤ maxLen) (hL : L.length = n) (hf : ∀ j x, L[j]? = some x → f j = .int .i64 x) :
  w.ownsRow B t 1 (.slice (some ⟨g, 0, none⟩) n n) n (intCells L) := by
 obtain ⟨c, hb, hs, hc⟩ := h
 refine ⟨by rw [intCells_length, hL]; omega, .inr ⟨g, n, c, rfl, hB, hb, Nat.le_refl _, hm, by omega, ?_⟩⟩
 rw [List.take_of_length_le (by rw [Array.length_toList]; omega)]
 apply List.ext_getElem?
 intro k
 rw [Array.getElem?_toList, intCells_get]
 by_cases hk : k < n
 ·rw [hc k hk]
  have e : L[k]? = some (L[k]'(by omega)) := List.getElem?_eq_getElem _
  rw [e, hf k _ e]
  rfl
 ·rw [Array.getElem?_eq_none (by omega), List.getElem?_eq_none (by omega)]
  rfl
theorem ownI_call {w w' : World} {B : Nat} {e : TypeId} {size : Nat} {v : Value} {n : Nat} {xs : List Value} (h : w.ownsRow B e size v n xs) (hb : Below w.heap.size w w') : w'.ownsRow B e size v n xs := own_below h hb (Nat.le_refl _)
theorem belI_call {a w w' : World} (h : Below a.heap.size a w) (hb : Below w.heap.size w w') : Below a.heap.size a w' := h.trans (hb.mono h.size)
theorem belI_box (w : World) (o : Obj) : Below w.heap.size w (w.alloc o) := (Below.refl _ _).alloc (Nat.le_refl _) _
def ImAt (w : World) (g : Nat) (t : TypeId) (W H : Int) (v : Value) : Prop := w.heap[g]? = some (.cells #[.int .i64 W, .int .i64 H, v] t (0, 0))
theorem ImAt.lt {w : World} {g : Nat} {t : TypeId} {W H : Int} {v : Value} (h : ImAt w g t W H v) : g < w.heap.size := (Array.getElem?_eq_some_iff.1 h).1
theorem ImAt.cells {w : World} {g : Nat} {t : TypeId} {W H : Int} {v : Value} (h : ImAt w g t W H v) :
  w.cell? ⟨g, 0, none⟩ = some (.int .i64 W) ∧ w.cell? ⟨g, 1, none⟩ = some (.int .i64 H) ∧ w.cell? ⟨g, 2, none⟩ = some v := by
 unfold ImAt at h
 refine ⟨?_, ?_, ?_⟩ <;> simp [World.cell?, h]
theorem ImAt.frozen {w : World} {g : Nat} {t : TypeId} {W H : Int} {v : Value} (h : ImAt w g t W H v) (o : Nat) : w.frozen? ⟨g, o, none⟩ = false := by
 unfold ImAt at h; simp [World.frozen?, h]
theorem ImAt.below {w w' : World} {g B : Nat} {t : TypeId} {W H : Int} {v : Value} (h : ImAt w g t W H v) (hb : Below B w w') (hg : g < B) : ImAt w' g t W H v := (hb.block g hg).trans h
theorem ImAt.call {w w' : World} {g : Nat} {t : TypeId} {W H : Int} {v : Value} (h : ImAt w g t W H v) (hb : Below w.heap.size w w') : ImAt w' g t W H v := h.below hb h.lt
theorem ImAt.alloc {w : World} {g : Nat} {t : TypeId} {W H : Int} {v : Value} (h : ImAt w g t W H v) (o : Obj) : ImAt (w.alloc o) g t W H v := (Below.heap_alloc w o g h.lt).trans h
theorem ImAt.new (w : World) (t : TypeId) (W H : Int) (v : Value) : ImAt (w.alloc (.cells #[.int .i64 W, .int .i64 H, v] t)) w.heap.size t W H v := heap_alloc_new w _
theorem ImAt.newAt {w : World} {g : Nat} (h : w.heap.size = g) (t : TypeId) (W H : Int) (v : Value) : ImAt (w.alloc (.cells #[.int .i64 W, .int .i64 H, v] t)) g t W H v := h ▸ ImAt.new w t W H v
theorem ImAt.drew {w : World} {g : Nat} {t : TypeId} {W H : Int} {v : Value} (h : ImAt w g t W H v) : ImAt w.drew g t W H v := h
theorem ImAt.drewN {w : World} {g : Nat} {t : TypeId} {W H : Int} {v : Value} (h : ImAt w g t W H v) (n : Nat) : ImAt (w.drewN n) g t W H v := h
theorem ImAt.grown {w w' : World} {g : Nat} {t : TypeId} {W H : Int} {v : Value} {row : Option Nat} (h : ImAt w g t W H v) (hb : w.grownBy w' row) (hr : some g ≠ row) : ImAt w' g t W H v := (hb.block g h.lt hr).trans h
theorem ImAt.far {w : World} {g : Nat} {t : TypeId} {W H : Int} {v : Value} (h : ImAt w g t W H v) {p : Addr} (hp : g ≠ p.block) (u : Value) : ImAt (w.setCell p u) g t W H v := (Below.heap_setCell w p u g hp).trans h
theorem ImAt.set0 {w : World} {g : Nat} {t : TypeId} {W H : Int} {v : Value} (h : ImAt w g t W H v) (x : Int) : ImAt (w.setCell ⟨g, 0, none⟩ (.int .i64 x)) g t x H v := by
 unfold ImAt at *
 simp [World.setCell, Array.getElem?_modify, h]
theorem ImAt.set1 {w : World} {g : Nat} {t : TypeId} {W H : Int} {v : Value} (h : ImAt w g t W H v) (x : Int) : ImAt (w.setCell ⟨g, 1, none⟩ (.int .i64 x)) g t W x v := by
 unfold ImAt at *
 simp [World.setCell, Array.getElem?_modify, h]
theorem ImAt.set2 {w : World} {g : Nat} {t : TypeId} {W H : Int} {v : Value} (h : ImAt w g t W H v) (u : Value) : ImAt (w.setCell ⟨g, 2, none⟩ u) g t W H u := by
 unfold ImAt at *
 simp [World.setCell, Array.getElem?_modify, h]
theorem ImAt.set3 {w : World} {g : Nat} {t : TypeId} {W H : Int} {v : Value} (h : ImAt w g t W H v) (x y : Int) (u : Value) : ImAt (((w.setCell ⟨g, 0, none⟩ (.int .i64 x)).setCell ⟨g, 1, none⟩ (.int .i64 y)).setCell ⟨g, 2, none⟩ u) g t x y u :=
 ((h.set0 x).set1 y).set2 u
def ToIO (L : List Int) (w : World) (e : Ending) (w' : World) : Prop :=
 ∃ v, e = .returned v ∧ w'.ownsRow w.heap.size 3 1 v L.length (intCells L) ∧ Below w.heap.size w w'
set_option maxHeartbeats 1000000 in
theorem toIO (v : Value) (L : List Int) (w : World) (hm : L.length ≤ 1048576) (h : Rd w v L.length (intCells L)) : Calls Try.prog 26 #[v] w (ToIO L w) := by
 obtain ⟨A, c, rfl⟩ := h.form
 obtain ⟨n, hn⟩ : ∃ n, n = L.length := ⟨_, rfl⟩
 rw [← hn] at hm h
 have Hn := Lib.hid hn
 have H := Lib.hid h
 rw [← hn]
 have hmk := fun W => run_make_row' (P := Try.prog) 26 3 (.int .i64 0) 8 Try.underlying26 infoInt rfl .i64 .i64 n (by omega) (by omega) W
 clear h hn
 go_enter Try.func26, Try.ntmps26
 go_wp2_with fail
 go_loopw [4] (fun i wr => ∃ k : Nat, k ≤ n ∧ i = .int .i64 k ∧ wr.rowIs w.heap.size 3 n (fun j => if j < k then .int .i64 (L.getD j 0) else .int .i64 0) ∧ Below w.heap.size w wr) (fun i _ => n - (intOf i).toNat)
 case atStart => exact ⟨0, Nat.zero_le _, rfl, (World.rowIs_made _ _ _ _).congr (fun j hj => by simp), (Below.refl _ _).alloc (Nat.le_refl _) _⟩
 case round =>
  obtain ⟨k, hk, rfl, hrow, hb⟩ := hrel
  clear hmk
  have Hrow := Lib.hid hrow
  have Hb := Lib.hid hb
  clear hrow hb
  by_cases hlt : k < n
  ·obtain ⟨a, x, rfl, hx, hc⟩ := (H.out.call Hb.out).int_at hlt
   have Hx := Lib.hid hx
   clear hx
   have k0 : (0 : Int) ≤ (k : Int) := by omega
   have k1 : (k : Int) < (n : Int) := by omega
   have hcl0 : wr.cell? ⟨w.heap.size, k, none⟩ = some (.int .i64 0) := by have := Hrow.out.cell hlt; simpa using this
   have hfz0 : wr.frozen? ⟨w.heap.size, k, none⟩ = false := Hrow.out.frozen k
   go_wp2_with fail
   go_roundw
   case rel =>
    refine ⟨k + 1, by omega, by go_num, ?_, Hb.out.setCell (by simp) _⟩
    refine (Hrow.out.set k _).congr fun j hj => ?_
    by_cases e : j = k
    ·subst e
     rw [if_pos rfl, if_pos (by omega), List.getD_eq_getElem?_getD, Hx.out]
     rfl
    ·rw [if_neg e]
     by_cases e2 : j < k
     ·rw [if_pos e2, if_pos (by omega)]
     ·rw [if_neg e2, if_neg (by omega)]
   case measure => simp [intOf]; omega
  ·obtain rfl : k = n := by omega
   go_wp2_with fail
   go_ret
   refine ⟨_, rfl, ?_, Hb.out⟩
   rw [← Hn.out]
   refine own_of_rowIs Hrow.out (Nat.le_refl _) (by unfold maxLen; omega) Hn.out.symm fun j x hx => ?_
   have hj : j < k := by have := (List.getElem?_eq_some_iff.1 hx).1; rw [Hn.out]; exact this
   rw [if_pos hj, List.getD_eq_getElem?_getD, hx]
   rfl
def marksI (k n : Nat) : List Int := tabI n fun j => ((k + j : Nat) : Int)
theorem marksI_length (k n : Nat) : (marksI k n).length = n := tabI_length _ _
set_option maxHeartbeats 1000000 in
set_option maxRecDepth 10000 in
theorem markIS (B : Nat) (e : TypeId) (v : Value) (L : List Int) (k0 : Nat) (w : World) (hm : k0 + L.length ≤ 1000000000) (hown : w.ownsRow B e 1 v L.length (intCells L)) :
  Calls Try.prog 23 #[v, .int .i64 k0] w fun ed w' => ed = .returned (.int .i64 ((k0 + L.length : Nat) : Int)) ∧ w'.ownsRow B e 1 v L.length (intCells (marksI k0 L.length)) ∧ w.grownBy w' v.ownBlock := by
 obtain ⟨A, c, rfl⟩ := ownI_shape hown
 obtain ⟨n, hn⟩ : ∃ n, n = L.length := ⟨_, rfl⟩
 rw [← hn] at hm hown ⊢
 have Hn := Lib.hid hn
 have Hown0 := Lib.hid hown
 clear hn hown
 go_enter Try.func23, Try.ntmps23
 go_wp2_with fail
 go_loopw [1, 5] (fun s1 i wr => ∃ (k : Nat) (t : Int), k ≤ n ∧ i = .int .i64 k ∧ s1 = .int .i64 t ∧ Hid (t = ((k0 + k : Nat) : Int)) ∧ wr.ownsRow B e 1 (.slice A n c) n (intCells (tabI n (fun j => if j < k then ((k0 + j : Nat) : Int) else L.getD j 0))) ∧ w.grownBy wr (Value.slice A n c).ownBlock) (fun _ i _ => n - (intOf i).toNat)
 case atStart => exact ⟨0, k0, Nat.zero_le _, rfl, rfl, Lib.hid (by simp), by have := Hown0.out; rw [tabI_self L, ← Hn.out] at this; simpa using this, World.grownBy.refl _ _⟩
 case round =>
  obtain ⟨k, t, hk, rfl, rfl, Ht, hown, hgr⟩ := hrel
  have ht0 : 0 ≤ t := by have := Ht.out; omega
  have ht1 : t ≤ 5000000000 := by have := Ht.out; omega
  by_cases hlt : k < n
  ·obtain ⟨gq, cap, hv, hgB, hgl⟩ := hown.form (by omega)
   cases hv
   have f0 := hown.frozenAt k
   have c0 : wr.cell? ⟨gq, k, none⟩ = some (.int .i64 (L.getD k 0)) := by
    rw [hown.cellAt k (by omega), intCells_get, tabI_get n _ k hlt, if_neg (by omega)]
    rfl
   have k0' : (0 : Int) ≤ (k : Int) := by omega
   have k1' : (k : Int) < (n : Int) := by omega
   have Hown := Lib.hid hown
   have Hgr := Lib.hid hgr
   clear hown hgr
   go_wp2_with fail
   go_roundw
   case rel =>
    obtain ⟨p1, p2⟩ := ownI_put Hown.out k t
    refine ⟨k + 1, _, by omega, by go_num, rfl, Lib.hid (by have := Ht.out; omega), ?_, Hgr.out.trans p2⟩
    rw [tabI_set] at p1
    rw [tabI_congr n (g := fun j => if j = k then t else if j < k then ((k0 + j : Nat) : Int) else L.getD j 0)]
    ·exact p1
    ·intro j hj
     by_cases e : j = k
     ·subst e; rw [if_pos rfl, if_pos (by omega), Ht.out]
     ·rw [if_neg e]
      by_cases e2 : j < k
      ·rw [if_pos e2, if_pos (by omega)]
      ·rw [if_neg e2, if_neg (by omega)]
   case measure => simp [intOf]; omega
  ·obtain rfl : k = n := by omega
   have hown2 : wr.ownsRow B e 1 (.slice A k c) k (intCells (marksI k0 k)) := by
    have h := hown
    rw [tabI_congr k (g := fun j => ((k0 + j : Nat) : Int)) (fun j hj => if_pos hj)] at h
    exact h
   have Hown2 := Lib.hid hown2
   clear hown hown2
   go_wp2_with fail
   go_ret
   exact ⟨ret_int Ht.out, Hown2.out, hgr⟩
set_option maxHeartbeats 1000000 in
set_option maxRecDepth 10000 in
theorem heldIS (v : Value) (k0 n : Nat) (w : World) (hm : k0 + n ≤ 1000000000) (hrd : RdI w v (marksI k0 n)) :
  Calls Try.prog 24 #[v, .int .i64 k0] w fun ed w' => ed = .returned (.int .i64 ((k0 + n : Nat) : Int)) ∧ w' = w := by
 obtain ⟨A, c, rfl⟩ := hrd.form
 rw [marksI_length] at hrd ⊢
 have Hrd := Lib.hid hrd
 clear hrd
 go_enter Try.func24, Try.ntmps24
 go_wp2_with fail
 go_loopw [1, 5] (fun s1 i wr => ∃ (k : Nat) (t : Int), k ≤ n ∧ i = .int .i64 k ∧ s1 = .int .i64 t ∧ Hid (t = ((k0 + k : Nat) : Int)) ∧ wr = w) (fun _ i _ => n - (intOf i).toNat)
 case atStart => exact ⟨0, k0, Nat.zero_le _, rfl, rfl, Lib.hid (by simp), rfl⟩
 case round =>
  obtain ⟨k, t, hk, rfl, rfl, Ht, rfl⟩ := hrel
  have ht0 : 0 ≤ t := by have := Ht.out; omega
  have ht1 : t ≤ 5000000000 := by have := Ht.out; omega
  by_cases hlt : k < n
  ·obtain ⟨gq, r, rfl, hr, c0⟩ := Hrd.out.at_ (k := k) (by rw [marksI_length]; exact hlt)
   unfold marksI at hr
   rw [tabI_get n _ k hlt] at hr
   injection hr with hr
   have e0 : r = t := by rw [← hr, Ht.out]
   rw [e0] at c0
   have k0' : (0 : Int) ≤ (k : Int) := by omega
   have k1' : (k : Int) < (n : Int) := by omega
   clear hr e0
   go_wp2_with fail
   go_roundw
   case rel => exact ⟨k + 1, _, by omega, by go_num, rfl, Lib.hid (by have := Ht.out; omega), by first | rfl | trivial⟩
   case measure => simp [intOf]; omega
  ·obtain rfl : k = n := by omega
   go_wp2_with fail
   go_ret
   exact ⟨ret_int Ht.out, rfl⟩
end Go.Proofs.Ytokniebejilcbaa
namespace Go.Proofs.Ytokniebejilcbaa
open Go.RowKit
structure Chg (w w' : World) (bs : List Nat) : Prop where
 os : w'.os = w.os
 tape : w'.tape = w.tape
 output : w'.output = w.output
 size : w.heap.size ≤ w'.heap.size
 block : ∀ k, k < w.heap.size → k ∉ bs → w'.heap[k]? = w.heap[k]?
theorem Chg.refl (w : World) (bs : List Nat) : Chg w w bs := ⟨rfl, rfl, rfl, Nat.le_refl _, fun _ _ _ => rfl⟩
theorem Chg.trans {a b c : World} {bs : List Nat} (h : Chg a b bs) (k : Chg b c bs) : Chg a c bs :=
 ⟨k.os.trans h.os, k.tape.trans h.tape, k.output.trans h.output, Nat.le_trans h.size k.size, fun j hj hn => (k.block j (Nat.lt_of_lt_of_le hj h.size) hn).trans (h.block j hj hn)⟩
theorem Chg.mono {w w' : World} {bs cs : List Nat} (h : Chg w w' bs) (hs : ∀ b ∈ bs, b ∈ cs) : Chg w w' cs := ⟨h.os, h.tape, h.output, h.size, fun k hk hn => h.block k hk fun hb => hn (hs k hb)⟩
theorem Chg.of_grown {w w' : World} {row : Option Nat} (h : w.grownBy w' row) : Chg w w' row.toList := ⟨h.os, h.tape, h.output, h.size, fun k hk hn => h.block k hk fun e => hn (by rw [← e]; simp)⟩
theorem Chg.of_below {w w' : World} (bs : List Nat) (h : Below w.heap.size w w') : Chg w w' bs := ⟨h.os, h.tape, h.output, h.size, fun k hk _ => h.block k hk⟩
theorem Chg.below {w w' w0 : World} {bs : List Nat} (h : Chg w w' bs) {B : Nat} (hw : Below B w0 w) (hB : B ≤ w.heap.size) (hb : ∀ b ∈ bs, B ≤ b) : Below B w0 w' :=
 ⟨h.os.trans hw.os, h.tape.trans hw.tape, h.output.trans hw.output, Nat.le_trans hw.size h.size, fun k hk => (h.block k (Nat.lt_of_lt_of_le hk hB) fun e => by have := hb k e; omega).trans (hw.block k hk)⟩
theorem Chg.setCell (w : World) (p : Addr) (v : Value) : Chg w (w.setCell p v) [p.block] := ⟨rfl, rfl, rfl, by simp, fun k _ hn => Below.heap_setCell w p v k (by simpa using hn)⟩
structure Rep (α : Type) where
 R : World → α → List Value → List Nat → Prop
 ex : ∀ {w : World} {a : α} {vs : List Value} {bs : List Nat}, R w a vs bs → ∀ b ∈ bs, b < w.heap.size
 keep : ∀ {w w' : World} {a : α} {vs : List Value} {bs : List Nat}, R w a vs bs → (∀ b ∈ bs, w'.heap[b]? = w.heap[b]?) → R w' a vs bs
section
variable {α : Type} {E : Rep α} {w w' : World} {a : α} {vs : List Value} {bs cs : List Nat}
theorem Rep.call (h : E.R w a vs bs) (hb : Below w.heap.size w w') : E.R w' a vs bs := E.keep h fun b hb' => hb.block b (E.ex h b hb')
theorem Rep.chg (h : E.R w a vs bs) (hc : Chg w w' cs) (hn : ∀ b ∈ bs, b ∉ cs) : E.R w' a vs bs := E.keep h fun b hb => hc.block b (E.ex h b hb) (hn b hb)
structure Rep.Own (E : Rep α) (B : Nat) (w : World) (a : α) (vs : List Value) (bs : List Nat) : Prop where
 r : E.R w a vs bs
 nd : bs.Nodup
 lo : ∀ b ∈ bs, B ≤ b
theorem Rep.Own.call {B : Nat} (h : E.Own B w a vs bs) (hb : Below w.heap.size w w') : E.Own B w' a vs bs := ⟨Rep.call h.r hb, h.nd, h.lo⟩
theorem Rep.Own.chg {B : Nat} (h : E.Own B w a vs bs) (hc : Chg w w' cs) (hn : ∀ b ∈ bs, b ∉ cs) : E.Own B w' a vs bs := ⟨Rep.chg h.r hc hn, h.nd, h.lo⟩
theorem Rep.Own.mono {B B' : Nat} (h : E.Own B w a vs bs) (hB : B' ≤ B) : E.Own B' w a vs bs := ⟨h.r, h.nd, fun b hb => Nat.le_trans hB (h.lo b hb)⟩
end
section
variable {α : Type} {E : Rep α} {w w' : World}
end
theorem own_keepB {w w' : World} {B : Nat} {e : TypeId} {s : Nat} {v : Value} {n : Nat} {xs : List Value} (h : w.ownsRow B e s v n xs) (hk : ∀ b ∈ v.ownBlock.toList, w'.heap[b]? = w.heap[b]?) : w'.ownsRow B e s v n xs := by
 rcases h with ⟨h1, h2 | ⟨g, cap, cur, rfl, hg, hh, h3⟩⟩
 ·exact ⟨h1, .inl h2⟩
 ·exact ⟨h1, .inr ⟨g, cap, cur, rfl, hg, (hk g (by simp [Value.ownBlock])).trans hh, h3⟩⟩
theorem own_ltB {w : World} {B : Nat} {e : TypeId} {s : Nat} {v : Value} {n : Nat} {xs : List Value} (h : w.ownsRow B e s v n xs) : ∀ b ∈ v.ownBlock.toList, B ≤ b ∧ b < w.heap.size := fun b hb => h.lt b (by simpa using hb)
theorem own_rebase {w : World} {B C : Nat} {e : TypeId} {s : Nat} {v : Value} {n : Nat} {xs : List Value} (h : w.ownsRow B e s v n xs) (hC : ∀ b ∈ v.ownBlock.toList, C ≤ b) : w.ownsRow C e s v n xs := by
 rcases h with ⟨h1, h2 | ⟨g, cap, cur, rfl, hg, h3⟩⟩
 ·exact ⟨h1, .inl h2⟩
 ·exact ⟨h1, .inr ⟨g, cap, cur, rfl, hC g (by simp [Value.ownBlock]), h3⟩⟩
def repInts : Rep (List Int) where
 R := fun w L vs bs => ∃ v, vs = [v] ∧ w.ownsRow 0 3 1 v L.length (intCells L) ∧ bs = v.ownBlock.toList
 ex := by rintro w a vs bs ⟨v, rfl, h, rfl⟩ b hb; exact (own_ltB h b hb).2
 keep := by rintro w w' a vs bs ⟨v, rfl, h, rfl⟩ hk; exact ⟨v, rfl, own_keepB h hk, rfl⟩
theorem repInts_own {w : World} {B : Nat} {v : Value} {L : List Int} (h : w.ownsRow B 3 1 v L.length (intCells L)) : repInts.Own B w L [v] v.ownBlock.toList :=
 ⟨⟨v, rfl, own_rebase h fun _ _ => Nat.zero_le _, rfl⟩, by cases v.ownBlock <;> simp, fun b hb => (own_ltB h b hb).1⟩
theorem repInts_rd {w : World} {v : Value} {L : List Int} {bs : List Nat} (h : repInts.R w L [v] bs) : RdI w v L := by
 obtain ⟨u, hu, h, _⟩ := h
 obtain rfl : v = u := by simpa using hu
 exact RdI.of_own h
end Go.Proofs.Ytokniebejilcbaa
namespace Go.Proofs.Ytokniebejilcbaa
open Go.RowKit
def BkAt (w : World) (g : Nat) (t : TypeId) (cs : Array Value) : Prop := w.heap[g]? = some (.cells cs t (0, 0))
theorem BkAt.lt {w : World} {g : Nat} {t : TypeId} {cs : Array Value} (h : BkAt w g t cs) : g < w.heap.size := (Array.getElem?_eq_some_iff.1 h).1
theorem BkAt.cell {w : World} {g : Nat} {t : TypeId} {cs : Array Value} (h : BkAt w g t cs) (i : Nat) {v : Value} (hv : cs[i]? = some v) : w.cell? ⟨g, i, none⟩ = some v := by
 unfold BkAt at h; simp [World.cell?, h, hv]
theorem BkAt.frozen {w : World} {g : Nat} {t : TypeId} {cs : Array Value} (h : BkAt w g t cs) (i : Nat) : w.frozen? ⟨g, i, none⟩ = false := by
 unfold BkAt at h; simp [World.frozen?, h]
theorem BkAt.below {w w' : World} {g B : Nat} {t : TypeId} {cs : Array Value} (h : BkAt w g t cs) (hb : Below B w w') (hg : g < B) : BkAt w' g t cs := (hb.block g hg).trans h
theorem BkAt.call {w w' : World} {g : Nat} {t : TypeId} {cs : Array Value} (h : BkAt w g t cs) (hb : Below w.heap.size w w') : BkAt w' g t cs := h.below hb h.lt
theorem BkAt.alloc {w : World} {g : Nat} {t : TypeId} {cs : Array Value} (h : BkAt w g t cs) (o : Obj) : BkAt (w.alloc o) g t cs := (Below.heap_alloc w o g h.lt).trans h
theorem BkAt.new (w : World) (t : TypeId) (cs : Array Value) : BkAt (w.alloc (.cells cs t)) w.heap.size t cs := heap_alloc_new w _
theorem BkAt.newAt {w : World} {g : Nat} (h : w.heap.size = g) (t : TypeId) (cs : Array Value) : BkAt (w.alloc (.cells cs t)) g t cs := h ▸ BkAt.new w t cs
theorem BkAt.drew {w : World} {g : Nat} {t : TypeId} {cs : Array Value} (h : BkAt w g t cs) : BkAt w.drew g t cs := h
theorem BkAt.drewN {w : World} {g : Nat} {t : TypeId} {cs : Array Value} (h : BkAt w g t cs) (n : Nat) : BkAt (w.drewN n) g t cs := h
theorem BkAt.grown {w w' : World} {g : Nat} {t : TypeId} {cs : Array Value} {row : Option Nat} (h : BkAt w g t cs) (hb : w.grownBy w' row) (hr : some g ≠ row) : BkAt w' g t cs := (hb.block g h.lt hr).trans h
theorem BkAt.far {w : World} {g : Nat} {t : TypeId} {cs : Array Value} (h : BkAt w g t cs) {p : Addr} (hp : g ≠ p.block) (v : Value) : BkAt (w.setCell p v) g t cs := (Below.heap_setCell w p v g hp).trans h
theorem BkAt.set {w : World} {g : Nat} {t : TypeId} {cs : Array Value} (h : BkAt w g t cs) (i : Nat) (v : Value) : BkAt (w.setCell ⟨g, i, none⟩ v) g t (cs.setIfInBounds i v) := by
 unfold BkAt at *
 simp [World.setCell, Array.getElem?_modify, h]
end Go.Proofs.Ytokniebejilcbaa
namespace Go.Proofs.Ytokniebejilcbaa
open Go.RowKit
theorem Chg.call {w w' : World} {bs : List Nat} (h : Chg w w' bs) {W : World} (hb : Below w'.heap.size w' W) : Chg w W bs := h.trans (Chg.of_below bs hb)
theorem BkAt.put {w : World} {g : Nat} {t : TypeId} {cs cs' : Array Value} (h : BkAt w g t cs) (i : Nat) (v : Value) (hz : cs.setIfInBounds i v = cs') : BkAt (w.setCell ⟨g, i, none⟩ v) g t cs' := hz ▸ h.set i v
structure Wk (α : Type) where
 R : World → α → List Value → Prop
 call : ∀ {w w' : World} {a : α} {vs : List Value}, R w a vs → Below w.heap.size w w' → R w' a vs
def wkInts : Wk (List Int) where
 R := fun w L vs => ∃ v, vs = [v] ∧ Rd w v L.length (intCells L)
 call := by rintro w w' a vs ⟨v, rfl, h⟩ hb; exact ⟨v, rfl, h.call hb⟩
section
variable {α : Type} {F : Wk α} {t : TypeId} {b : Nat} {a : α} {vs : List Value} {W W' : World}
end
structure VarB {α : Type} (E : Rep α) (t : TypeId) (lo hi b : Nat) (a : α) (vs : List Value) (bs : List Nat) (W : World) : Prop where
 at_ : BkAt W b t vs.toArray
 own : E.Own lo W a vs bs
 lb : lo ≤ b
 hb : b < hi
 hbs : ∀ k ∈ bs, k < hi ∧ k ≠ b
 hs : hi ≤ W.heap.size
section
variable {α : Type} {E : Rep α} {t : TypeId} {lo hi b : Nat} {a a' : α} {vs : List Value} {bs cs : List Nat} {W W' : World}
theorem VarB.call (h : VarB E t lo hi b a vs bs W) (k : Below W.heap.size W W') : VarB E t lo hi b a vs bs W' := ⟨h.at_.call k, h.own.call k, h.lb, h.hb, h.hbs, Nat.le_trans h.hs k.size⟩
theorem VarB.r (h : VarB E t lo hi b a vs bs W) : E.R W a vs bs := h.own.r
theorem VarB.rng (h : VarB E t lo hi b a vs bs W) : ∀ k ∈ bs, lo ≤ k ∧ k < hi := fun k hk => ⟨h.own.lo k hk, (h.hbs k hk).1⟩
theorem VarB.chg (h : VarB E t lo hi b a vs bs W) (hc : Chg W W' cs) (hn : ∀ k ∈ cs, k < lo ∨ hi ≤ k) : VarB E t lo hi b a vs bs W' :=
 ⟨(hc.block b h.at_.lt fun e => by have := hn b e; have := h.lb; have := h.hb; omega).trans h.at_, h.own.chg hc fun k hk e => by have := hn k e; have := h.rng k hk; omega, h.lb, h.hb, h.hbs, Nat.le_trans h.hs hc.size⟩
theorem VarB.mark (h : VarB E t lo hi b a vs bs W) (hr : E.R W' a' vs bs) (hc : Chg W W' bs) : VarB E t lo hi b a' vs bs W' :=
 ⟨(hc.block b h.at_.lt fun e => (h.hbs b e).2 rfl).trans h.at_, ⟨hr, h.own.nd, h.own.lo⟩, h.lb, h.hb, h.hbs, Nat.le_trans h.hs hc.size⟩
theorem VarB.born {w : World} (hk : Below w.heap.size w W) (ho : E.Own w.heap.size W a vs bs) (t : TypeId) : VarB E t w.heap.size (W.heap.size + 1) W.heap.size a vs bs (W.alloc (.cells vs.toArray t)) :=
 ⟨BkAt.new _ _ _, ho.call ((Below.refl _ _).alloc (Nat.le_refl _) _), hk.size, Nat.lt_succ_self _, fun k hk => by have := E.ex ho.r k hk; omega, by simp⟩
theorem VarB.below {w : World} (h : VarB E t lo hi b a vs bs W) (hw : Below w.heap.size w W) (hlo : w.heap.size ≤ lo) (hc : Chg W W' bs) : Below w.heap.size w W' :=
 hc.below hw hw.size fun k hk => Nat.le_trans hlo (h.rng k hk).1
end
end Go.Proofs.Ytokniebejilcbaa
namespace Go.Proofs.Ytokniebejilcbaa
open Go.RowKit
structure Rc where
 x : Int
 y : Int
 w : Int
 h : Int
def Rc.ok (r : Rc) : Prop := -1000 ≤ r.x ∧ r.x ≤ 1000 ∧ -1000 ≤ r.y ∧ r.y ≤ 1000 ∧ 0 ≤ r.w ∧ r.w ≤ 1000 ∧ 0 ≤ r.h ∧ r.h ≤ 1000
theorem inI_yes (n lo hi : Int) (w : World) (h1 : lo ≤ n) (h2 : n ≤ hi) :
  Calls Try.prog 103 #[.int .i64 n, .int .i64 lo, .int .i64 hi] w fun e w' => e = .returned (.bool true) ∧ w = w' := by
 go_enter Try.func103, Try.ntmps103
 go_wp2
 go_ret
 exact ⟨rfl, rfl⟩
theorem inI_no (n lo hi : Int) (w : World) (h : n < lo ∨ hi < n) :
  Calls Try.prog 103 #[.int .i64 n, .int .i64 lo, .int .i64 hi] w fun e w' => e = .returned (.bool false) ∧ w = w' := by
 by_cases h1 : n < lo
 ·clear h
  go_enter Try.func103, Try.ntmps103
  go_wp2
  go_ret
  exact ⟨rfl, rfl⟩
 ·have h2 : hi < n := by omega
  have h3 : lo ≤ n := by omega
  clear h h1
  go_enter Try.func103, Try.ntmps103
  go_wp2
  go_ret
  exact ⟨ret_bool (decide_eq_false (by omega)), rfl⟩
theorem inS_yes (n lo hi : Int) (w : World) (h1 : lo ≤ n) (h2 : n ≤ hi) :
  Calls Try.prog 61 #[.int .i64 n, .int .i64 lo, .int .i64 hi] w fun e w' => e = .returned (.bool true) ∧ w = w' := by
 go_enter Try.func61, Try.ntmps61
 go_wp2
 go_ret
 exact ⟨rfl, rfl⟩
theorem inS_no (n lo hi : Int) (w : World) (h : n < lo ∨ hi < n) :
  Calls Try.prog 61 #[.int .i64 n, .int .i64 lo, .int .i64 hi] w fun e w' => e = .returned (.bool false) ∧ w = w' := by
 by_cases h1 : n < lo
 ·clear h
  go_enter Try.func61, Try.ntmps61
  go_wp2
  go_ret
  exact ⟨rfl, rfl⟩
 ·have h2 : hi < n := by omega
  have h3 : lo ≤ n := by omega
  clear h h1
  go_enter Try.func61, Try.ntmps61
  go_wp2
  go_ret
  exact ⟨ret_bool (decide_eq_false (by omega)), rfl⟩
theorem rectOkI_yes (r : Rc) (hr : r.ok) (w : World) :
  Calls Try.prog 104 #[.agg #[.int .i64 r.x, .int .i64 r.y, .int .i64 r.w, .int .i64 r.h]] w fun e w' => e = .returned (.bool true) ∧ Below w.heap.size w w' := by
 obtain ⟨h1, h2, h3, h4, h5, h6, h7, h8⟩ := hr
 go_enter Try.func104, Try.ntmps104
 go_wp2_with ((go_at_call 103; (with_reducible refine (inI_yes _ _ _ _ (by omega) (by omega)).mono ?_); rintro e w' ⟨rfl, rfl⟩))
 go_ret
 exact ⟨rfl, (Below.refl _ _).alloc (Nat.le_refl _) _⟩
theorem rectOkI_no (r : Rc) (hr : ¬ r.ok) (w : World) :
  Calls Try.prog 104 #[.agg #[.int .i64 r.x, .int .i64 r.y, .int .i64 r.w, .int .i64 r.h]] w fun e w' => e = .returned (.bool false) ∧ Below w.heap.size w w' := by
 unfold Rc.ok at hr
 by_cases h1 : -1000 ≤ r.x ∧ r.x ≤ 1000
 ·obtain ⟨h1, h2⟩ := h1
  by_cases h3 : -1000 ≤ r.y ∧ r.y ≤ 1000
  ·obtain ⟨h3, h4⟩ := h3
   by_cases h5 : 0 ≤ r.w ∧ r.w ≤ 1000
   ·obtain ⟨h5, h6⟩ := h5
    have h7 : r.h < 0 ∨ 1000 < r.h := by omega
    have H7 := Lib.hid h7
    clear h7 hr
    go_enter Try.func104, Try.ntmps104
    go_wp2_with (first | (go_at_call 103; (with_reducible refine (inI_yes _ _ _ _ (by omega) (by omega)).mono ?_); rintro e w' ⟨rfl, rfl⟩) | (go_at_call 103; (with_reducible refine (inI_no _ _ _ _ H7.out).mono ?_); rintro e w' ⟨rfl, rfl⟩))
    go_ret
    exact ⟨rfl, (Below.refl _ _).alloc (Nat.le_refl _) _⟩
   ·have h7 : r.w < 0 ∨ 1000 < r.w := by omega
    have H7 := Lib.hid h7
    clear h7 hr h5
    go_enter Try.func104, Try.ntmps104
    go_wp2_with (first | (go_at_call 103; (with_reducible refine (inI_yes _ _ _ _ (by omega) (by omega)).mono ?_); rintro e w' ⟨rfl, rfl⟩) | (go_at_call 103; (with_reducible refine (inI_no _ _ _ _ H7.out).mono ?_); rintro e w' ⟨rfl, rfl⟩))
    go_ret
    exact ⟨rfl, (Below.refl _ _).alloc (Nat.le_refl _) _⟩
  ·have h7 : r.y < -1000 ∨ 1000 < r.y := by omega
   have H7 := Lib.hid h7
   clear h7 hr h3
   go_enter Try.func104, Try.ntmps104
   go_wp2_with (first | (go_at_call 103; (with_reducible refine (inI_yes _ _ _ _ (by omega) (by omega)).mono ?_); rintro e w' ⟨rfl, rfl⟩) | (go_at_call 103; (with_reducible refine (inI_no _ _ _ _ H7.out).mono ?_); rintro e w' ⟨rfl, rfl⟩))
   go_ret
   exact ⟨rfl, (Below.refl _ _).alloc (Nat.le_refl _) _⟩
 ·have h7 : r.x < -1000 ∨ 1000 < r.x := by omega
  have H7 := Lib.hid h7
  clear h7 hr h1
  go_enter Try.func104, Try.ntmps104
  go_wp2_with (first | (go_at_call 103; (with_reducible refine (inI_no _ _ _ _ H7.out).mono ?_); rintro e w' ⟨rfl, rfl⟩))
  go_ret
  exact ⟨rfl, (Below.refl _ _).alloc (Nat.le_refl _) _⟩
end Go.Proofs.Ytokniebejilcbaa
namespace Go.Proofs.Ytokniebejilcbaa
open Go.RowKit
def pixOk (p : Int) : Prop := 0 ≤ p ∧ p ≤ 4294967295
instance (p : Int) : Decidable (pixOk p) := by unfold pixOk; infer_instance
end Go.Proofs.Ytokniebejilcbaa
namespace Go.Proofs.Ytokniebejilcbaa
open Go.RowKit
theorem pixS_yes (p : Int) (h : pixOk p) (w : World) :
  Calls Try.prog 107 #[.int .i64 p] w fun e w' => e = .returned (.bool true) ∧ w = w' := by
 go_enter Try.func107, Try.ntmps107
 go_wp2_with fail
 refine (inS_yes p 0 4294967295 _ h.1 h.2).mono ?_
 rintro e w' ⟨rfl, rfl⟩
 go_wp2
 go_ret
 exact ⟨rfl, rfl⟩
theorem pixS_no (p : Int) (h : ¬ pixOk p) (w : World) :
  Calls Try.prog 107 #[.int .i64 p] w fun e w' => e = .returned (.bool false) ∧ w = w' := by
 have h' : p < 0 ∨ 4294967295 < p := by unfold pixOk at h; omega
 have H := Lib.hid h'
 clear h h'
 go_enter Try.func107, Try.ntmps107
 go_wp2_with fail
 refine (inS_no p 0 4294967295 _ H.out).mono ?_
 rintro e w' ⟨rfl, rfl⟩
 go_wp2
 go_ret
 exact ⟨rfl, rfl⟩
end Go.Proofs.Ytokniebejilcbaa
namespace Go.Proofs.Ytokniebejilcbaa
open Go.RowKit
def allIn (L : List Int) (lo hi : Int) : Prop := ∀ (k : Nat) (x : Int), L[k]? = some x → lo ≤ x ∧ x ≤ hi
noncomputable def allB (L : List Int) (lo hi : Int) : Bool := @decide (allIn L lo hi) (Classical.propDecidable _)
theorem allB_yes {L : List Int} {lo hi : Int} (h : allIn L lo hi) : allB L lo hi = true := by unfold allB; simp [h]
theorem allB_no {L : List Int} {lo hi : Int} (h : ¬ allIn L lo hi) : allB L lo hi = false := by unfold allB; simp [h]
set_option maxHeartbeats 600000 in
theorem allI (v : Value) (L : List Int) (lo hi : Int) (w : World) (hv : RdI w v L) :
  Calls Try.prog 144 #[v, .int .i64 lo, .int .i64 hi] w fun e w' => e = .returned (.bool (allB L lo hi)) ∧ w = w' := by
 obtain ⟨A, c, rfl⟩ := hv.form
 have hn1 : L.length ≤ 9223372036854775807 := by have := hv.len; unfold maxLen at this; omega
 obtain ⟨n, hn⟩ : ∃ n, n = L.length := ⟨_, rfl⟩
 rw [← hn] at hn1 hv ⊢
 have Hv := Lib.hid hv
 have Hn := Lib.hid hn
 clear hv hn
 go_enter Try.func144, Try.ntmps144
 go_wp2_with fail
 go_loopw [11] (fun i wr => ∃ k : Nat, k ≤ n ∧ i = .int .i64 k ∧ Hid (∀ (j : Nat) (x : Int), j < k → L[j]? = some x → lo ≤ x ∧ x ≤ hi) ∧ wr = w) (fun i _ => n - (intOf i).toNat)
 case atStart => exact ⟨0, Nat.zero_le _, rfl, Lib.hid (fun j x h => by omega), rfl⟩
 case round =>
  obtain ⟨k, hk, rfl, Hall, rfl⟩ := hrel
  by_cases hlt : k < n
  ·obtain ⟨g, x, rfl, hx, hc⟩ := Hv.out.at_ (k := k) (by rw [← Hn.out]; exact hlt)
   have Hx := Lib.hid hx
   have k0 : (0 : Int) ≤ (k : Int) := by omega
   have k1 : (k : Int) < (n : Int) := by omega
   clear hx
   by_cases hp : lo ≤ x ∧ x ≤ hi
   ·have Hp := Lib.hid hp
    clear hp
    go_wp2_with ((go_at_call 103; (with_reducible refine (inI_yes _ _ _ _ Hp.out.1 Hp.out.2).mono ?_); rintro e w' ⟨rfl, rfl⟩))
    go_roundw
    case rel =>
     refine ⟨k + 1, by omega, by go_num, Lib.hid (fun j y hj hy => ?_), by first | rfl | trivial⟩
     by_cases e : j < k
     ·exact Hall.out j y e hy
     ·obtain rfl : j = k := by omega
      rw [Hx.out] at hy
      rw [← Option.some.inj hy]
      exact Hp.out
    case measure => simp [intOf]; omega
   ·have hp2 : x < lo ∨ hi < x := by omega
    have Hp := Lib.hid hp2
    have hno : allB L lo hi = false := allB_no fun h => hp (h k x Hx.out)
    have Hno := Lib.hid hno
    clear hp hp2 hno
    go_wp2_with ((go_at_call 103; (with_reducible refine (inI_no _ _ _ _ Hp.out).mono ?_); rintro e w' ⟨rfl, rfl⟩))
    go_ret
    exact ⟨ret_bool Hno.out.symm, rfl⟩
  ·obtain rfl : k = n := by omega
   have hyes : allB L lo hi = true := allB_yes fun j x hx => Hall.out j x (by rw [Hn.out]; exact (List.getElem?_eq_some_iff.1 hx).1) hx
   have Hyes := Lib.hid hyes
   clear hyes
   go_wp2_with fail
   go_ret
   exact ⟨ret_bool Hyes.out.symm, rfl⟩
end Go.Proofs.Ytokniebejilcbaa
namespace Go.Proofs.Ytokniebejilcbaa
open Go.RowKit
def szOk (W H : Int) : Prop := 1 ≤ W ∧ W ≤ 16 ∧ 1 ≤ H ∧ H ≤ 16
def imOk (W H : Int) (L : List Int) : Prop := szOk W H ∧ (L.length : Int) = W * H ∧ ∀ (k : Nat) (x : Int), L[k]? = some x → pixOk x
noncomputable def imB (W H : Int) (L : List Int) : Bool := @decide (imOk W H L) (Classical.propDecidable _)
theorem imB_yes {W H : Int} {L : List Int} (h : imOk W H L) : imB W H L = true := by unfold imB; simp [h]
theorem imB_no {W H : Int} {L : List Int} (h : ¬ imOk W H L) : imB W H L = false := by unfold imB; simp [h]
def fillOk (W H : Int) (L : List Int) (hi : Int) : Prop := szOk W H ∧ (L.length : Int) = W * H ∧ allIn L 0 hi
noncomputable def fillB (W H : Int) (L : List Int) (hi : Int) : Bool := @decide (fillOk W H L hi) (Classical.propDecidable _)
theorem fillB_yes {W H hi : Int} {L : List Int} (h : fillOk W H L hi) : fillB W H L hi = true := by unfold fillB; simp [h]
theorem fillB_no {W H hi : Int} {L : List Int} (h : ¬ fillOk W H L hi) : fillB W H L hi = false := by unfold fillB; simp [h]
theorem imB_fill {W H : Int} {L : List Int} : imB W H L = fillB W H L 4294967295 := by
 by_cases h : imOk W H L
 ·rw [imB_yes h]; exact (fillB_yes (show fillOk W H L 4294967295 from h)).symm
 ·rw [imB_no h]; exact (fillB_no (show ¬ fillOk W H L 4294967295 from h)).symm
theorem sz_mul {W H : Int} (h : szOk W H) : 0 ≤ W * H ∧ W * H ≤ 256 := by
 obtain ⟨h1, h2, h3, h4⟩ := h
 exact ⟨Int.mul_nonneg (by omega) (by omega), by have := Int.mul_le_mul (a := W) (b := H) (c := 16) (d := 16) h2 h4 (by omega) (by omega); omega⟩
theorem sz_pos {W H : Int} (h : szOk W H) : 1 ≤ W * H := by
 obtain ⟨h1, h2, h3, h4⟩ := h
 have := Int.mul_le_mul (a := 1) (b := 1) (c := W) (d := H) h1 h3 (by omega) (by omega)
 omega
def ImOkAns (W H : Int) (L : List Int) (w : World) (e : Ending) (w' : World) : Prop := e = .returned (.bool (imB W H L)) ∧ Below w.heap.size w w'
theorem szI_yes (W H : Int) (h : szOk W H) (w : World) :
  Calls Try.prog 62 #[.int .i64 W, .int .i64 H] w fun e w' => e = .returned (.bool true) ∧ w = w' := by
 obtain ⟨h1, h2, h3, h4⟩ := h
 go_enter Try.func62, Try.ntmps62
 go_wp2_with ((go_at_call 103; (with_reducible refine (inI_yes _ _ _ _ (by omega) (by omega)).mono ?_); rintro e w' ⟨rfl, rfl⟩))
 go_ret
 exact ⟨rfl, rfl⟩
theorem szI_no (W H : Int) (h : ¬ szOk W H) (w : World) :
  Calls Try.prog 62 #[.int .i64 W, .int .i64 H] w fun e w' => e = .returned (.bool false) ∧ w = w' := by
 unfold szOk at h
 by_cases h1 : 1 ≤ W ∧ W ≤ 16
 ·obtain ⟨h1, h2⟩ := h1
  have h7 : H < 1 ∨ 16 < H := by omega
  have H7 := Lib.hid h7
  clear h7 h
  go_enter Try.func62, Try.ntmps62
  go_wp2_with (first | (go_at_call 103; (with_reducible refine (inI_yes _ _ _ _ (by omega) (by omega)).mono ?_); rintro e w' ⟨rfl, rfl⟩) | (go_at_call 103; (with_reducible refine (inI_no _ _ _ _ H7.out).mono ?_); rintro e w' ⟨rfl, rfl⟩))
  go_ret
  exact ⟨rfl, rfl⟩
 ·have h7 : W < 1 ∨ 16 < W := by omega
  have H7 := Lib.hid h7
  clear h7 h h1
  go_enter Try.func62, Try.ntmps62
  go_wp2_with (first | (go_at_call 103; (with_reducible refine (inI_no _ _ _ _ H7.out).mono ?_); rintro e w' ⟨rfl, rfl⟩))
  go_ret
  exact ⟨rfl, rfl⟩
set_option maxHeartbeats 600000 in
theorem fillI (W H hi : Int) (v : Value) (L : List Int) (w : World) (hv : RdI w v L) :
  Calls Try.prog 108 #[v, .int .i64 W, .int .i64 H, .int .i64 hi] w fun e w' => e = .returned (.bool (fillB W H L hi)) ∧ w = w' := by
 obtain ⟨A, c, rfl⟩ := hv.form
 have hnm := hv.len
 obtain ⟨n, hn⟩ : ∃ n, n = L.length := ⟨_, rfl⟩
 rw [← hn] at hv hnm ⊢
 have Hv := Lib.hid hv
 clear hv
 by_cases hs : szOk W H
 ·obtain ⟨m0, m1⟩ := sz_mul hs
  have Hs := Lib.hid hs
  by_cases hl : (n : Int) = W * H
  ·obtain ⟨q, hq⟩ : ∃ q, q = allB L 0 hi := ⟨_, rfl⟩
   have hqi : fillB W H L hi = q := by
    rw [hq]
    by_cases ha : allIn L 0 hi
    ·rw [allB_yes ha]; exact fillB_yes ⟨hs, by rw [← hn]; exact hl, ha⟩
    ·rw [allB_no ha]; exact fillB_no fun h => ha h.2.2
   have Hqi := Lib.hid hqi
   have HC := Lib.hid (allI (.slice A n c) L 0 hi _ Hv.out)
   rw [← hq] at HC
   have hn256 : n ≤ 256 := by omega
   clear hs hn hq hqi
   go_enter Try.func108, Try.ntmps108
   go_wp2_with fail
   refine (szI_yes _ _ Hs.out _).mono ?_
   rintro e w' ⟨rfl, rfl⟩
   go_wp2_with fail
   refine HC.out.mono ?_
   rintro e w' ⟨rfl, rfl⟩
   go_wp2_with fail
   go_ret
   exact ⟨ret_bool Hqi.out.symm, rfl⟩
  ·have hno : fillB W H L hi = false := fillB_no fun h => hl (by rw [hn]; exact h.2.1)
   have Hno := Lib.hid hno
   unfold maxLen at hnm
   clear hs hno hn
   go_enter Try.func108, Try.ntmps108
   go_wp2_with fail
   refine (szI_yes _ _ Hs.out _).mono ?_
   rintro e w' ⟨rfl, rfl⟩
   go_wp2_with fail
   go_ret
   exact ⟨ret_bool Hno.out.symm, rfl⟩
 ·have hno : fillB W H L hi = false := fillB_no fun h => hs h.1
  have Hno := Lib.hid hno
  have Hs := Lib.hid hs
  clear hs hno hn
  go_enter Try.func108, Try.ntmps108
  go_wp2_with fail
  refine (szI_no _ _ Hs.out _).mono ?_
  rintro e w' ⟨rfl, rfl⟩
  go_wp2_with fail
  go_ret
  exact ⟨ret_bool Hno.out.symm, rfl⟩
set_option maxHeartbeats 600000 in
theorem imI (W H : Int) (v : Value) (L : List Int) (w : World) (hv : RdI w v L) :
  Calls Try.prog 67 #[.agg #[.int .i64 W, .int .i64 H, v]] w (ImOkAns W H L w) := by
 have hv2 := hv.alloc (.cells #[.int .i64 W, .int .i64 H, v] 32)
 have hw := (Below.refl w.heap.size w).alloc (Nat.le_refl _) (.cells #[.int .i64 W, .int .i64 H, v] 32)
 obtain ⟨A, c, rfl⟩ := hv.form
 obtain ⟨n, hn⟩ : ∃ n, n = L.length := ⟨_, rfl⟩
 have HC := Lib.hid (fillI W H 4294967295 (.slice A L.length c) L _ hv2)
 obtain ⟨q, hq⟩ : ∃ q, q = fillB W H L 4294967295 := ⟨_, rfl⟩
 have hqi : imB W H L = q := by rw [hq, imB_fill]
 have Hqi := Lib.hid hqi
 rw [← hq] at HC
 rw [← hn] at HC hw ⊢
 have Hw := Lib.hid hw
 clear hv hv2 hw hqi hq hn
 go_enter Try.func67, Try.ntmps67
 go_wp2_with fail
 refine HC.out.mono ?_
 rintro e w' ⟨rfl, rfl⟩
 go_wp2_with fail
 go_ret
 exact ⟨ret_bool Hqi.out.symm, Hw.out⟩
set_option maxHeartbeats 600000 in
theorem imS (W H : Int) (v : Value) (L : List Int) (w : World) (hv : RdI w v L) :
  Calls Try.prog 66 #[.agg #[.int .i64 W, .int .i64 H, v]] w (ImOkAns W H L w) := by
 have hv2 := hv.alloc (.cells #[.int .i64 W, .int .i64 H, v] 32)
 have hw := (Below.refl w.heap.size w).alloc (Nat.le_refl _) (.cells #[.int .i64 W, .int .i64 H, v] 32)
 have hI := ImAt.new w 32 W H v
 obtain ⟨A, c, rfl⟩ := hv.form
 have hnm := hv.len
 obtain ⟨n, hn⟩ : ∃ n, n = L.length := ⟨_, rfl⟩
 rw [← hn] at hv2 hw hnm hI ⊢
 have Hv := Lib.hid hv2
 have Hw := Lib.hid hw
 obtain ⟨i0, i1, i2⟩ := hI.cells
 clear hv hv2 hw hI
 by_cases hs : szOk W H
 ·obtain ⟨m0, m1⟩ := sz_mul hs
  have Hs := Lib.hid hs
  have hs2 := hs
  obtain ⟨s1, s2, s3, s4⟩ := hs2
  by_cases hl : (n : Int) = W * H
  ·have hn256 : n ≤ 256 := by omega
   have Hl := Lib.hid hl
   have Hn := Lib.hid hn
   clear hs hn
   go_enter Try.func66, Try.ntmps66
   go_wp2_with ((go_at_call 61; (with_reducible refine (inS_yes _ _ _ _ (by omega) (by omega)).mono ?_); rintro e w' ⟨rfl, rfl⟩))
   go_loopw [3] (fun i wr => ∃ k : Nat, k ≤ n ∧ i = .int .i64 k ∧ Hid (∀ (j : Nat) (x : Int), j < k → L[j]? = some x → pixOk x) ∧ wr = w.alloc (.cells #[.int .i64 W, .int .i64 H, .slice A n c] 32)) (fun i _ => n - (intOf i).toNat)
   case atStart => exact ⟨0, Nat.zero_le _, rfl, Lib.hid (fun j x h => by omega), rfl⟩
   case round =>
    obtain ⟨k, hk, rfl, Hall, rfl⟩ := hrel
    by_cases hlt : k < n
    ·obtain ⟨g, x, rfl, hx, hc⟩ := Hv.out.at_ (k := k) (by rw [← Hn.out]; exact hlt)
     have Hx := Lib.hid hx
     have k0 : (0 : Int) ≤ (k : Int) := by omega
     have k1 : (k : Int) < (n : Int) := by omega
     clear hx
     by_cases hp : pixOk x
     ·have Hp := Lib.hid hp
      clear hp
      go_wp2_with ((go_at_call 107; (with_reducible refine (pixS_yes _ Hp.out _).mono ?_); rintro e w' ⟨rfl, rfl⟩))
      go_roundw
      case rel =>
       refine ⟨k + 1, by omega, by go_num, Lib.hid (fun j y hj hy => ?_), by first | rfl | trivial⟩
       by_cases e : j < k
       ·exact Hall.out j y e hy
       ·obtain rfl : j = k := by omega
        rw [Hx.out] at hy
        rw [← Option.some.inj hy]
        exact Hp.out
      case measure => simp [intOf]; omega
     ·have Hp := Lib.hid hp
      have hno : imB W H L = false := imB_no fun h => hp (h.2.2 k x Hx.out)
      have Hno := Lib.hid hno
      clear hp hno
      go_wp2_with ((go_at_call 107; (with_reducible refine (pixS_no _ Hp.out _).mono ?_); rintro e w' ⟨rfl, rfl⟩))
      go_ret
      exact ⟨ret_bool Hno.out.symm, Hw.out⟩
    ·obtain rfl : k = n := by omega
     have hyes : imB W H L = true := imB_yes ⟨Hs.out, by rw [← Hn.out]; exact Hl.out, fun j x hx => Hall.out j x (by rw [Hn.out]; exact (List.getElem?_eq_some_iff.1 hx).1) hx⟩
     have Hyes := Lib.hid hyes
     clear hyes
     go_wp2_with fail
     go_ret
     exact ⟨ret_bool Hyes.out.symm, Hw.out⟩
  ·have hno : imB W H L = false := imB_no fun h => hl (by rw [hn]; exact h.2.1)
   have Hno := Lib.hid hno
   unfold maxLen at hnm
   clear hs hno hn
   go_enter Try.func66, Try.ntmps66
   go_wp2_with ((go_at_call 61; (with_reducible refine (inS_yes _ _ _ _ (by omega) (by omega)).mono ?_); rintro e w' ⟨rfl, rfl⟩))
   go_ret
   exact ⟨ret_bool Hno.out.symm, Hw.out⟩
 ·have hno : imB W H L = false := imB_no fun h => hs h.1
  have Hno := Lib.hid hno
  unfold szOk at hs
  by_cases h1 : 1 ≤ W ∧ W ≤ 16
  ·obtain ⟨h1, h2⟩ := h1
   have h7 : H < 1 ∨ 16 < H := by omega
   have H7 := Lib.hid h7
   clear h7 hs hno hn
   go_enter Try.func66, Try.ntmps66
   go_wp2_with (first | (go_at_call 61; (with_reducible refine (inS_yes _ _ _ _ (by omega) (by omega)).mono ?_); rintro e w' ⟨rfl, rfl⟩) | (go_at_call 61; (with_reducible refine (inS_no _ _ _ _ H7.out).mono ?_); rintro e w' ⟨rfl, rfl⟩))
   go_ret
   exact ⟨ret_bool Hno.out.symm, Hw.out⟩
  ·have h7 : W < 1 ∨ 16 < W := by omega
   have H7 := Lib.hid h7
   clear h7 hs hno hn h1
   go_enter Try.func66, Try.ntmps66
   go_wp2_with (first | (go_at_call 61; (with_reducible refine (inS_no _ _ _ _ H7.out).mono ?_); rintro e w' ⟨rfl, rfl⟩))
   go_ret
   exact ⟨ret_bool Hno.out.symm, Hw.out⟩
end Go.Proofs.Ytokniebejilcbaa
namespace Go.Proofs.Ytokniebejilcbaa
open Go.RowKit
theorem rep_ints_own {B : Nat} {w : World} {L : List Int} {d : Value} {bs : List Nat} (h : repInts.Own B w L [d] bs) : w.ownsRow B 3 1 d L.length (intCells L) ∧ bs = d.ownBlock.toList := by
 obtain ⟨v, e, ho, rfl⟩ := h.r
 obtain rfl : d = v := by simpa using e
 exact ⟨own_rebase ho fun b hb => h.lo b hb, rfl⟩
end Go.Proofs.Ytokniebejilcbaa
namespace Go.Proofs.Ytokniebejilcbaa
open Go.RowKit
def RcAt (w : World) (g : Nat) (r : Rc) : Prop := w.heap[g]? = some (.cells #[.int .i64 r.x, .int .i64 r.y, .int .i64 r.w, .int .i64 r.h] 94 (0, 0))
theorem RcAt.lt {w : World} {g : Nat} {r : Rc} (h : RcAt w g r) : g < w.heap.size := (Array.getElem?_eq_some_iff.1 h).1
theorem RcAt.cells {w : World} {g : Nat} {r : Rc} (h : RcAt w g r) :
  w.cell? ⟨g, 0, none⟩ = some (.int .i64 r.x) ∧ w.cell? ⟨g, 1, none⟩ = some (.int .i64 r.y) ∧ w.cell? ⟨g, 2, none⟩ = some (.int .i64 r.w) ∧ w.cell? ⟨g, 3, none⟩ = some (.int .i64 r.h) := by
 unfold RcAt at h
 refine ⟨?_, ?_, ?_, ?_⟩ <;> simp [World.cell?, h]
theorem RcAt.frozen {w : World} {g : Nat} {r : Rc} (h : RcAt w g r) (o : Nat) : w.frozen? ⟨g, o, none⟩ = false := by
 unfold RcAt at h; simp [World.frozen?, h]
theorem RcAt.below {w w' : World} {g B : Nat} {r : Rc} (h : RcAt w g r) (hb : Below B w w') (hg : g < B) : RcAt w' g r := (hb.block g hg).trans h
theorem RcAt.alloc {w : World} {g : Nat} {r : Rc} (h : RcAt w g r) (o : Obj) : RcAt (w.alloc o) g r := (Below.heap_alloc w o g h.lt).trans h
theorem RcAt.new (w : World) (r : Rc) : RcAt (w.alloc (.cells #[.int .i64 r.x, .int .i64 r.y, .int .i64 r.w, .int .i64 r.h] 94)) w.heap.size r := heap_alloc_new w _
theorem RcAt.newAt {w : World} {g : Nat} (h : w.heap.size = g) (r : Rc) : RcAt (w.alloc (.cells #[.int .i64 r.x, .int .i64 r.y, .int .i64 r.w, .int .i64 r.h] 94)) g r := h ▸ RcAt.new w r
theorem RcAt.drew {w : World} {g : Nat} {r : Rc} (h : RcAt w g r) : RcAt w.drew g r := h
theorem RcAt.drewN {w : World} {g : Nat} {r : Rc} (h : RcAt w g r) (n : Nat) : RcAt (w.drewN n) g r := h
theorem RcAt.far {w : World} {g : Nat} {r : Rc} (h : RcAt w g r) {p : Addr} (hp : g ≠ p.block) (v : Value) : RcAt (w.setCell p v) g r := (Below.heap_setCell w p v g hp).trans h
theorem RcAt.set2 {w : World} {g : Nat} {r : Rc} (h : RcAt w g r) (c d : Int) : RcAt ((w.setCell ⟨g, 2, none⟩ (.int .i64 c)).setCell ⟨g, 3, none⟩ (.int .i64 d)) g ⟨r.x, r.y, c, d⟩ := by
 unfold RcAt at *
 simp [World.setCell, Array.getElem?_modify, h]
end Go.Proofs.Ytokniebejilcbaa
namespace Go.Proofs.Ytokniebejilcbaa
open Go.RowKit
theorem bcell {W w1 : World} (hb : Below W.heap.size W w1) : (∀ b o, b < W.heap.size → w1.cell? ⟨b, o, none⟩ = W.cell? ⟨b, o, none⟩) ∧ (∀ b o, b < W.heap.size → w1.frozen? ⟨b, o, none⟩ = W.frozen? ⟨b, o, none⟩) :=
 ⟨fun b o h => hb.cell (p := ⟨b, o, none⟩) h, fun b o h => hb.frozen (p := ⟨b, o, none⟩) h⟩
theorem rightOf_any (r : Rc) (hr : r.ok) (w : World) :
  Calls Try.prog 105 #[.agg #[.int .i64 r.x, .int .i64 r.y, .int .i64 r.w, .int .i64 r.h]] w fun e w' => e = .returned (.int .i64 (r.x + r.w)) ∧ w.alloc (.cells #[.int .i64 r.x, .int .i64 r.y, .int .i64 r.w, .int .i64 r.h] 94) = w' := by
 obtain ⟨h1, h2, h3, h4, h5, h6, h7, h8⟩ := hr
 go_enter Try.func105, Try.ntmps105
 go_wp2
 go_ret
 exact ⟨rfl, rfl⟩
theorem bottomOf_any (r : Rc) (hr : r.ok) (w : World) :
  Calls Try.prog 106 #[.agg #[.int .i64 r.x, .int .i64 r.y, .int .i64 r.w, .int .i64 r.h]] w fun e w' => e = .returned (.int .i64 (r.y + r.h)) ∧ w.alloc (.cells #[.int .i64 r.x, .int .i64 r.y, .int .i64 r.w, .int .i64 r.h] 94) = w' := by
 obtain ⟨h1, h2, h3, h4, h5, h6, h7, h8⟩ := hr
 go_enter Try.func106, Try.ntmps106
 go_wp2
 go_ret
 exact ⟨rfl, rfl⟩
end Go.Proofs.Ytokniebejilcbaa
namespace Go.Proofs.Ytokniebejilcbaa
open Go.RowKit
instance (r : Rc) : Decidable r.ok := by unfold Rc.ok; infer_instance
def hasB (r : Rc) (x y : Int) : Bool := decide (r.ok ∧ r.x ≤ x ∧ x < r.x + r.w ∧ r.y ≤ y ∧ y < r.y + r.h)
theorem has_yes {r : Rc} {x y : Int} (h : r.ok ∧ r.x ≤ x ∧ x < r.x + r.w ∧ r.y ≤ y ∧ y < r.y + r.h) : hasB r x y = true := decide_eq_true h
theorem has_no {r : Rc} {x y : Int} (h : ¬ (r.ok ∧ r.x ≤ x ∧ x < r.x + r.w ∧ r.y ≤ y ∧ y < r.y + r.h)) : hasB r x y = false := decide_eq_false h
theorem hasI_bad (r : Rc) (hr : ¬ r.ok) (x y : Int) (w : World) :
  Calls Try.prog 64 #[.agg #[.int .i64 r.x, .int .i64 r.y, .int .i64 r.w, .int .i64 r.h], .int .i64 x, .int .i64 y] w fun e w' => e = .returned (.bool (hasB r x y)) ∧ Below w.heap.size w w' := by
 have Hr := Lib.hid hr
 clear hr
 go_enter Try.func64, Try.ntmps64
 go_wp2_with fail
 refine (rectOkI_no r Hr.out _).mono ?_
 rintro e w1 ⟨rfl, hb1⟩
 go_wp2_with fail
 go_ret
 exact ⟨ret_bool (has_no (fun h => Hr.out h.1)).symm, (((Below.refl _ _).alloc (Nat.le_refl _) _)).trans (hb1.mono (by first | (simp; done) | (simp; omega)))⟩
set_option maxHeartbeats 1000000 in
theorem hasI_ok (r : Rc) (hr : r.ok) (x y : Int) (w : World) :
  Calls Try.prog 64 #[.agg #[.int .i64 r.x, .int .i64 r.y, .int .i64 r.w, .int .i64 r.h], .int .i64 x, .int .i64 y] w fun e w' => e = .returned (.bool (hasB r x y)) ∧ Below w.heap.size w w' := by
 have Hr := Lib.hid hr
 obtain ⟨h1, h2, h3, h4, h5, h6, h7, h8⟩ := hr
 obtain hcs | ⟨hcs, hc1⟩ | ⟨hcs, hc1, hc2⟩ | ⟨hcs, hc1, hc2, hc3⟩ | ⟨hcs, hc1, hc2, hc3⟩ : x < r.x ∨ (r.x ≤ x ∧ r.x + r.w ≤ x) ∨ (r.x ≤ x ∧ x < r.x + r.w ∧ y < r.y) ∨ (r.x ≤ x ∧ x < r.x + r.w ∧ r.y ≤ y ∧ r.y + r.h ≤ y) ∨ (r.x ≤ x ∧ x < r.x + r.w ∧ r.y ≤ y ∧ y < r.y + r.h) := by omega
 all_goals
  go_enter Try.func64, Try.ntmps64
  go_wp2_with fail
  refine (rectOkI_yes r Hr.out _).mono ?_
  rintro e w1 ⟨rfl, hb1⟩
  obtain ⟨hc, hf⟩ := bcell hb1
  have hz : w.heap.size < w1.heap.size := by have := hb1.size; simp at this; omega
  have hw : Below w.heap.size w w1 := (((Below.refl _ _).alloc (Nat.le_refl _) _)).trans (hb1.mono (by first | (simp; done) | (simp; omega)))
  go_wp2_with (first | (go_at_call 105; (with_reducible refine (rightOf_any r Hr.out _).mono ?_); rintro e w' ⟨rfl, rfl⟩) | (go_at_call 106; (with_reducible refine (bottomOf_any r Hr.out _).mono ?_); rintro e w' ⟨rfl, rfl⟩))
  go_ret
  first
  | exact ⟨ret_bool (has_yes ⟨Hr.out, by omega, by omega, by omega, by omega⟩).symm, by (first | exact hw | exact hw.alloc hw.size _ | exact (hw.alloc hw.size _).alloc (by have := hw.size; simp; omega) _)⟩
  | exact ⟨ret_bool ((decide_eq_true (by omega)).trans (has_yes ⟨Hr.out, by omega, by omega, by omega, by omega⟩).symm), by (first | exact hw | exact hw.alloc hw.size _ | exact (hw.alloc hw.size _).alloc (by have := hw.size; simp; omega) _)⟩
  | exact ⟨ret_bool (has_no (fun h => by omega)).symm, by (first | exact hw | exact hw.alloc hw.size _ | exact (hw.alloc hw.size _).alloc (by have := hw.size; simp; omega) _)⟩
  | exact ⟨ret_bool ((decide_eq_false (by omega)).trans (has_no (fun h => by omega)).symm), by (first | exact hw | exact hw.alloc hw.size _ | exact (hw.alloc hw.size _).alloc (by have := hw.size; simp; omega) _)⟩
theorem hasI_any (r : Rc) (x y : Int) (w : World) :
  Calls Try.prog 64 #[.agg #[.int .i64 r.x, .int .i64 r.y, .int .i64 r.w, .int .i64 r.h], .int .i64 x, .int .i64 y] w fun e w' => e = .returned (.bool (hasB r x y)) ∧ Below w.heap.size w w' := by
 by_cases hr : r.ok
 ·exact hasI_ok r hr x y w
 ·exact hasI_bad r hr x y w
end Go.Proofs.Ytokniebejilcbaa
namespace Go.Proofs.Ytokniebejilcbaa
open Go.RowKit
theorem ownI_far {w : World} {B n : Nat} {e : TypeId} {v : Value} {xs : List Value} (h : w.ownsRow B e 1 v n xs) {p : Addr} (hp : ∀ g, v.ownBlock = some g → g ≠ p.block) (u : Value) : (w.setCell p u).ownsRow B e 1 v n xs :=
 h.kept (row := some p.block) ⟨rfl, rfl, rfl, by simp, fun k _ hk => Below.heap_setCell w p u k (fun e => hk (by rw [e]))⟩ (by
  by_cases hv : v.ownBlock = none
  ·exact .inl hv
  ·obtain ⟨k, hk⟩ := Option.ne_none_iff_exists'.1 hv
   exact .inr fun e => hp k hk (by rw [hk] at e; exact Option.some.inj e))
set_option maxHeartbeats 600000 in
theorem eqIm_same (W H : Int) (v u : Value) (L : List Int) (w : World) (hv : RdI w v L) (hu : RdI w u L) :
  Calls Try.prog 21 #[.agg #[.int .i64 W, .int .i64 H, v], .agg #[.int .i64 W, .int .i64 H, u]] w fun e w' => e = .returned (.bool true) ∧ Below w.heap.size w w' := by
 have hv2 := (hv.alloc (.cells #[.int .i64 W, .int .i64 H, v] 32)).alloc (.cells #[.int .i64 W, .int .i64 H, u] 32)
 have hu2 := (hu.alloc (.cells #[.int .i64 W, .int .i64 H, v] 32)).alloc (.cells #[.int .i64 W, .int .i64 H, u] 32)
 have Hw := Lib.hid (((Below.refl w.heap.size w).alloc (Nat.le_refl _) (.cells #[.int .i64 W, .int .i64 H, v] 32)).alloc (by simp) (.cells #[.int .i64 W, .int .i64 H, u] 32))
 have Hv := Lib.hid hv2
 have Hu := Lib.hid hu2
 obtain ⟨A, c, rfl⟩ := hv.form
 obtain ⟨A', c', rfl⟩ := hu.form
 obtain ⟨n, hn⟩ : ∃ n, n = L.length := ⟨_, rfl⟩
 rw [← hn] at Hv Hu Hw ⊢
 have Hn := Lib.hid hn
 clear hv hu hv2 hu2 hn
 go_enter Try.func21, Try.ntmps21
 go_wp2_with fail
 refine (eqIS_same _ _ L _ Hv.out.rd Hu.out.rd).mono ?_
 rintro e w1 ⟨rfl, q, rfl⟩
 go_wp2_with fail
 go_ret
 exact ⟨rfl, below_drewN Hw.out q⟩
theorem markIm (B : Nat) (W H : Int) (v : Value) (L : List Int) (k0 : Nat) (w : World) (hm : k0 + L.length ≤ 1000000000) (hown : w.ownsRow B 3 1 v L.length (intCells L)) :
  Calls Try.prog 22 #[.agg #[.int .i64 W, .int .i64 H, v], .int .i64 k0] w fun ed w' => ed = .returned (.int .i64 ((k0 + L.length : Nat) : Int)) ∧ w'.ownsRow B 3 1 v L.length (intCells (marksI k0 L.length)) ∧ w.grownBy w' v.ownBlock := by
 have hown2 := hown.alloc (.cells #[.int .i64 W, .int .i64 H, v] 32)
 have hg := World.grownBy_alloc w (.cells #[.int .i64 W, .int .i64 H, v] 32) v.ownBlock
 obtain ⟨A, c, rfl⟩ := ownI_shape hown
 clear hown
 go_enter Try.func22, Try.ntmps22
 go_wp2_with fail
 refine (markIS B _ _ L k0 _ hm hown2).mono ?_
 rintro e w1 ⟨rfl, h1, h2⟩
 have H1 := Lib.hid h1
 have H2 := Lib.hid (hg.trans h2)
 clear h1 h2 hg hown2
 go_wp2_with fail
 go_ret
 exact ⟨rfl, H1.out, H2.out⟩
theorem heldIm (W H : Int) (v : Value) (k0 n : Nat) (w : World) (hm : k0 + n ≤ 1000000000) (hrd : RdI w v (marksI k0 n)) :
  Calls Try.prog 28 #[.agg #[.int .i64 W, .int .i64 H, v], .int .i64 k0] w fun ed w' => ed = .returned (.int .i64 ((k0 + n : Nat) : Int)) ∧ Below w.heap.size w w' := by
 have h2 := hrd.alloc (.cells #[.int .i64 W, .int .i64 H, v] 32)
 obtain ⟨A, c, rfl⟩ := hrd.form
 clear hrd
 have c1 : ¬ ((k0 + n : Nat) : Int) < 0 := by omega
 go_enter Try.func28, Try.ntmps28
 go_wp2_with fail
 refine (heldIS _ k0 n _ hm h2).mono ?_
 rintro e w1 ⟨rfl, rfl⟩
 clear h2
 go_wp2_with fail
 go_ret
 exact ⟨rfl, (Below.refl _ _).alloc (Nat.le_refl _) _⟩
end Go.Proofs.Ytokniebejilcbaa
namespace Go.Proofs.Ytokniebejilcbaa
open Go.RowKit
theorem zPa {α : Type} (l : List α) (i : Nat) (a : α) : l.toArray.setIfInBounds i a = (l.set i a).toArray := List.setIfInBounds_toArray l i a
theorem zPb {α : Type} {x : α} {xs : List α} {a : α} : (x :: xs).set 0 a = a :: xs := rfl
theorem zPc {α : Type} {x : α} {xs : List α} {i : Nat} {a : α} : (x :: xs).set (i + 1) a = x :: xs.set i a := rfl
theorem zGa {α : Type} {xs : List α} {i : Nat} (h : i < xs.toArray.size) : xs.toArray[i]'h = xs[i]'(by simpa using h) := rfl
theorem zGb {α : Type} (a : α) (l : List α) (i : Nat) (h : i + 1 < (a :: l).length) : getElem (a :: l) (i + 1) h = getElem l i (Nat.lt_of_succ_lt_succ h) := rfl
theorem zGc {α : Type} (a : α) (l : List α) (h : 0 < (a :: l).length) : getElem (a :: l) 0 h = a := rfl
theorem tkH {P : Program} {ops : Array Oper} {Q : Exit → Act → World → Prop} {md : Region.Mode} {S : World → Prop} {i : Nat} {oi : Oper} {v : Value} {fuel : Nat} {listed : Array Bool} {a : Act} {w : World} (hi : ops[i]? = some oi)
    (h : wpAnyH P md ops Q S fuel (listed.setIfInBounds i true) (a.put oi.dst v) w)
    (hs : Region.noSelect ops = true := by kernel_rfl) (hf : Region.free md ops listed i = true := by kernel_rfl) (hr : (Region.ready md ops listed).contains i = true := by kernel_rfl)
    (hQ : ∀ c a w, Q (.panic c) (a.put oi.dst v) w → Q (.panic c) a w := by exact fun _ _ _ h => h) (hw : Region.wanted oi (yielded ops a.tmps) = true := by kernel_rfl)
    (hy : ∀ w', S w' → (execOp a.eval oi).run P w' = .ok (.value v) w' := by intro w' hSw; (try dsimp only at hSw); go_simp) (hS : S w := by assumption) : wpAnyH P md ops Q S (fuel + 1) listed a w :=
  wpAnyH_take hi hs hf hr hQ (Or.inl ⟨hw, hy⟩) hS h
theorem tcH {P : Program} {ops : Array Oper} {Q : Exit → Act → World → Prop} {md : Region.Mode} {S : World → Prop} {i : Nat} {oi : Oper} {v : Value} {fuel : Nat} {listed : Array Bool} {a : Act} {w : World} (hi : ops[i]? = some oi)
    (hy : ∀ w', S w' → (execOp a.eval oi).run P w' = .ok (.value v) w') (h : wpAnyH P md ops Q S fuel (listed.setIfInBounds i true) (a.put oi.dst v) w)
    (hs : Region.noSelect ops = true := by kernel_rfl) (hf : Region.free md ops listed i = true := by kernel_rfl) (hr : (Region.ready md ops listed).contains i = true := by kernel_rfl)
    (hQ : ∀ c a w, Q (.panic c) (a.put oi.dst v) w → Q (.panic c) a w := by exact fun _ _ _ h => h) (hw : Region.wanted oi (yielded ops a.tmps) = true := by kernel_rfl)
    (hS : S w := by assumption) : wpAnyH P md ops Q S (fuel + 1) listed a w :=
  wpAnyH_take hi hs hf hr hQ (Or.inl ⟨hw, hy⟩) hS h
end Go.Proofs.Ytokniebejilcbaa
namespace Go.Proofs.Ytokniebejilcbaa
open Go.RowKit
theorem px_place {W H x y : Int} {L : List Int} (h : imOk W H L) (hx : 0 ≤ x ∧ x < W) (hy : 0 ≤ y ∧ y < H) :
  0 ≤ y * W ∧ y * W ≤ 240 ∧ 0 ≤ y * W + x ∧ y * W + x < (L.length : Int) ∧ L.length ≤ 256 := by
 obtain ⟨⟨s1, s2, s3, s4⟩, hl, _⟩ := h
 have m1 := sz_mul (W := W) (H := H) ⟨s1, s2, s3, s4⟩
 have h1 : 0 ≤ y * W := Int.mul_nonneg hy.1 (by omega)
 have h2 : y * W ≤ 15 * 16 := Int.mul_le_mul (by omega) s2 (by omega) (by omega)
 have h3 : (y + 1) * W ≤ H * W := Int.mul_le_mul_of_nonneg_right (by omega) (by omega)
 rw [Int.add_mul, Int.one_mul, Int.mul_comm H W] at h3
 omega
theorem frameI (W H : Int) (A : Option Addr) (n c : Nat) (w : World) :
  Calls Try.prog 111 #[.agg #[.int .i64 W, .int .i64 H, .slice A n c]] w fun e w' => e = .returned (.agg #[.int .i64 0, .int .i64 0, .int .i64 W, .int .i64 H]) ∧ Below w.heap.size w w' := by
 go_enter Try.func111, Try.ntmps111
 go_wp2_with fail
 exact bodyPost_ret (v := .agg #[.int .i64 0, .int .i64 0, .int .i64 W, .int .i64 H]) (by simp [results, Try.results111, go_sem]) rfl ⟨rfl, by repeat (first | exact Below.refl _ _ | refine Below.setCell ?_ (by simp; try omega) _ | refine Below.alloc ?_ (by simp; try omega) _)⟩
theorem pixelI (W H x y : Int) (v : Value) (L : List Int) (w : World) (h : imOk W H L) (hx : 0 ≤ x ∧ x < W) (hy : 0 ≤ y ∧ y < H) (hv : RdI w v L) :
  Calls Try.prog 109 #[.agg #[.int .i64 W, .int .i64 H, v], .int .i64 x, .int .i64 y] w fun e w' => e = .returned (.int .i64 (L.getD (y * W + x).toNat 0)) ∧ Below w.heap.size w w' := by
 have hv2 := hv.alloc (.cells #[.int .i64 W, .int .i64 H, v] 97)
 have hw := (Below.refl w.heap.size w).alloc (Nat.le_refl _) (.cells #[.int .i64 W, .int .i64 H, v] 97)
 obtain ⟨m0, m1, p0, p1, pn⟩ := px_place h hx hy
 obtain ⟨A, c, rfl⟩ := hv.form
 obtain ⟨m, hm⟩ := Int.eq_ofNat_of_zero_le m0
 obtain ⟨x, rfl⟩ := Int.eq_ofNat_of_zero_le hx.1
 obtain ⟨g, p, rfl, hp, hc⟩ := hv2.at_ (k := m + x) (by omega)
 have Hp : Hid (L.getD (y * W + (x : Int)).toNat 0 = p) := Lib.hid (by
  rw [show (y * W + (x : Int)).toNat = m + x by omega, List.getD_eq_getElem?_getD, hp]; rfl)
 obtain ⟨n, hn⟩ : ∃ n, n = L.length := ⟨_, rfl⟩
 rw [← hn] at p1 pn hw hc ⊢
 rw [hm] at p1 m1
 have Hw := Lib.hid hw
 clear hv hv2 hp hw hn h p0
 have hy0 := hy.1
 have hmx : (m : Int) + (x : Int) < (n : Int) := p1
 have hm2 : (m : Int) ≤ 240 := m1
 go_enter Try.func109, Try.ntmps109
 go_wp2_with fail
 go_ret
 exact ⟨ret_int Hp.out.symm, Hw.out⟩
end Go.Proofs.Ytokniebejilcbaa
namespace Go.Proofs.Ytokniebejilcbaa
open Go.RowKit
theorem IsRow.lt {k : IntKind} {w : World} {a : Option Addr} {len cap : Nat} {zs : List Int} (h : IsRow k w a len cap zs) : ∀ x, a = some x → 0 < cap → x.block < w.heap.size := by
 rintro x rfl hl
 rcases h with ⟨h, _⟩ | ⟨y, hy, h1, h2, h3, h4, h5⟩
 ·cases h
 ·cases hy
  have := World.block_lt_of_cell? w _ (h4 0 (by omega))
  have e2 : (x.add 0).block = x.block := by unfold Addr.add; split <;> rfl
  rw [e2] at this
  exact this
end Go.Proofs.Ytokniebejilcbaa
namespace Go.Proofs.Ytokniebejilcbaa
open Go.RowKit
theorem RcAt.grown {w w' : World} {g : Nat} {row : Option Nat} {r : Rc} (h : RcAt w g r) (hb : w.grownBy w' row) (hg : some g ≠ row) : RcAt w' g r := (hb.block g h.lt hg).trans h
end Go.Proofs.Ytokniebejilcbaa
namespace Go.Proofs.Ytokniebejilcbaa
open Go.RowKit
theorem RcAt.call {w w' : World} {g : Nat} {r : Rc} (h : RcAt w g r) (hb : Below w.heap.size w w') : RcAt w' g r := h.below hb h.lt
end Go.Proofs.Ytokniebejilcbaa
