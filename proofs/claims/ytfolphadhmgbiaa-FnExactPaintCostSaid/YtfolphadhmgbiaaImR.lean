/- Images in memory: slices of ints that are read from their block's head on, blocks of an image, the laws' helpers over slices of ints. No statement is proved here. -/
import Derived.Test.YtfolphadhmgbiaaMA
import Derived.Test.YtfolphadhmgbiaaProg
import Derived.WalkKit
import Derived.ProofKit
import Derived.OpenShut
import Derived.WalkLawsBesides
import Derived.WalkSpells
import Derived.ShutString
import Derived.ChangeOld
import Derived.Below
import Derived.Lib.Hide
import Derived.BigQuiet
import Derived.Deep.QuietTactic
import Derived.Maps.AppendAt
import Derived.Deep.OwnRows
import Derived.Handy
import Derived.Deep.Draws
import Derived.OwnWalk
import Derived.Deep.AppendLies
import Derived.Deep.LoopGhost
import Derived.Deep.Onto
namespace Go.Proofs.Ytfolphadhmgbiaa
open Go.RowKit
/-- A table of n numbers. -/
def tabI (n : Nat) (f : Nat → Int) : List Int := (List.range n).map f
theorem tabI_length (n : Nat) (f : Nat → Int) : (tabI n f).length = n := by simp [tabI]
theorem tabI_get (n : Nat) (f : Nat → Int) (k : Nat) (h : k < n) : (tabI n f)[k]? = some (f k) := by simp [tabI, h]
theorem tabI_congr (n : Nat) {f g : Nat → Int} (h : ∀ k, k < n → f k = g k) : tabI n f = tabI n g := by
  unfold tabI; exact List.map_congr_left fun k hk => h k (List.mem_range.1 hk)
theorem tabI_ext {L : List Int} {n : Nat} {f : Nat → Int} (hl : L.length = n) (h : ∀ k x, L[k]? = some x → f k = x) : L = tabI n f := by
  apply List.ext_getElem?
  intro k
  by_cases hk : k < n
  · rw [tabI_get n f k hk]
    have e : L[k]? = some (L[k]'(by omega)) := List.getElem?_eq_getElem _
    rw [e, h k _ e]
  · rw [List.getElem?_eq_none (by omega), List.getElem?_eq_none (by rw [tabI_length]; omega)]
theorem tabI_self (L : List Int) : L = tabI L.length (fun k => L.getD k 0) :=
  tabI_ext rfl fun k x h => by rw [List.getD_eq_getElem?_getD, h]; rfl
theorem tabI_set (n : Nat) (f : Nat → Int) (k : Nat) (x : Int) : (tabI n f).set k x = tabI n (fun j => if j = k then x else f j) := by
  apply tabI_ext (by rw [List.length_set, tabI_length])
  intro j y hj
  by_cases e : j = k
  · subst e
    rw [if_pos rfl]
    have hlt : j < n := by have := (List.getElem?_eq_some_iff.1 hj).1; rw [List.length_set, tabI_length] at this; exact this
    rw [List.getElem?_set_self (by rw [tabI_length]; exact hlt)] at hj
    exact Option.some.inj hj
  · rw [if_neg e]
    rw [List.getElem?_set_ne (Ne.symm e)] at hj
    have hlt : j < n := by have := (List.getElem?_eq_some_iff.1 hj).1; rw [tabI_length] at this; exact this
    rw [tabI_get n f j hlt] at hj
    exact Option.some.inj hj
theorem tabI_getD (n : Nat) (f : Nat → Int) (k : Nat) (h : k < n) : (tabI n f).getD k 0 = f k := by rw [List.getD_eq_getElem?_getD, tabI_get n f k h]; rfl
theorem tabI_mem {n : Nat} {f : Nat → Int} {x : Int} (h : x ∈ tabI n f) : ∃ k, k < n ∧ x = f k := by
  unfold tabI at h
  obtain ⟨k, hk, rfl⟩ := List.mem_map.1 h
  exact ⟨k, List.mem_range.1 hk, rfl⟩
theorem intCells_set (L : List Int) (k : Nat) (x : Int) : (intCells L).set k (.int .i64 x) = intCells (L.set k x) := by
  simp [intCells, List.map_set]
theorem intCells_one (L : List Int) : ∀ v ∈ intCells L, v.oneCell' = true := ints_oneCell .i64 L
/-- The slice v of ints reads L: it is nil, or it begins at the head of a block. -/
def RdI (w : World) (v : Value) (L : List Int) : Prop :=
  (v = .slice none 0 0 ∧ L = []) ∨ ∃ g c, v = .slice (some ⟨g, 0, none⟩) L.length c ∧ L.length ≤ maxLen ∧ L.length ≤ c ∧ ∀ k x, L[k]? = some x → w.cell? ⟨g, k, none⟩ = some (.int .i64 x)
theorem addr_add (g k : Nat) : (⟨g, 0, none⟩ : Addr).add k = ⟨g, k, none⟩ := by unfold Addr.add; split <;> simp_all
theorem RdI.of_own {w : World} {B : Nat} {e : TypeId} {v : Value} {n : Nat} {L : List Int} (h : w.ownsRow B e 1 v n (intCells L)) : RdI w v L := by
  have hl : n = L.length := by have := h.1; rw [intCells_length] at this; omega
  subst hl
  rcases h.2 with ⟨rfl, h0⟩ | ⟨g, cap, cur, rfl, hg, hh, hn, hc, hs, ht⟩
  · exact .inl ⟨rfl, List.eq_nil_of_length_eq_zero h0⟩
  · refine .inr ⟨g, cap, rfl, by omega, hn, fun k x hx => ?_⟩
    have := h.cells (g := g) rfl k (.int .i64 x) (by rw [intCells_get, hx]; rfl)
    rwa [addr_add] at this
theorem RdI.rd {w : World} {v : Value} {L : List Int} (h : RdI w v L) : Rd w v L.length (intCells L) := by
  rcases h with ⟨rfl, rfl⟩ | ⟨g, c, rfl, hm, hlc, hc⟩
  · exact ⟨rfl, by simp, none, 0, rfl, fun h => by simp at h⟩
  · refine ⟨intCells_length L, hm, _, c, rfl, fun _ => ⟨_, rfl, fun j u hu => ?_⟩⟩
    rw [intCells_get] at hu
    obtain ⟨x, hx, rfl⟩ := Option.map_eq_some_iff.1 hu
    rw [addr_add]
    exact hc j x hx
theorem RdI.len {w : World} {v : Value} {L : List Int} (h : RdI w v L) : L.length ≤ maxLen := h.rd.len.2
theorem RdI.form {w : World} {v : Value} {L : List Int} (h : RdI w v L) : ∃ A c, v = .slice A L.length c := h.rd.form
theorem RdI.kept {w w' : World} {v : Value} {L : List Int} (h : RdI w v L) (hs : ∀ g, v.ownBlock = some g → g < w.heap.size → w'.heap[g]? = w.heap[g]?) : RdI w' v L := by
  rcases h with h | ⟨g, c, rfl, hm, hlc, hc⟩
  · exact .inl h
  · refine .inr ⟨g, c, rfl, hm, hlc, fun k x hx => ?_⟩
    have h1 := hc k x hx
    have hlt := World.block_lt_of_cell? w _ h1
    rw [← h1]
    exact World.cell?_of_block (hs g rfl hlt)
theorem RdI.drewN {w : World} {v : Value} {L : List Int} (h : RdI w v L) (k : Nat) : RdI (w.drewN k) v L := h.kept fun _ _ _ => rfl
theorem RdI.drew {w : World} {v : Value} {L : List Int} (h : RdI w v L) : RdI w.drew v L := h.kept fun _ _ _ => rfl
theorem RdI.alloc {w : World} {v : Value} {L : List Int} (h : RdI w v L) (o : Obj) : RdI (w.alloc o) v L := h.kept fun g _ hl => Below.heap_alloc w o g hl
theorem RdI.below {w w' : World} {v : Value} {L : List Int} {B : Nat} (h : RdI w v L) (hb : Below B w w') (hB : ∀ g, v.ownBlock = some g → g < w.heap.size → g < B) : RdI w' v L :=
  h.kept fun g hg hl => hb.block g (hB g hg hl)
theorem RdI.call {w w' : World} {v : Value} {L : List Int} (h : RdI w v L) (hb : Below w.heap.size w w') : RdI w' v L := h.below hb fun _ _ hl => hl
theorem RdI.grown {w w' : World} {v : Value} {L : List Int} {row : Option Nat} (h : RdI w v L) (hb : w.grownBy w' row) (hr : ∀ g, v.ownBlock = some g → some g ≠ row) : RdI w' v L :=
  h.kept fun g hg hl => hb.block g hl (hr g hg)
theorem RdI.at_ {w : World} {A : Option Addr} {n c k : Nat} {L : List Int} (h : RdI w (.slice A n c) L) (hk : k < L.length) : ∃ g x, A = some ⟨g, 0, none⟩ ∧ L[k]? = some x ∧ w.cell? ⟨g, k, none⟩ = some (.int .i64 x) := by
  rcases h with ⟨_, rfl⟩ | ⟨g, c', he, hm, hlc, hc⟩
  · simp at hk
  · injection he with e1 e2 e3
    subst e1
    exact ⟨g, L[k]'hk, rfl, List.getElem?_eq_getElem hk, hc k _ (List.getElem?_eq_getElem hk)⟩
theorem RdI.nil (w : World) : RdI w (.slice none 0 0) [] := .inl ⟨rfl, rfl⟩
theorem ownI_shape {w : World} {B n : Nat} {e : TypeId} {v : Value} {xs : List Value} (h : w.ownsRow B e 1 v n xs) : ∃ A c, v = .slice A n c := by
  rcases h.2 with ⟨rfl, rfl⟩ | ⟨g, cap, cur, rfl, _⟩
  · exact ⟨none, 0, rfl⟩
  · exact ⟨_, _, rfl⟩
theorem ownI_put {w : World} {B gq n cap : Nat} {e : TypeId} {L : List Int} (hown : w.ownsRow B e 1 (.slice (some ⟨gq, 0, none⟩) n cap) n (intCells L)) (j : Nat) (x : Int) :
    (w.setCell ⟨gq, j, none⟩ (.int .i64 x)).ownsRow B e 1 (.slice (some ⟨gq, 0, none⟩) n cap) n (intCells (L.set j x)) ∧ w.grownBy (w.setCell ⟨gq, j, none⟩ (.int .i64 x)) (some gq) := by
  obtain ⟨s0, g0⟩ := hown.stored j (.int .i64 x)
  rw [intCells_set] at s0
  exact ⟨s0, g0⟩
theorem own_of_rowIs {w : World} {g B t n : Nat} {f : Nat → Value} {L : List Int} (h : w.rowIs g t n f) (hB : B ≤ g) (hm : n ≤ maxLen) (hL : L.length = n) (hf : ∀ j x, L[j]? = some x → f j = .int .i64 x) :
    w.ownsRow B t 1 (.slice (some ⟨g, 0, none⟩) n n) n (intCells L) := by
  obtain ⟨c, hb, hs, hc⟩ := h
  refine ⟨by rw [intCells_length, hL]; omega, .inr ⟨g, n, c, rfl, hB, hb, Nat.le_refl _, hm, by omega, ?_⟩⟩
  rw [List.take_of_length_le (by rw [Array.length_toList]; omega)]
  apply List.ext_getElem?
  intro k
  rw [Array.getElem?_toList, intCells_get]
  by_cases hk : k < n
  · rw [hc k hk]
    have e : L[k]? = some (L[k]'(by omega)) := List.getElem?_eq_getElem _
    rw [e, hf k _ e]
    rfl
  · rw [Array.getElem?_eq_none (by omega), List.getElem?_eq_none (by omega)]
    rfl
theorem ownI_call {w w' : World} {B : Nat} {e : TypeId} {size : Nat} {v : Value} {n : Nat} {xs : List Value} (h : w.ownsRow B e size v n xs) (hb : Below w.heap.size w w') : w'.ownsRow B e size v n xs := own_below h hb (Nat.le_refl _)
theorem belI_call {a w w' : World} (h : Below a.heap.size a w) (hb : Below w.heap.size w w') : Below a.heap.size a w' := h.trans (hb.mono h.size)
theorem belI_box (w : World) (o : Obj) : Below w.heap.size w (w.alloc o) := (Below.refl _ _).alloc (Nat.le_refl _) _
/-- Block g holds an image (of type t): two numbers and a slice. -/
def ImAt (w : World) (g : Nat) (t : TypeId) (W H : Int) (v : Value) : Prop := w.heap[g]? = some (.cells #[.int .i64 W, .int .i64 H, v] t (0, 0))
theorem ImAt.lt {w : World} {g : Nat} {t : TypeId} {W H : Int} {v : Value} (h : ImAt w g t W H v) : g < w.heap.size := (Array.getElem?_eq_some_iff.1 h).1
theorem ImAt.cells {w : World} {g : Nat} {t : TypeId} {W H : Int} {v : Value} (h : ImAt w g t W H v) :
    w.cell? ⟨g, 0, none⟩ = some (.int .i64 W) ∧ w.cell? ⟨g, 1, none⟩ = some (.int .i64 H) ∧ w.cell? ⟨g, 2, none⟩ = some v := by
  unfold ImAt at h
  refine ⟨?_, ?_, ?_⟩ <;> simp [World.cell?, h]
theorem ImAt.frozen {w : World} {g : Nat} {t : TypeId} {W H : Int} {v : Value} (h : ImAt w g t W H v) (o : Nat) : w.frozen? ⟨g, o, none⟩ = false := by
  unfold ImAt at h; simp [World.frozen?, h]
theorem ImAt.below {w w' : World} {g B : Nat} {t : TypeId} {W H : Int} {v : Value} (h : ImAt w g t W H v) (hb : Below B w w') (hg : g < B) : ImAt w' g t W H v := (hb.block g hg).trans h
theorem ImAt.call {w w' : World} {g : Nat} {t : TypeId} {W H : Int} {v : Value} (h : ImAt w g t W H v) (hb : Below w.heap.size w w') : ImAt w' g t W H v := h.below hb h.lt
theorem ImAt.alloc {w : World} {g : Nat} {t : TypeId} {W H : Int} {v : Value} (h : ImAt w g t W H v) (o : Obj) : ImAt (w.alloc o) g t W H v := (Below.heap_alloc w o g h.lt).trans h
theorem ImAt.new (w : World) (t : TypeId) (W H : Int) (v : Value) : ImAt (w.alloc (.cells #[.int .i64 W, .int .i64 H, v] t)) w.heap.size t W H v := heap_alloc_new w _
theorem ImAt.newAt {w : World} {g : Nat} (h : w.heap.size = g) (t : TypeId) (W H : Int) (v : Value) : ImAt (w.alloc (.cells #[.int .i64 W, .int .i64 H, v] t)) g t W H v := h ▸ ImAt.new w t W H v
theorem ImAt.drew {w : World} {g : Nat} {t : TypeId} {W H : Int} {v : Value} (h : ImAt w g t W H v) : ImAt w.drew g t W H v := h
theorem ImAt.drewN {w : World} {g : Nat} {t : TypeId} {W H : Int} {v : Value} (h : ImAt w g t W H v) (n : Nat) : ImAt (w.drewN n) g t W H v := h
theorem ImAt.grown {w w' : World} {g : Nat} {t : TypeId} {W H : Int} {v : Value} {row : Option Nat} (h : ImAt w g t W H v) (hb : w.grownBy w' row) (hr : some g ≠ row) : ImAt w' g t W H v := (hb.block g h.lt hr).trans h
theorem ImAt.far {w : World} {g : Nat} {t : TypeId} {W H : Int} {v : Value} (h : ImAt w g t W H v) {p : Addr} (hp : g ≠ p.block) (u : Value) : ImAt (w.setCell p u) g t W H v := (Below.heap_setCell w p u g hp).trans h
theorem ImAt.set0 {w : World} {g : Nat} {t : TypeId} {W H : Int} {v : Value} (h : ImAt w g t W H v) (x : Int) : ImAt (w.setCell ⟨g, 0, none⟩ (.int .i64 x)) g t x H v := by
  unfold ImAt at *
  simp [World.setCell, Array.getElem?_modify, h]
theorem ImAt.set1 {w : World} {g : Nat} {t : TypeId} {W H : Int} {v : Value} (h : ImAt w g t W H v) (x : Int) : ImAt (w.setCell ⟨g, 1, none⟩ (.int .i64 x)) g t W x v := by
  unfold ImAt at *
  simp [World.setCell, Array.getElem?_modify, h]
theorem ImAt.set2 {w : World} {g : Nat} {t : TypeId} {W H : Int} {v : Value} (h : ImAt w g t W H v) (u : Value) : ImAt (w.setCell ⟨g, 2, none⟩ u) g t W H u := by
  unfold ImAt at *
  simp [World.setCell, Array.getElem?_modify, h]
theorem ImAt.set3 {w : World} {g : Nat} {t : TypeId} {W H : Int} {v : Value} (h : ImAt w g t W H v) (x y : Int) (u : Value) : ImAt (((w.setCell ⟨g, 0, none⟩ (.int .i64 x)).setCell ⟨g, 1, none⟩ (.int .i64 y)).setCell ⟨g, 2, none⟩ u) g t x y u :=
  ((h.set0 x).set1 y).set2 u
/-- What toIntS answers, its memory owned. -/
def ToIO (L : List Int) (w : World) (e : Ending) (w' : World) : Prop :=
  ∃ v, e = .returned v ∧ w'.ownsRow w.heap.size 3 1 v L.length (intCells L) ∧ Below w.heap.size w w'
set_option maxHeartbeats 1000000 in
theorem toIO (v : Value) (L : List Int) (w : World) (hm : L.length ≤ 1048576) (h : Rd w v L.length (intCells L)) : Calls Try.prog 137 #[v] w (ToIO L w) := by
  obtain ⟨A, c, rfl⟩ := h.form
  obtain ⟨n, hn⟩ : ∃ n, n = L.length := ⟨_, rfl⟩
  rw [← hn] at hm h
  have Hn := Lib.hid hn
  have H := Lib.hid h
  rw [← hn]
  have hmk := fun W => run_make_row' (P := Try.prog) 33 3 (.int .i64 0) 8 Try.underlying33 infoInt rfl .i64 .i64 n (by omega) (by omega) W
  clear h hn
  go_enter Try.func137, Try.ntmps137
  go_wp2_with fail
  go_loopw [4] (fun i wr => ∃ k : Nat, k ≤ n ∧ i = .int .i64 k ∧ wr.rowIs w.heap.size 3 n (fun j => if j < k then .int .i64 (L.getD j 0) else .int .i64 0) ∧ Below w.heap.size w wr) (fun i _ => n - (intOf i).toNat)
  case atStart => exact ⟨0, Nat.zero_le _, rfl, (World.rowIs_made _ _ _ _).congr (fun j hj => by simp), (Below.refl _ _).alloc (Nat.le_refl _) _⟩
  case round =>
    obtain ⟨k, hk, rfl, hrow, hb⟩ := hrel
    clear hmk
    have Hrow := Lib.hid hrow
    have Hb := Lib.hid hb
    clear hrow hb
    by_cases hlt : k < n
    · obtain ⟨a, x, rfl, hx, hc⟩ := (H.out.call Hb.out).int_at hlt
      have Hx := Lib.hid hx
      clear hx
      have k0 : (0 : Int) ≤ (k : Int) := by omega
      have k1 : (k : Int) < (n : Int) := by omega
      have hcl0 : wr.cell? ⟨w.heap.size, k, none⟩ = some (.int .i64 0) := by have := Hrow.out.cell hlt; simpa using this
      have hfz0 : wr.frozen? ⟨w.heap.size, k, none⟩ = false := Hrow.out.frozen k
      go_wp2_with fail
      go_roundw
      case rel =>
        refine ⟨k + 1, by omega, by go_num, ?_, Hb.out.setCell (by simp) _⟩
        refine (Hrow.out.set k _).congr fun j hj => ?_
        by_cases e : j = k
        · subst e
          rw [if_pos rfl, if_pos (by omega), List.getD_eq_getElem?_getD, Hx.out]
          rfl
        · rw [if_neg e]
          by_cases e2 : j < k
          · rw [if_pos e2, if_pos (by omega)]
          · rw [if_neg e2, if_neg (by omega)]
      case measure => simp [intOf]; omega
    · obtain rfl : k = n := by omega
      go_wp2_with fail
      go_ret
      refine ⟨_, rfl, ?_, Hb.out⟩
      rw [← Hn.out]
      refine own_of_rowIs Hrow.out (Nat.le_refl _) (by unfold maxLen; omega) Hn.out.symm fun j x hx => ?_
      have hj : j < k := by have := (List.getElem?_eq_some_iff.1 hx).1; rw [Hn.out]; exact this
      rw [if_pos hj, List.getD_eq_getElem?_getD, hx]
      rfl
/-- Numbers with which a row is marked. -/
def marksI (k n : Nat) : List Int := tabI n fun j => ((k + j : Nat) : Int)
theorem marksI_length (k n : Nat) : (marksI k n).length = n := tabI_length _ _
set_option maxHeartbeats 1000000 in
set_option maxRecDepth 10000 in
theorem markIS (B : Nat) (e : TypeId) (v : Value) (L : List Int) (k0 : Nat) (w : World) (hm : k0 + L.length ≤ 1000000000) (hown : w.ownsRow B e 1 v L.length (intCells L)) :
    Calls Try.prog 92 #[v, .int .i64 k0] w fun ed w' => ed = .returned (.int .i64 ((k0 + L.length : Nat) : Int)) ∧ w'.ownsRow B e 1 v L.length (intCells (marksI k0 L.length)) ∧ w.grownBy w' v.ownBlock := by
  obtain ⟨A, c, rfl⟩ := ownI_shape hown
  obtain ⟨n, hn⟩ : ∃ n, n = L.length := ⟨_, rfl⟩
  rw [← hn] at hm hown ⊢
  have Hn := Lib.hid hn
  have Hown0 := Lib.hid hown
  clear hn hown
  go_enter Try.func92, Try.ntmps92
  go_wp2_with fail
  go_loopw [1, 5] (fun s1 i wr => ∃ (k : Nat) (t : Int), k ≤ n ∧ i = .int .i64 k ∧ s1 = .int .i64 t ∧ Hid (t = ((k0 + k : Nat) : Int)) ∧ wr.ownsRow B e 1 (.slice A n c) n (intCells (tabI n (fun j => if j < k then ((k0 + j : Nat) : Int) else L.getD j 0))) ∧ w.grownBy wr (Value.slice A n c).ownBlock) (fun _ i _ => n - (intOf i).toNat)
  case atStart => exact ⟨0, k0, Nat.zero_le _, rfl, rfl, Lib.hid (by simp), by have := Hown0.out; rw [tabI_self L, ← Hn.out] at this; simpa using this, World.grownBy.refl _ _⟩
  case round =>
    obtain ⟨k, t, hk, rfl, rfl, Ht, hown, hgr⟩ := hrel
    have ht0 : 0 ≤ t := by have := Ht.out; omega
    have ht1 : t ≤ 5000000000 := by have := Ht.out; omega
    by_cases hlt : k < n
    · obtain ⟨gq, cap, hv, hgB, hgl⟩ := hown.form (by omega)
      cases hv
      have f0 := hown.frozenAt k
      have c0 : wr.cell? ⟨gq, k, none⟩ = some (.int .i64 (L.getD k 0)) := by
        rw [hown.cellAt k (by omega), intCells_get, tabI_get n _ k hlt, if_neg (by omega)]
        rfl
      have k0' : (0 : Int) ≤ (k : Int) := by omega
      have k1' : (k : Int) < (n : Int) := by omega
      have Hown := Lib.hid hown
      have Hgr := Lib.hid hgr
      clear hown hgr
      go_wp2_with fail
      go_roundw
      case rel =>
        obtain ⟨p1, p2⟩ := ownI_put Hown.out k t
        refine ⟨k + 1, _, by omega, by go_num, rfl, Lib.hid (by have := Ht.out; omega), ?_, Hgr.out.trans p2⟩
        rw [tabI_set] at p1
        rw [tabI_congr n (g := fun j => if j = k then t else if j < k then ((k0 + j : Nat) : Int) else L.getD j 0)]
        · exact p1
        · intro j hj
          by_cases e : j = k
          · subst e; rw [if_pos rfl, if_pos (by omega), Ht.out]
          · rw [if_neg e]
            by_cases e2 : j < k
            · rw [if_pos e2, if_pos (by omega)]
            · rw [if_neg e2, if_neg (by omega)]
      case measure => simp [intOf]; omega
    · obtain rfl : k = n := by omega
      have hown2 : wr.ownsRow B e 1 (.slice A k c) k (intCells (marksI k0 k)) := by
        have h := hown
        rw [tabI_congr k (g := fun j => ((k0 + j : Nat) : Int)) (fun j hj => if_pos hj)] at h
        exact h
      have Hown2 := Lib.hid hown2
      clear hown hown2
      go_wp2_with fail
      go_ret
      exact ⟨ret_int Ht.out, Hown2.out, hgr⟩
set_option maxHeartbeats 1000000 in
set_option maxRecDepth 10000 in
theorem heldIS (v : Value) (k0 n : Nat) (w : World) (hm : k0 + n ≤ 1000000000) (hrd : RdI w v (marksI k0 n)) :
    Calls Try.prog 95 #[v, .int .i64 k0] w fun ed w' => ed = .returned (.int .i64 ((k0 + n : Nat) : Int)) ∧ w' = w := by
  obtain ⟨A, c, rfl⟩ := hrd.form
  rw [marksI_length] at hrd ⊢
  have Hrd := Lib.hid hrd
  clear hrd
  go_enter Try.func95, Try.ntmps95
  go_wp2_with fail
  go_loopw [1, 5] (fun s1 i wr => ∃ (k : Nat) (t : Int), k ≤ n ∧ i = .int .i64 k ∧ s1 = .int .i64 t ∧ Hid (t = ((k0 + k : Nat) : Int)) ∧ wr = w) (fun _ i _ => n - (intOf i).toNat)
  case atStart => exact ⟨0, k0, Nat.zero_le _, rfl, rfl, Lib.hid (by simp), rfl⟩
  case round =>
    obtain ⟨k, t, hk, rfl, rfl, Ht, rfl⟩ := hrel
    have ht0 : 0 ≤ t := by have := Ht.out; omega
    have ht1 : t ≤ 5000000000 := by have := Ht.out; omega
    by_cases hlt : k < n
    · obtain ⟨gq, r, rfl, hr, c0⟩ := Hrd.out.at_ (k := k) (by rw [marksI_length]; exact hlt)
      unfold marksI at hr
      rw [tabI_get n _ k hlt] at hr
      injection hr with hr
      have e0 : r = t := by rw [← hr, Ht.out]
      rw [e0] at c0
      have k0' : (0 : Int) ≤ (k : Int) := by omega
      have k1' : (k : Int) < (n : Int) := by omega
      clear hr e0
      go_wp2_with fail
      go_roundw
      case rel => exact ⟨k + 1, _, by omega, by go_num, rfl, Lib.hid (by have := Ht.out; omega), by first | rfl | trivial⟩
      case measure => simp [intOf]; omega
    · obtain rfl : k = n := by omega
      go_wp2_with fail
      go_ret
      exact ⟨ret_int Ht.out, rfl⟩
theorem szIS_yes (n : Nat) (A : Option Addr) (c : Nat) (l : Int) (h : (n : Int) ≤ l) (hl : l ≤ 2097152) (w : World) :
    Calls Try.prog 132 #[.slice A n c, .int .i64 l] w fun e w' => e = .returned (.int .i64 (l - n)) ∧ w = w' := by
  have h1 : ¬ (l - (n : Int) < 0) := by omega
  go_enter Try.func132, Try.ntmps132
  go_wp2
  go_ret
  exact ⟨rfl, rfl⟩
theorem szIS_no (n : Nat) (A : Option Addr) (c : Nat) (hn : n ≤ maxLen) (l : Int) (h0 : 0 ≤ l) (h : l < (n : Int)) (w : World) :
    Calls Try.prog 132 #[.slice A n c, .int .i64 l] w fun e w' => e = .returned (.int .i64 (-1)) ∧ w = w' := by
  unfold maxLen at hn
  have h1 : l - (n : Int) < 0 := by omega
  go_enter Try.func132, Try.ntmps132
  go_wp2
  go_ret
  exact ⟨rfl, rfl⟩
end Go.Proofs.Ytfolphadhmgbiaa
