/- The laws' helpers over lists of surfaces and of edits: copies, comparisons, marks. No statement is proved here. -/
import Derived.Test.YtfolphadhmgbiaaMA
import Derived.Test.YtfolphadhmgbiaaImR
import Derived.Test.YtfolphadhmgbiaaRep
import Derived.Test.YtfolphadhmgbiaaVar
import Derived.Test.YtfolphadhmgbiaaOriC
import Derived.Test.YtfolphadhmgbiaaSfI
import Derived.Test.YtfolphadhmgbiaaProg
import Derived.WalkKit
import Derived.ProofKit
import Derived.OpenShut
import Derived.WalkLawsBesides
import Derived.WalkSpells
import Derived.ShutString
import Derived.ChangeOld
import Derived.Below
import Derived.Lib.Hide
import Derived.BigQuiet
import Derived.Deep.QuietTactic
import Derived.Maps.AppendAt
import Derived.Deep.OwnRows
import Derived.Handy
import Derived.Deep.Draws
import Derived.OwnWalk
import Derived.Deep.AppendLies
import Derived.Deep.LoopGhost
import Derived.Deep.Onto
import Derived.Deep.MidRow
import Derived.Deep.WholeRow
import Derived.Laws.BitsAllLaws
import Derived.Lib.QuoteBits
import Derived.Deep.RegionHeld3
import Derived.Deep.DeepCutAuto
import Derived.Test.YtfolphadhmgbiaaShelf
import Derived.Laws.CopyOwn
import Derived.Deep.RegionLaw
import Derived.Great.BuildSlice
namespace Go.Proofs.Ytfolphadhmgbiaa
open Go.RowKit
/-- A list of structs that lies in a row of its own, row by row. -/
structure SlU {α : Type} (E : Rep α) (e : TypeId) (s : Nat) (w : World) (L : List α) (g c n : Nat) (xs : List (List Value)) (bss : List (List Nat)) : Prop where
  rr : rowsR E w L xs bss
  ls : ∀ x ∈ xs, x.length = s
  ow : w.ownsRow 0 e s (.slice (some ⟨g, 0, none⟩) n c) n xs.flatten
  hn : n = L.length
section
variable {α : Type} {E : Rep α} {e : TypeId} {s : Nat} {w w' : World} {L : List α} {g c n : Nat} {xs : List (List Value)} {bss : List (List Nat)}
theorem SlU.lt (h : SlU E e s w L g c n xs bss) : g < w.heap.size := (own_ltB h.ow g (by simp [Value.ownBlock])).2
theorem SlU.call (h : SlU E e s w L g c n xs bss) (hb : Below w.heap.size w w') : SlU E e s w' L g c n xs bss :=
  ⟨rowsR_keep h.rr fun b hb' => hb.block b (rowsR_ex h.rr b hb'), h.ls, own_keepB h.ow fun b hb' => hb.block b (own_ltB h.ow b hb').2, h.hn⟩
theorem SlU.at_ (h : SlU E e s w L g c n xs bss) {k : Nat} (hk : k < n) : ∃ a x b, L[k]? = some a ∧ xs[k]? = some x ∧ bss[k]? = some b ∧ x.length = s ∧ E.R w a x b ∧ ∀ j u, x[j]? = some u → w.cell? ⟨g, k * s + j, none⟩ = some u := by
  have hL := List.getElem?_eq_getElem (show k < L.length by rw [← h.hn]; exact hk)
  obtain ⟨x, b, hx, hb, hR⟩ := rowsR_at h.rr k _ hL
  have hl := h.ls x (List.mem_of_getElem? hx)
  refine ⟨_, x, b, hL, hx, hb, hl, hR, fun j u hu => ?_⟩
  have hj : j < s := by have := (List.getElem?_eq_some_iff.1 hu).1; omega
  exact own_cellI h.ow (by rw [flat_at h.ls k j hx hj]; exact hu)
theorem SlU.frozen (h : SlU E e s w L g c n xs bss) (j : Nat) : w.frozen? ⟨g, j, none⟩ = false := h.ow.frozenAt j
theorem SlU.rep (h : SlU E e s w L g c n xs bss) : (repSl E e s).R w L [.slice (some ⟨g, 0, none⟩) n c] (g :: bss.flatten) := ⟨_, xs, bss, rfl, h.rr, h.ls, by rw [← h.hn]; exact h.ow, by simp [Value.ownBlock]⟩
theorem SlU.of_rep {v : Value} {bs : List Nat} (h : (repSl E e s).R w L [v] bs) : (v = .slice none 0 0 ∧ L = [] ∧ bs = []) ∨ ∃ g c xs bss, v = .slice (some ⟨g, 0, none⟩) L.length c ∧ SlU E e s w L g c L.length xs bss ∧ bs = g :: bss.flatten := by
  obtain ⟨v', xs, bss, he, hr, hs, ho, rfl⟩ := h
  obtain rfl : v = v' := by simpa using he
  rcases ho.2 with ⟨rfl, h0⟩ | ⟨g, cap, cur, rfl, _⟩
  · have hL : L = [] := List.eq_nil_of_length_eq_zero h0
    subst hL
    have := (rowsR_len hr).2
    obtain rfl : bss = [] := List.eq_nil_of_length_eq_zero this
    exact .inl ⟨rfl, rfl, rfl⟩
  · exact .inr ⟨g, cap, xs, bss, rfl, ⟨hr, hs, ho, rfl⟩, by simp [Value.ownBlock]⟩
/-- One cell of row k is written. -/
theorem own_setK {xs : List (List Value)} (ls : ∀ x ∈ xs, x.length = s) (ow : w.ownsRow 0 e s (.slice (some ⟨g, 0, none⟩) n c) n xs.flatten) {k j : Nat} {x : List Value} (hx : xs[k]? = some x) (hj : j < s) (v : Value) :
    (∀ y ∈ xs.set k (x.set j v), y.length = s) ∧ (w.setCell ⟨g, k * s + j, none⟩ v).ownsRow 0 e s (.slice (some ⟨g, 0, none⟩) n c) n (xs.set k (x.set j v)).flatten ∧ w.grownBy (w.setCell ⟨g, k * s + j, none⟩ v) (some g) := by
  obtain ⟨p1, p2⟩ := ow.stored (k * s + j) v
  rw [flat_set ls k j hx v hj] at p1
  refine ⟨fun y hy => ?_, p1, p2⟩
  rcases List.mem_or_eq_of_mem_set hy with h | rfl
  · exact ls y h
  · rw [List.length_set]; exact ls x (List.mem_of_getElem? hx)
end
/-- Several cells of row k are written, one behind the other. -/
structure SetK (e : TypeId) (s : Nat) (w w' : World) (g c n k : Nat) (xs : List (List Value)) (x' : List Value) : Prop where
  ls : ∀ y ∈ xs.set k x', y.length = s
  ow : w'.ownsRow 0 e s (.slice (some ⟨g, 0, none⟩) n c) n (xs.set k x').flatten
  gr : w.grownBy w' (some g)
theorem SetK.put {e : TypeId} {s : Nat} {w w' : World} {g c n k : Nat} {xs : List (List Value)} {x' y : List Value} (h : SetK e s w w' g c n k xs x') (hk : k < xs.length) (j : Nat) (hj : j < s) (v : Value) (hv : x'.set j v = y) : SetK e s w (w'.setCell ⟨g, k * s + j, none⟩ v) g c n k xs y := by
  obtain ⟨p1, p2, p3⟩ := own_setK h.ls h.ow (k := k) (j := j) (x := x') (by rw [List.getElem?_set_self hk]) hj v
  rw [List.set_set, hv] at p1 p2
  exact ⟨p1, p2, h.gr.trans p3⟩
theorem SetK.zero {α : Type} {E : Rep α} {e : TypeId} {s : Nat} {w : World} {L : List α} {g c n k : Nat} {xs : List (List Value)} {bss : List (List Nat)} {x : List Value} (h : SlU E e s w L g c n xs bss) (hx : xs[k]? = some x) : SetK e s w w g c n k xs x := by
  have hs : xs.set k x = xs := by
    apply List.ext_getElem?
    intro j
    by_cases e : j = k
    · subst e; rw [List.getElem?_set_self (List.getElem?_eq_some_iff.1 hx).1, hx]
    · rw [List.getElem?_set_ne (Ne.symm e)]
  exact ⟨by rw [hs]; exact h.ls, by rw [hs]; exact h.ow, World.grownBy.refl _ _⟩
/-- The list behind a row that was written. -/
theorem SlU.upd {α : Type} {E : Rep α} {e : TypeId} {s : Nat} {w w' : World} {L : List α} {g c n k : Nat} {xs : List (List Value)} {bss : List (List Nat)} {a' : α} {x' : List Value} {b' : List Nat} (h : SlU E e s w L g c n xs bss) (hk : k < n)
    (ow : w'.ownsRow 0 e s (.slice (some ⟨g, 0, none⟩) n c) n (xs.set k x').flatten) (ls : ∀ y ∈ xs.set k x', y.length = s) (hR : E.R w' a' x' b')
    (hn : ∀ (j : Nat) (d : List Nat), j ≠ k → bss[j]? = some d → ∀ b ∈ d, w'.heap[b]? = w.heap[b]?) : SlU E e s w' (L.set k a') g c n (xs.set k x') (bss.set k b') :=
  ⟨rowsR_upd h.rr k (by rw [← h.hn]; exact hk) hR hn, ls, ow, by rw [List.length_set]; exact h.hn⟩
theorem SlU.nodup {α : Type} {E : Rep α} {e : TypeId} {s : Nat} {B : Nat} {w : World} {L : List α} {g c n : Nat} {xs : List (List Value)} {bss : List (List Nat)} (_ : SlU E e s w L g c n xs bss) {v : Value} (ho : (repSl E e s).Own B w L [v] (g :: bss.flatten)) : g ∉ bss.flatten ∧ bss.flatten.Nodup ∧ B ≤ g ∧ ∀ b ∈ bss.flatten, B ≤ b :=
  ⟨(List.nodup_cons.1 ho.nd).1, (List.nodup_cons.1 ho.nd).2, ho.lo g (by simp), fun b hb => ho.lo b (by simp [hb])⟩
theorem SlU.own {α : Type} {E : Rep α} {e : TypeId} {s : Nat} {B : Nat} {w : World} {L : List α} {g c n : Nat} {xs : List (List Value)} {bss : List (List Nat)} (h : SlU E e s w L g c n xs bss) (h1 : g ∉ bss.flatten) (h2 : bss.flatten.Nodup) (h3 : B ≤ g) (h4 : ∀ b ∈ bss.flatten, B ≤ b) : (repSl E e s).Own B w L [.slice (some ⟨g, 0, none⟩) n c] (g :: bss.flatten) :=
  ⟨h.rep, List.nodup_cons.2 ⟨h1, h2⟩, fun b hb => by rcases List.mem_cons.1 hb with rfl | hb; exact h3; exact h4 b hb⟩
theorem flat_mem {bss : List (List Nat)} {k : Nat} {d : List Nat} (h : bss[k]? = some d) {b : Nat} (hb : b ∈ d) : b ∈ bss.flatten := List.mem_flatten.2 ⟨d, List.mem_of_getElem? h, hb⟩
theorem set_same {bss : List (List Nat)} {k : Nat} {d : List Nat} (h : bss[k]? = some d) : bss.set k d = bss := by
  apply List.ext_getElem?
  intro j
  by_cases e : j = k
  · subst e; rw [List.getElem?_set_self (List.getElem?_eq_some_iff.1 h).1, h]
  · rw [List.getElem?_set_ne (Ne.symm e)]
end Go.Proofs.Ytfolphadhmgbiaa
