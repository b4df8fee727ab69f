/- Slices that are read: a slice value whose first n cells (each one element) are known. No statement is proved here. -/
import Derived.Test.YtflehkbalnikiaaProg
import Derived.WalkKit
import Derived.ProofKit
import Derived.OpenShut
import Derived.WalkLawsBesides
import Derived.WalkSpells
import Derived.ShutString
import Derived.ChangeOld
import Derived.Below
import Derived.Lib.Hide
import Derived.BigQuiet
import Derived.Deep.QuietTactic
import Derived.Maps.AppendAt
namespace Go.Proofs.Ytflehkbalnikiaa
open Go.RowKit
theorem add_block (a : Addr) (n : Nat) : (a.add n).block = a.block := by unfold Addr.add; split <;> rfl
/-- The slice v has n elements of one cell each; they hold xs. -/
def Rd (w : World) (v : Value) (n : Nat) (xs : List Value) : Prop :=
  xs.length = n ∧ n ≤ maxLen ∧ ∃ A c, v = .slice A n c ∧ (0 < n → ∃ a, A = some a ∧ ∀ j u, xs[j]? = some u → w.cell? (a.add j) = some u)
theorem Rd.of_own {w : World} {B : Nat} {e : TypeId} {v : Value} {n : Nat} {xs : List Value} (h : w.ownsRow B e 1 v n xs) : Rd w v n xs := by
  have hl : xs.length = n := by have := h.1; omega
  rcases h.2 with ⟨rfl, rfl⟩ | ⟨g, cap, cur, rfl, hg, hh, hn, hc, hs, ht⟩
  · exact ⟨hl, by unfold maxLen; omega, none, 0, rfl, fun h0 => by omega⟩
  · exact ⟨hl, by omega, _, _, rfl, fun h0 => ⟨_, rfl, fun j u hu => h.cells (g := g) rfl j u hu⟩⟩
theorem Rd.form {w : World} {v : Value} {n : Nat} {xs : List Value} (h : Rd w v n xs) : ∃ A c, v = .slice A n c := by
  obtain ⟨_, _, A, c, rfl, _⟩ := h; exact ⟨A, c, rfl⟩
/-- A reading stands while the slice's block stands. -/
theorem Rd.kept {w w' : World} {v : Value} {n : Nat} {xs : List Value} (h : Rd w v n xs) (hs : ∀ g, v.ownBlock = some g → g < w.heap.size → w'.heap[g]? = w.heap[g]?) : Rd w' v n xs := by
  obtain ⟨hl, hm, A, c, rfl, hc⟩ := h
  refine ⟨hl, hm, A, c, rfl, fun h0 => ?_⟩
  obtain ⟨a, rfl, hd⟩ := hc h0
  refine ⟨a, rfl, fun j u hu => ?_⟩
  have h1 := hd j u hu
  have hlt := World.block_lt_of_cell? w _ h1
  rw [add_block] at hlt
  rw [← h1]
  exact World.cell?_of_block (by rw [add_block]; exact hs a.block rfl hlt)
theorem Rd.drewN {w : World} {v : Value} {n : Nat} {xs : List Value} (h : Rd w v n xs) (k : Nat) : Rd (w.drewN k) v n xs := h
theorem Rd.below {w w' : World} {v : Value} {n B : Nat} {xs : List Value} (h : Rd w v n xs) (hb : Below B w w') (hB : ∀ g, v.ownBlock = some g → g < w.heap.size → g < B) : Rd w' v n xs :=
  h.kept fun g hg hl => hb.block g (hB g hg hl)
theorem Rd.grown {w w' : World} {v : Value} {n : Nat} {row : Option Nat} {xs : List Value} (h : Rd w v n xs) (hb : w.grownBy w' row) (hr : ∀ g, v.ownBlock = some g → some g ≠ row) : Rd w' v n xs :=
  h.kept fun g hg hl => hb.block g hl (hr g hg)
/-- The cell of element k. -/
theorem Rd.at_ {w : World} {A : Option Addr} {c n k : Nat} {xs : List Value} (h : Rd w (.slice A n c) n xs) (hk : k < n) : ∃ a u, A = some a ∧ xs[k]? = some u ∧ w.cell? (a.add k) = some u := by
  obtain ⟨hl, hm, A', c', he, hc⟩ := h
  injection he with e1 e2 e3
  subst e1
  obtain ⟨a, rfl, hd⟩ := hc (by omega)
  exact ⟨a, xs[k]'(by omega), rfl, List.getElem?_eq_getElem _, hd k _ (List.getElem?_eq_getElem _)⟩
theorem Rd.len {w : World} {v : Value} {n : Nat} {xs : List Value} (h : Rd w v n xs) : xs.length = n ∧ n ≤ maxLen := ⟨h.1, h.2.1⟩
end Go.Proofs.Ytflehkbalnikiaa
