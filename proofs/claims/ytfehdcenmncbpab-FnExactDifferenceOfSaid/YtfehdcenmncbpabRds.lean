/- Slices of rectangles: their cells, what a slice reads. No statement is proved here. -/
import Derived.Test.YtfehdcenmncbpabRd
import Derived.Test.YtfehdcenmncbpabRectC
import Derived.Test.YtfehdcenmncbpabBlk4
import Derived.Test.YtfehdcenmncbpabProg
import Derived.WalkKit
import Derived.ProofKit
import Derived.OpenShut
import Derived.WalkLawsBesides
import Derived.WalkSpells
import Derived.ShutString
import Derived.ChangeOld
import Derived.Below
import Derived.Lib.Hide
import Derived.BigQuiet
import Derived.Deep.QuietTactic
import Derived.Maps.AppendAt
import Derived.Deep.Draws
namespace Go.Proofs.Ytfehdcenmncbpab
open Go.RowKit
theorem RcAt.cells4 {w : World} {g : Nat} {x y u v : Int} (h : RcAt w g ⟨x, y, u, v⟩) :
    w.cell? ⟨g, 0, none⟩ = some (.int .i64 x) ∧ w.cell? ⟨g, 1, none⟩ = some (.int .i64 y) ∧ w.cell? ⟨g, 2, none⟩ = some (.int .i64 u) ∧ w.cell? ⟨g, 3, none⟩ = some (.int .i64 v) := h.cells
theorem new_cell (w : World) (v : Value) (t : TypeId) : (w.alloc (.cells #[v] t)).cell? ⟨w.heap.size, 0, none⟩ = some v := by
  rw [cell_of_row _ _ _ _ _ _ (heap_alloc_new w _)]; rfl
def rcCells (r : Rc) : List Value := [.int .i64 r.x, .int .i64 r.y, .int .i64 r.w, .int .i64 r.h]
def rcsCells (L : List Rc) : List Value := L.flatMap rcCells
theorem rcsCells_length (L : List Rc) : (rcsCells L).length = L.length * 4 := by
  induction L with
  | nil => rfl
  | cons r L ih => rw [rcsCells, List.flatMap_cons, List.length_append, List.length_cons]; rw [rcsCells] at ih; rw [ih]; simp [rcCells]; omega
theorem rcsCells_append (L M : List Rc) : rcsCells (L ++ M) = rcsCells L ++ rcsCells M := by simp [rcsCells]
theorem rcsCells_nil : rcsCells [] = [] := rfl
theorem rcsCells_one (r : Rc) : rcsCells [r] = rcCells r := by simp [rcsCells]
theorem rcs_get (L : List Rc) (k j : Nat) (r : Rc) (h : L[k]? = some r) (hj : j < 4) : (rcsCells L)[k * 4 + j]? = (rcCells r)[j]? := by
  induction L generalizing k with
  | nil => simp at h
  | cons s L ih =>
    have e : rcsCells (s :: L) = rcCells s ++ rcsCells L := by simp [rcsCells]
    rw [e]
    cases k with
    | zero =>
      simp at h
      subst h
      rw [Nat.zero_mul, Nat.zero_add, List.getElem?_append_left (by simp [rcCells]; omega)]
    | succ k =>
      rw [List.getElem?_append_right (by simp [rcCells]; omega)]
      simp only [List.getElem?_cons_succ] at h
      rw [← ih k h]
      congr 1
      simp [rcCells]; omega
theorem rcs_one (L : List Rc) : ∀ v ∈ rcsCells L, v.oneCell' = true := by
  intro v hv
  simp only [rcsCells, List.mem_flatMap, rcCells] at hv
  obtain ⟨r, _, hv⟩ := hv
  simp at hv
  rcases hv with rfl | rfl | rfl | rfl <;> rfl
/-- The four cells from offset o of block g on hold r. -/
structure C4 (w : World) (g o : Nat) (r : Rc) : Prop where
  c0 : w.cell? ⟨g, o, none⟩ = some (.int .i64 r.x)
  c1 : w.cell? ⟨g, o + 1, none⟩ = some (.int .i64 r.y)
  c2 : w.cell? ⟨g, o + 2, none⟩ = some (.int .i64 r.w)
  c3 : w.cell? ⟨g, o + 3, none⟩ = some (.int .i64 r.h)
theorem C4.cells {w : World} {g o : Nat} {r : Rc} (h : C4 w g o r) :
    w.cell? ⟨g, o, none⟩ = some (.int .i64 r.x) ∧ w.cell? ⟨g, o + 1, none⟩ = some (.int .i64 r.y) ∧ w.cell? ⟨g, o + 2, none⟩ = some (.int .i64 r.w) ∧ w.cell? ⟨g, o + 3, none⟩ = some (.int .i64 r.h) := ⟨h.c0, h.c1, h.c2, h.c3⟩
theorem C4.lt {w : World} {g o : Nat} {r : Rc} (h : C4 w g o r) : g < w.heap.size := World.block_lt_of_cell? w _ h.c0
theorem C4.kept {w w' : World} {g o : Nat} {r : Rc} (h : C4 w g o r) (e : w'.heap[g]? = w.heap[g]?) : C4 w' g o r :=
  ⟨(World.cell?_of_block e).trans h.c0, (World.cell?_of_block e).trans h.c1, (World.cell?_of_block e).trans h.c2, (World.cell?_of_block e).trans h.c3⟩
theorem C4.below {w w' : World} {g o B : Nat} {r : Rc} (h : C4 w g o r) (hb : Below B w w') (hg : g < B) : C4 w' g o r := h.kept (hb.block g hg)
theorem C4.alloc {w : World} {g o : Nat} {r : Rc} (h : C4 w g o r) (x : Obj) : C4 (w.alloc x) g o r := h.kept (Below.heap_alloc w x g h.lt)
theorem C4.call {w w' : World} {g o : Nat} {r : Rc} (h : C4 w g o r) (hb : Below w.heap.size w w') : C4 w' g o r := h.below hb h.lt
theorem C4.drew {w : World} {g o : Nat} {r : Rc} (h : C4 w g o r) : C4 w.drew g o r := ⟨h.c0, h.c1, h.c2, h.c3⟩
theorem C4.far4 {w : World} {g o b : Nat} {r : Rc} (h : C4 w g o r) (hb : g ≠ b) (v0 v1 v2 v3 : Value) :
    C4 ((((w.setCell ⟨b, 0, none⟩ v0).setCell ⟨b, 1, none⟩ v1).setCell ⟨b, 2, none⟩ v2).setCell ⟨b, 3, none⟩ v3) g o r :=
  h.kept ((((Below.heap_setCell _ ⟨b, 3, none⟩ v3 g hb).trans (Below.heap_setCell _ ⟨b, 2, none⟩ v2 g hb)).trans (Below.heap_setCell _ ⟨b, 1, none⟩ v1 g hb)).trans (Below.heap_setCell _ ⟨b, 0, none⟩ v0 g hb))
/-- The slice v of rectangles reads L. -/
def RdR (w : World) (v : Value) (L : List Rc) : Prop :=
  L.length ≤ maxLen ∧ ∃ A c, v = .slice A L.length c ∧ (0 < L.length → ∃ g, A = some ⟨g, 0, none⟩ ∧ ∀ k r, L[k]? = some r → C4 w g (k * 4) r)
theorem RdR.nil (w : World) : RdR w (.slice none 0 0) [] := ⟨by simp, none, 0, rfl, fun h => by simp at h⟩
theorem RdR.form {w : World} {v : Value} {L : List Rc} (h : RdR w v L) : ∃ A c, v = .slice A L.length c := by
  obtain ⟨_, A, c, rfl, _⟩ := h; exact ⟨A, c, rfl⟩
theorem RdR.len {w : World} {v : Value} {L : List Rc} (h : RdR w v L) : L.length ≤ maxLen := h.1
theorem RdR.at_ {w : World} {A : Option Addr} {n c k : Nat} {L : List Rc} (h : RdR w (.slice A n c) L) (hk : k < L.length) : ∃ g r, A = some ⟨g, 0, none⟩ ∧ L[k]? = some r ∧ C4 w g (k * 4) r := by
  obtain ⟨_, A', c', he, hc⟩ := h
  injection he with e1 e2 e3
  subst e1
  obtain ⟨g, rfl, hd⟩ := hc (by omega)
  exact ⟨g, L[k], rfl, List.getElem?_eq_getElem _, hd k _ (List.getElem?_eq_getElem _)⟩
theorem RdR.of_own {w : World} {B : Nat} {e : TypeId} {v : Value} {n : Nat} {L : List Rc} (h : w.ownsRow B e 4 v n (rcsCells L)) : RdR w v L := by
  have hl : n = L.length := by have := h.1; rw [rcsCells_length] at this; omega
  subst hl
  rcases h.2 with ⟨rfl, h0⟩ | ⟨g, cap, cur, rfl, hg, hh, hn, hc, hs, ht⟩
  · exact ⟨by unfold maxLen; omega, none, 0, by rw [h0], fun h1 => by omega⟩
  · refine ⟨by omega, _, _, rfl, fun h0 => ⟨g, rfl, fun k r hr => ?_⟩⟩
    have hget : ∀ j, j < 4 → w.cell? ⟨g, k * 4 + j, none⟩ = (rcCells r)[j]? := fun j hj => by
      have h1 := rcs_get L k j r hr hj
      have h2 : (rcsCells L)[k * 4 + j]? = some ((rcCells r)[j]'(by simp [rcCells]; omega)) := by rw [h1]; exact List.getElem?_eq_getElem _
      have h3 := h.cells (g := g) rfl _ _ h2
      rw [show (⟨g, 0, none⟩ : Addr).add (k * 4 + j) = ⟨g, k * 4 + j, none⟩ by unfold Addr.add; split <;> simp_all] at h3
      rw [h3]; exact (List.getElem?_eq_getElem _).symm
    exact ⟨hget 0 (by omega), hget 1 (by omega), hget 2 (by omega), hget 3 (by omega)⟩
theorem RdR.kept {w w' : World} {v : Value} {L : List Rc} (h : RdR w v L) (hs : ∀ g, v.ownBlock = some g → g < w.heap.size → w'.heap[g]? = w.heap[g]?) : RdR w' v L := by
  obtain ⟨hm, A, c, rfl, hc⟩ := h
  refine ⟨hm, A, c, rfl, fun h0 => ?_⟩
  obtain ⟨g, rfl, hd⟩ := hc h0
  refine ⟨g, rfl, fun k r hr => ?_⟩
  have h1 := hd k r hr
  exact h1.kept (hs g rfl h1.lt)
theorem RdR.drewN {w : World} {v : Value} {L : List Rc} (h : RdR w v L) (k : Nat) : RdR (w.drewN k) v L := h.kept fun _ _ _ => rfl
theorem RdR.drew {w : World} {v : Value} {L : List Rc} (h : RdR w v L) : RdR w.drew v L := h.kept fun _ _ _ => rfl
theorem RdR.alloc {w : World} {v : Value} {L : List Rc} (h : RdR w v L) (o : Obj) : RdR (w.alloc o) v L := h.kept fun g _ hl => Below.heap_alloc w o g hl
theorem RdR.below {w w' : World} {v : Value} {L : List Rc} {B : Nat} (h : RdR w v L) (hb : Below B w w') (hB : ∀ g, v.ownBlock = some g → g < w.heap.size → g < B) : RdR w' v L :=
  h.kept fun g hg hl => hb.block g (hB g hg hl)
theorem RdR.call {w w' : World} {v : Value} {L : List Rc} (h : RdR w v L) (hb : Below w.heap.size w w') : RdR w' v L := h.below hb fun _ _ hl => hl
theorem RdR.grown {w w' : World} {v : Value} {L : List Rc} {row : Option Nat} (h : RdR w v L) (hb : w.grownBy w' row) (hr : ∀ g, v.ownBlock = some g → some g ≠ row) : RdR w' v L :=
  h.kept fun g hg hl => hb.block g hl (hr g hg)
end Go.Proofs.Ytfehdcenmncbpab
