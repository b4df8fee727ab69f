/- What the exact laws of regions keep in memory: two answers, their variables. No statement is proved here. -/
import Derived.Test.YtcffeakajfbhhaaToR
import Derived.Test.YtcffeakajfbhhaaRok
import Derived.Test.YtcffeakajfbhhaaMarkR
namespace Go.Proofs.Ytcffeakajfbhhaa
open Go.RowKit
/-- Block b is a variable of one cell. -/
def BxAt (w : World) (b : Nat) (u : Value) : Prop := w.heap[b]? = some (.cells #[u] 26 (0, 0))
theorem BxAt.lt {w : World} {b : Nat} {u : Value} (h : BxAt w b u) : b < w.heap.size := (Array.getElem?_eq_some_iff.1 h).1
theorem BxAt.cell {w : World} {b : Nat} {u : Value} (h : BxAt w b u) : w.cell? ⟨b, 0, none⟩ = some u := by rw [cell_of_row _ _ _ _ _ _ h]; rfl
theorem BxAt.call {w w' : World} {b : Nat} {u : Value} (h : BxAt w b u) (hb : Below w.heap.size w w') : BxAt w' b u := (hb.block b h.lt).trans h
theorem BxAt.new (w : World) (u : Value) : BxAt (w.alloc (.cells #[u] 26)) w.heap.size u := heap_alloc_new w _
theorem BxAt.grown {w w' : World} {b : Nat} {u : Value} {row : Option Nat} (h : BxAt w b u) (hg : w.grownBy w' row) (hr : some b ≠ row) : BxAt w' b u := (hg.block b h.lt hr).trans h
theorem own_call {w w' : World} {B : Nat} {e : TypeId} {size : Nat} {v : Value} {n : Nat} {xs : List Value} (h : w.ownsRow B e size v n xs) (hb : Below w.heap.size w w') : w'.ownsRow B e size v n xs := own_below h hb (Nat.le_refl _)
theorem LdR.ofBelow {w w' : World} {v : Value} {L : List Rc} (h : LdR w v L) (hb : Below w.heap.size w w') : LdR w' v L := h.call hb
theorem below_box (w : World) (u : Value) : Below w.heap.size w (w.alloc (.cells #[u] 26)) := (Below.refl _ _).alloc (Nat.le_refl _) _
/-- The answer of the program (content G) and that of the model (content R), each in a variable. -/
structure TwoR (w : World) (G R : List Rc) (vg vr : Value) (bg br : Nat) (W : World) : Prop where
  bw : Below w.heap.size w W
  g : W.ownsRow w.heap.size 31 4 vg G.length (rcsCells G)
  r : W.ownsRow w.heap.size 31 4 vr R.length (rcsCells R)
  xg : BxAt W bg vg
  xr : BxAt W br vr
  sep : ∀ k, vg.ownBlock = some k → k ≠ bg ∧ k ≠ br ∧ vr.ownBlock ≠ some k
theorem TwoR.call {w W W' : World} {G R : List Rc} {vg vr : Value} {bg br : Nat} (h : TwoR w G R vg vr bg br W) (hb : Below W.heap.size W W') : TwoR w G R vg vr bg br W' :=
  ⟨below_call h.bw hb, own_call h.g hb, own_call h.r hb, h.xg.call hb, h.xr.call hb, h.sep⟩
theorem TwoR.rg {w W : World} {G R : List Rc} {vg vr : Value} {bg br : Nat} (h : TwoR w G R vg vr bg br W) : RdR W vg G := RdR.of_own h.g
theorem TwoR.rr {w W : World} {G R : List Rc} {vg vr : Value} {bg br : Nat} (h : TwoR w G R vg vr bg br W) : RdR W vr R := RdR.of_own h.r
theorem TwoR.other {w W W' : World} {G R : List Rc} {vg vr vx : Value} {bg br : Nat} (h : TwoR w G R vg vr bg br W) (hg : W.grownBy W' vx.ownBlock)
    (hx : ∀ k, vx.ownBlock = some k → w.heap.size ≤ k ∧ k ≠ bg ∧ k ≠ br ∧ vg.ownBlock ≠ some k ∧ vr.ownBlock ≠ some k) : TwoR w G R vg vr bg br W' := by
  have hn : ∀ u : Value, (∀ k, vx.ownBlock = some k → u.ownBlock ≠ some k) → u.ownBlock = none ∨ u.ownBlock ≠ vx.ownBlock := fun u hu => by
    by_cases hv : u.ownBlock = none
    · exact .inl hv
    · refine .inr fun e => ?_
      obtain ⟨k, hk⟩ := Option.ne_none_iff_exists'.1 hv
      exact hu k (by rw [← e]; exact hk) hk
  refine ⟨h.bw.grown hg h.bw.size (fun k hk => (hx k hk).1), h.g.kept hg (hn _ fun k hk => (hx k hk).2.2.2.1), h.r.kept hg (hn _ fun k hk => (hx k hk).2.2.2.2), h.xg.grown hg (fun e => (hx _ e.symm).2.1 rfl), h.xr.grown hg (fun e => (hx _ e.symm).2.2.1 rfl), h.sep⟩
theorem TwoR.mark {w W W' : World} {G G' R : List Rc} {vg vr : Value} {bg br : Nat} (h : TwoR w G R vg vr bg br W) (hown : W'.ownsRow w.heap.size 31 4 vg G'.length (rcsCells G')) (hg : W.grownBy W' vg.ownBlock) :
    TwoR w G' R vg vr bg br W' := by
  refine ⟨h.bw.grown hg h.bw.size (fun k hk => (h.g.lt k hk).1), hown, h.r.kept hg ?_, h.xg.grown hg (fun e => (h.sep _ e.symm).1 rfl), h.xr.grown hg (fun e => (h.sep _ e.symm).2.1 rfl), h.sep⟩
  by_cases hv : vr.ownBlock = none
  · exact .inl hv
  · refine .inr fun e => ?_
    obtain ⟨k, hk⟩ := Option.ne_none_iff_exists'.1 hv
    exact (h.sep k (by rw [← e]; exact hk)).2.2 hk
theorem apart3 {w w2 w3 w4 : World} {vx vg vr : Value} (h2 : w.heap.size ≤ w2.heap.size) (h4 : w3.heap.size ≤ w4.heap.size) (hr : ∀ k, vr.ownBlock = some k → k < w2.heap.size)
    (hx : ∀ k, vx.ownBlock = some k → w2.heap.size + 1 ≤ k ∧ k < w3.heap.size) (hg : ∀ k, vg.ownBlock = some k → w3.heap.size ≤ k) :
    ∀ k, vx.ownBlock = some k → w.heap.size ≤ k ∧ k ≠ w4.heap.size ∧ k ≠ w2.heap.size ∧ vg.ownBlock ≠ some k ∧ vr.ownBlock ≠ some k := fun k hk => by
  have h1 := hx k hk
  refine ⟨by omega, by omega, by omega, fun e => ?_, fun e => ?_⟩
  · have := hg k e; omega
  · have := hr k e; omega
theorem TwoR.born {w W2 W3 W4 : World} {G R : List Rc} {vg vr : Value} (hb : Below w.heap.size w W2) (hr : W2.ownsRow w.heap.size 31 4 vr R.length (rcsCells R))
    (h3 : Below (W2.alloc (.cells #[vr] 26)).heap.size (W2.alloc (.cells #[vr] 26)) W3) (h4 : Below W3.heap.size W3 W4) (hg : W4.ownsRow W3.heap.size 31 4 vg G.length (rcsCells G)) :
    TwoR w G R vg vr W4.heap.size W2.heap.size (W4.alloc (.cells #[vg] 26)) := by
  have k1 := below_call (below_call (below_call (below_box W2 vr) h3) h4) (below_box W4 vg)
  have s3 := h3.size
  simp at s3
  have s2 := hb.size
  have s4 := h4.size
  refine ⟨below_call hb k1, (hg.mono (by omega)).alloc _, own_call hr k1, BxAt.new _ _, ((BxAt.new W2 vr).call (below_call h3 h4)).call (below_box _ _), fun k hk => ?_⟩
  have h1 := hg.lt k hk
  refine ⟨by omega, by omega, fun e => ?_⟩
  have := hr.lt k e
  omega

theorem below_undrew {w w' : World} (h : Below w.drew.heap.size w.drew w') : Below w.heap.size w w' := ((Below.refl w.heap.size w).drew).trans h
theorem below_drew (w : World) : Below w.heap.size w w.drew := (Below.refl _ _).drew
/-- Block b is a variable of the laws' own region. -/
def LxAt (w : World) (b : Nat) (u : Value) : Prop := w.heap[b]? = some (.cells #[u] 48 (0, 0))
theorem LxAt.lt {w : World} {b : Nat} {u : Value} (h : LxAt w b u) : b < w.heap.size := (Array.getElem?_eq_some_iff.1 h).1
theorem LxAt.cell {w : World} {b : Nat} {u : Value} (h : LxAt w b u) : w.cell? ⟨b, 0, none⟩ = some u := by rw [cell_of_row _ _ _ _ _ _ h]; rfl
theorem LxAt.call {w w' : World} {b : Nat} {u : Value} (h : LxAt w b u) (hb : Below w.heap.size w w') : LxAt w' b u := (hb.block b h.lt).trans h
theorem LxAt.new (w : World) (u : Value) : LxAt (w.alloc (.cells #[u] 48)) w.heap.size u := heap_alloc_new w _
theorem below_lx (w : World) (u : Value) : Below w.heap.size w (w.alloc (.cells #[u] 48)) := (Below.refl _ _).alloc (Nat.le_refl _) _
end Go.Proofs.Ytcffeakajfbhhaa
