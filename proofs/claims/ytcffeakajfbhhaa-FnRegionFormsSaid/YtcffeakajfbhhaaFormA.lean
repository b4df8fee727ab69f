/- Operations of a region in a free order: an empty slice literal, append of a whole slice, the box of a region. The memory of FnRegionForms. No statement is proved here. -/
import Derived.Test.YtcffeakajfbhhaaFormM
import Derived.Test.YtcffeakajfbhhaaAppN
import Derived.Test.YtcffeakajfbhhaaRgnC
import Derived.Test.YtcffeakajfbhhaaSameR
import Derived.Great.BuildSlice
namespace Go.Proofs.Ytcffeakajfbhhaa
open Go.RowKit
theorem bx_new2 (w : World) : BxR (w.alloc (.cells #[.slice none 0 0] 26)) w.heap.size := heap_alloc_new w _
theorem zeroRg2 (w : World) : (zeroValue 26).run Try.prog w = .ok (.agg #[.slice none 0 0]) w := by kernel_rfl
theorem wp_alloc_rg2 {op : Oper} {a : Act} {w : World} {K : Act → World → Prop} {Q : Exit → Act → World → Prop} (d : Nat) (ho : op.op = .alloc 26) (hd : op.dst = some d)
    (h : ∀ b W', Below w.heap.size w W' → BxR W' b → w.heap.size ≤ b → K (a.put (some d) (.pointer (some ⟨b, 0, none⟩))) W') : op.wp Try.prog a w K Q := by
  have h1 := h w.heap.size (w.alloc (.cells #[.slice none 0 0] 26)) ((Below.refl _ _).alloc (Nat.le_refl _) _) (bx_new2 w) (Nat.le_refl _)
  have hz := zeroRg2 w
  unfold Oper.wp execOp
  simp only [ho, Instr.alloc, Sem.run_bind, hz, Result.andThen_ok, Sem.run_pure]
  rw [← hd] at h1
  exact h1
theorem own_setsep2 {w : World} {B n g : Nat} {e : TypeId} {v : Value} {xs : List Value} (h : w.ownsRow B e 4 v n xs) (hs : ∀ k, v.ownBlock = some k → k ≠ g) (u : Value) : (w.setCell ⟨g, 0, none⟩ u).ownsRow B e 4 v n xs :=
  h.kept (row := some g) (grown_setc w _ 0 u) (by
    by_cases hv : v.ownBlock = none
    · exact .inl hv
    · refine .inr fun e => ?_
      exact hs g e rfl)
theorem run_build0 (w : World) : (Instr.buildSlice 24 0 #[]).run Try.prog w = .ok (.slice (some ⟨w.heap.size, 0, none⟩) 0 0) (w.alloc (.cells #[] 31)) := by
  kernel_rfl
theorem wp_build0 {op : Oper} {a : Act} {w : World} {K : Act → World → Prop} {Q : Exit → Act → World → Prop} (d : Nat) (ho : op.op = .buildSlice 24 0 #[]) (hd : op.dst = some d)
    (h : ∀ v W', Below w.heap.size w W' → W'.ownsRow w.heap.size 31 4 v 0 [] → (∀ k, v.ownBlock = some k → k < W'.heap.size) → K (a.put (some d) v) W') : op.wp Try.prog a w K Q := by
  have h1 := h (.slice (some ⟨w.heap.size, 0, none⟩) 0 0) (w.alloc (.cells #[] 31)) ((Below.refl _ _).alloc (Nat.le_refl _) _)
    ⟨rfl, .inr ⟨w.heap.size, 0, #[], rfl, Nat.le_refl _, heap_alloc_new w _, Nat.le_refl _, by unfold maxLen; omega, rfl, rfl⟩⟩ (fun k hk => by
      have : w.heap.size = k := by simpa [Value.ownBlock] using hk
      simp; omega)
  have hz := run_build0 w
  unfold Oper.wp execOp
  simp only [ho, List.map_toArray, List.map_nil, Sem.run_bind, hz, Result.andThen_ok, Sem.run_pure]
  rw [← hd] at h1
  exact h1
theorem wp_append_row {P : Program} {o : Oper} {a : Act} {w : World} {K : Act → World → Prop} {Q : Exit → Act → World → Prop} (s x : Operand) (t : TypeId)
    (ho : o.op = .call { callee := .builtin .append, args := #[s, x], argTypes := #[t, t] })
    (base base' : Nat) (e : TypeId) (i : TypeInfo) (z : Value) (size bytes : Nat) (ht : P.underlying t = some (.slice e)) (hi : P.info? e = some i) (hz : i.zero = some z)
    (hsize : i.size = size) (hby : i.bytes = bytes) (hzs : z.cells.size = size) (hsz : 0 < size)
    (v : Value) (n : Nat) (xs : List Value) (hs : a.eval s = v) (hown : w.ownsRow base e size v n xs)
    (u : Value) (m : Nat) (news : List Value) (hx : a.eval x = u) (hu : w.ownsRow base' e size u m news) (h1 : ∀ u ∈ news, u.oneCell' = true)
    (h63 : n + m ≤ maxLen) (hbytes : (n + m) * bytes ≤ 140737488355328) (hbase : base ≤ w.heap.size)
    (h : ∀ v' w', w'.ownsRow base e size v' (n + m) (xs ++ news) → w.grownBy w' v.ownBlock → (v'.ownBlock = v.ownBlock ∨ v'.ownBlock = some w.heap.size) → K (a.put o.dst v') w') : o.wp P a w K Q := by
  rcases hu.2 with ⟨rfl, rfl⟩ | ⟨g, cap, cur, rfl, _, _, hn, _, _, _⟩
  · have hnil : news = [] := List.eq_nil_of_length_eq_zero (by have := hu.1; omega)
    subst hnil
    have hr := run_append_none w base t o.type e i size ht hi v n xs hown
    unfold Oper.wp execOp
    simp only [ho, resolve, invoke, builtin, Sem.run_bind, Sem.run_pure, Result.andThen_ok, List.map_toArray, List.map_cons, List.map_nil, hs, hx, hr]
    exact h v w (by simpa using hown) ⟨rfl, rfl, rfl, Nat.le_refl _, fun _ _ _ => rfl⟩ (.inl rfl)
  · obtain ⟨v', w', hr, h2, h3, _, h5⟩ := run_append_own_at (P := P) w base t o.type e i z size bytes ht hi hz hsize hby hzs hsz v n xs hown ⟨g, 0, none⟩ m cap news hu.1 (hu.cells rfl) h1 h63 hbytes hbase
    unfold Oper.wp execOp
    simp only [ho, resolve, invoke, builtin, Sem.run_bind, Sem.run_pure, Result.andThen_ok, List.map_toArray, List.map_cons, List.map_nil, hs, hx, hr]
    exact h v' w' h2 h3 h5
theorem BxR.grown {w w' : World} {b : Nat} {row : Option Nat} (h : BxR w b) (hg : w.grownBy w' row) (hr : some b ≠ row) : BxR w' b := (hg.block b h.lt hr).trans h
theorem own_call2 {w w' : World} {B n : Nat} {e : TypeId} {v : Value} {xs : List Value} (h : w.ownsRow B e 4 v n xs) (hb : Below w.heap.size w w') : w'.ownsRow B e 4 v n xs :=
  h.kept (row := none) ⟨hb.os, hb.tape, hb.output, hb.size, fun k hk _ => hb.block k hk⟩ (by
    by_cases hv : v.ownBlock = none
    · exact .inl hv
    · exact .inr hv)
theorem len_ok {A : List Rc} (h : okL A = true) : A.length ≤ 256 := by rw [← (okL_iff A).1 h]; exact canon_len _
/-- The two regions, their own slices known. -/
structure TwoO (w : World) (va vb : Value) (A B : List Rc) (b3 b4 : Nat) (W : World) : Prop where
  t : TwoB w va vb A B b3 b4 W
  oa : W.ownsRow w.heap.size 31 4 va A.length (rcsCells A)
  ob : W.ownsRow w.heap.size 31 4 vb B.length (rcsCells B)
theorem TwoO.call {w W W' : World} {va vb : Value} {A B : List Rc} {b3 b4 : Nat} (h : TwoO w va vb A B b3 b4 W) (k : Below W.heap.size W W') : TwoO w va vb A B b3 b4 W' :=
  ⟨h.t.call k, own_call2 h.oa k, own_call2 h.ob k⟩
theorem TwoO.cells {w W : World} {va vb : Value} {A B : List Rc} {b3 b4 : Nat} (h : TwoO w va vb A B b3 b4 W) : W.cell? ⟨b3, 0, none⟩ = some va ∧ W.cell? ⟨b4, 0, none⟩ = some vb := ⟨h.t.a.cell, h.t.b.cell⟩
theorem TwoO.born {w w1 : World} {va vb : Value} {A B : List Rc} (ha : w1.ownsRow w.heap.size 31 4 va A.length (rcsCells A)) (hb : w1.ownsRow w.heap.size 31 4 vb B.length (rcsCells B)) (K : Below w.heap.size w w1) :
    TwoO w va vb A B w1.heap.size (w1.heap.size + 1) ((w1.alloc (.cells #[va] 26)).alloc (.cells #[vb] 26)) :=
  ⟨TwoB.born (RdR.of_own ha) (RdR.of_own hb) K, own_call2 (own_call2 ha (below_bx _ _)) (below_bx _ _), own_call2 (own_call2 hb (below_bx _ _)) (below_bx _ _)⟩
/-- The variables of FnRegionForms behind its first half. -/
structure FrmB (w : World) (va vb vu vc vd : Value) (A B U C D : List Rc) (b3 b4 b5 b6 b7 : Nat) (W : World) : Prop where
  a : BR W b3 va A
  b : BR W b4 vb B
  u : BR W b5 vu U
  c : BR W b6 vc C
  d : BR W b7 vd D
  bw : Below w.heap.size w W
theorem FrmB.call {w W W' : World} {va vb vu vc vd : Value} {A B U C D : List Rc} {b3 b4 b5 b6 b7 : Nat} (h : FrmB w va vb vu vc vd A B U C D b3 b4 b5 b6 b7 W) (k : Below W.heap.size W W') : FrmB w va vb vu vc vd A B U C D b3 b4 b5 b6 b7 W' :=
  ⟨h.a.call k, h.b.call k, h.u.call k, h.c.call k, h.d.call k, below_call h.bw k⟩
theorem FrmB.drew {w W : World} {va vb vu vc vd : Value} {A B U C D : List Rc} {b3 b4 b5 b6 b7 : Nat} (h : FrmB w va vb vu vc vd A B U C D b3 b4 b5 b6 b7 W) : FrmB w va vb vu vc vd A B U C D b3 b4 b5 b6 b7 W.drew :=
  ⟨h.a.drew, h.b.drew, h.u.drew, h.c.drew, h.d.drew, h.bw.drew⟩
theorem FrmB.cells {w W : World} {va vb vu vc vd : Value} {A B U C D : List Rc} {b3 b4 b5 b6 b7 : Nat} (h : FrmB w va vb vu vc vd A B U C D b3 b4 b5 b6 b7 W) :
    W.cell? ⟨b3, 0, none⟩ = some va ∧ W.cell? ⟨b4, 0, none⟩ = some vb ∧ W.cell? ⟨b5, 0, none⟩ = some vu ∧ W.cell? ⟨b6, 0, none⟩ = some vc ∧ W.cell? ⟨b7, 0, none⟩ = some vd :=
  ⟨h.a.cell, h.b.cell, h.u.cell, h.c.cell, h.d.cell⟩
/-- sameRects of two slices that read one list. -/
theorem sameT (v u : Value) (L : List Rc) (w : World) (hv : RdR w v L) (hu : RdR w u L) : Calls Try.prog 24 #[v, u] w fun e w' => e = .returned (.bool true) ∧ Below w.heap.size w w' := by
  refine (sameR v u L L w hv hu).mono ?_
  rintro e w' ⟨he, q, rfl⟩
  rw [sameL_yes rfl] at he
  exact ⟨he, below_drewN (Below.refl _ _) q⟩
end Go.Proofs.Ytcffeakajfbhhaa
