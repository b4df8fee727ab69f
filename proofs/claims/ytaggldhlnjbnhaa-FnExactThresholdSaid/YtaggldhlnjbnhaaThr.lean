/- The map of the thresholds by their places: its entries in any order, what is put in and what is found. No statement is proved here. -/
import Derived.Test.YtaggldhlnjbnhaaIntR
import Derived.Test.YtaggldhlnjbnhaaImR
import Derived.Test.YtaggldhlnjbnhaaRectC
import Derived.Test.YtaggldhlnjbnhaaPixM
import Derived.Test.YtaggldhlnjbnhaaDitM
import Derived.Test.YtaggldhlnjbnhaaImV
import Derived.Test.YtaggldhlnjbnhaaBlk4
import Derived.Test.YtaggldhlnjbnhaaRectEq
import Derived.Test.YtaggldhlnjbnhaaLaw
import Derived.Test.YtaggldhlnjbnhaaProg
import Derived.WalkKit
import Derived.ProofKit
import Derived.OpenShut
import Derived.WalkLawsBesides
import Derived.WalkSpells
import Derived.ShutString
import Derived.ChangeOld
import Derived.Below
import Derived.Lib.Hide
import Derived.Laws.BitsAllLaws
import Derived.Lib.QuoteBits
import Derived.BigQuiet
import Derived.Deep.QuietTactic
import Derived.Maps.AppendAt
import Derived.Deep.OwnRows
import Derived.Handy
import Derived.Deep.Draws
import Derived.OwnWalk
import Derived.Deep.AppendLies
import Derived.Deep.LoopGhost
import Derived.Deep.Onto
import Derived.Deep.RegionHeld3
import Derived.Deep.DeepCutAuto
import Derived.Test.YtaggldhlnjbnhaaShelf
import Derived.Laws.CopyOwn
import Derived.Deep.RegionLaw
import Derived.Great.BuildSlice
import Derived.Deep.MidRow
import Derived.Deep.WholeRow
import Derived.Carry
import Derived.Maps.Own
namespace Go.Proofs.Ytaggldhlnjbnhaa
open Go.RowKit
theorem thr_mod (x y : Int) : thr (x % 2) (y % 2) = thr x y := by unfold thr; simp [Int.emod_emod_of_dvd]
/-- The places of a square. -/
def sqP (p : Int × Int) : Prop := (p.1 = 0 ∨ p.1 = 1) ∧ (p.2 = 0 ∨ p.2 = 1)
def sqAll (E : List (Int × Int)) : Bool := E.all fun p => (p.1 == 0 || p.1 == 1) && (p.2 == 0 || p.2 == 1)
theorem sqAll_at {E : List (Int × Int)} (h : sqAll E = true) (p : Int × Int) (hp : p ∈ E) : sqP p := by
  unfold sqAll at h
  have := List.all_eq_true.1 h p hp
  simpa [sqP] using this
def sqFull (E : List (Int × Int)) : Bool := E.contains (0, 0) && E.contains (1, 0) && E.contains (0, 1) && E.contains (1, 1)
theorem sqFull_at {E : List (Int × Int)} (h : sqFull E = true) (i j : Int) (hi : i = 0 ∨ i = 1) (hj : j = 0 ∨ j = 1) : (i, j) ∈ E := by
  unfold sqFull at h
  simp at h
  obtain ⟨⟨⟨h0, h1⟩, h2⟩, h3⟩ := h
  rcases hi with rfl | rfl <;> rcases hj with rfl | rfl <;> assumption
/-- What the entry of a place holds. -/
def sqE (p : Int × Int) : Value × Value := (.agg #[.int .i64 p.1, .int .i64 p.2], .int .i64 (thr p.1 p.2))
/-- Block b is a map that holds the thresholds of the places of E, in the order of E. -/
def MpAt (V : World) (b : Nat) (E : List (Int × Int)) : Prop :=
  ∃ es n, V.heap[b]? = some (.map es n) ∧ es.toList.map (fun e => (e.key, e.val)) = E.map sqE
theorem MpAt.call {V V' : World} {b : Nat} {E : List (Int × Int)} (h : MpAt V b E) (hb : Below V.heap.size V V') : MpAt V' b E := by
  obtain ⟨es, n, h1, h2⟩ := h
  exact ⟨es, n, (hb.block b (Array.getElem?_eq_some_iff.1 h1).1).trans h1, h2⟩
theorem MpAt.made (V : World) : MpAt (V.alloc (.map #[] 0)) V.heap.size [] := ⟨#[], 0, heap_alloc_new V _, rfl⟩
theorem eq_place (i j p q : Int) (hi : i = 0 ∨ i = 1) (hj : j = 0 ∨ j = 1) (hp : p = 0 ∨ p = 1) (hq : q = 0 ∨ q = 1) (w : World) :
    (Op.equal 76 (.agg #[.int .i64 i, .int .i64 j]) (.agg #[.int .i64 p, .int .i64 q])).run Try.prog w = .ok (decide ((i, j) = (p, q))) w := by
  rcases hi with rfl | rfl <;> rcases hj with rfl | rfl <;> rcases hp with rfl | rfl <;> rcases hq with rfl | rfl <;> kernel_rfl
theorem check_place (e : Bool) (i j : Int) (w : World) : (Instr.checkKey e 10000 76 (.agg #[.int .i64 i, .int .i64 j])).run Try.prog w = .ok () w := by kernel_rfl
theorem ask_place (i j : Int) (hi : i = 0 ∨ i = 1) (hj : j = 0 ∨ j = 1) (w : World) : ∀ (E : List (Int × Int)) (es : List MapEntry) (n : Nat), (∀ p ∈ E, sqP p) → es.map (fun e => (e.key, e.val)) = E.map sqE →
    ((i, j) ∉ E → (Instr.findAsking 76 (.agg #[.int .i64 i, .int .i64 j]) es n).run Try.prog w = .ok none w) ∧
    ((i, j) ∈ E → ∃ m, (Instr.findAsking 76 (.agg #[.int .i64 i, .int .i64 j]) es n).run Try.prog w = .ok (some (m, .int .i64 (thr i j))) w)
  | [], es, n, _, h => by
    have : es = [] := by simpa using h
    subst this
    exact ⟨fun _ => rfl, fun h => by simp at h⟩
  | p :: E, [], n, _, h => by simp at h
  | p :: E, e :: es, n, hE, h => by
    simp only [List.map_cons, List.cons.injEq] at h
    obtain ⟨h1, h3⟩ := h
    have hk : e.key = .agg #[.int .i64 p.1, .int .i64 p.2] := congrArg Prod.fst h1
    have hv : e.val = .int .i64 (thr p.1 p.2) := congrArg Prod.snd h1
    have hp := hE p (by simp)
    have he := eq_place i j p.1 p.2 hi hj hp.1 hp.2 w
    have ih := ask_place i j hi hj w E es (n + 1) (fun q hq => hE q (by simp [hq])) h3
    unfold Instr.findAsking
    rw [hk]
    by_cases e0 : (i, j) = (p.1, p.2)
    · have e1 : i = p.1 := congrArg Prod.fst e0
      have e2 : j = p.2 := congrArg Prod.snd e0
      rw [decide_eq_true e0] at he
      refine ⟨fun hn => absurd (by rw [e0]; simp) hn, fun _ => ⟨n, ?_⟩⟩
      simp only [Sem.run_bind, he, Result.andThen_ok, if_true]
      rw [hv, e1, e2]; rfl
    · rw [decide_eq_false e0] at he
      have hne : ((i, j) ∈ p :: E) ↔ (i, j) ∈ E := by
        rw [List.mem_cons]
        exact ⟨fun h => h.resolve_left (fun h => e0 h), .inr⟩
      simp only [Sem.run_bind, he, Result.andThen_ok, hne]
      exact ih
theorem find_place (i j : Int) (hi : i = 0 ∨ i = 1) (hj : j = 0 ∨ j = 1) (w : World) (E : List (Int × Int)) (es : List MapEntry) (hE : ∀ p ∈ E, sqP p) (h : es.map (fun e => (e.key, e.val)) = E.map sqE) :
    ((i, j) ∉ E → (Instr.findKey 76 (.agg #[.int .i64 i, .int .i64 j]) es).run Try.prog w = .ok none w) ∧
    ((i, j) ∈ E → ∃ m, (Instr.findKey 76 (.agg #[.int .i64 i, .int .i64 j]) es).run Try.prog w = .ok (some (m, .int .i64 (thr i j))) w) := by
  have h1 := ask_place i j hi hj w E es 0 hE h
  have hk : (Instr.findKey 76 (.agg #[.int .i64 i, .int .i64 j]) es).run Try.prog w = (Instr.findAsking 76 (.agg #[.int .i64 i, .int .i64 j]) es 0).run Try.prog w := by
    unfold Instr.findKey
    simp only [Sem.run_bind, run_underlying Try.underlying76, Result.andThen_ok]
    cases es <;> rfl
  rw [hk]
  exact h1
theorem put_place {w : World} {b : Nat} {E : List (Int × Int)} (h : MpAt w b E) (hE : sqAll E = true) (i j : Int) (hi : i = 0 ∨ i = 1) (hj : j = 0 ∨ j = 1) (hn : (i, j) ∉ E) :
    ∃ w', (Instr.mapUpdate 73 (.map (some b)) (.agg #[.int .i64 i, .int .i64 j]) (.int .i64 (thr i j))).run Try.prog w = .ok () w' ∧ MpAt w' b (E ++ [(i, j)]) ∧ w.grownBy w' (some b) := by
  obtain ⟨es, n, h1, h2⟩ := h
  have hf := (find_place i j hi hj w E es.toList (sqAll_at hE) h2).1 hn
  have hlt := (Array.getElem?_eq_some_iff.1 h1).1
  refine ⟨{ w with heap := w.heap.setIfInBounds b (.map (es.push { key := .agg #[.int .i64 i, .int .i64 j], val := .int .i64 (thr i j), born := n }) (n + 1)) }, ?_, ⟨es.push { key := .agg #[.int .i64 i, .int .i64 j], val := .int .i64 (thr i j), born := n }, n + 1, ?_, ?_⟩, ⟨rfl, rfl, rfl, ?_, ?_⟩⟩
  · unfold Instr.mapUpdate
    simp only [Sem.run_bind, run_underlying Try.underlying73, Result.andThen_ok, MapKept.run_getObj_map h1, check_place, hf, MapKept.run_setObj_map _ h1]
  · simp [hlt]
  · simp [h2, sqE]
  · simp
  · intro k _ hk
    have : b ≠ k := fun e => hk (by rw [e])
    simp [this]
theorem look_place {w : World} {b : Nat} {E : List (Int × Int)} (h : MpAt w b E) (hE : sqAll E = true) (hF : sqFull E = true) (i j : Int) (hi : i = 0 ∨ i = 1) (hj : j = 0 ∨ j = 1) :
    (Instr.lookup 73 (.map (some b)) (.agg #[.int .i64 i, .int .i64 j]) false).run Try.prog w = .ok (.int .i64 (thr i j)) w := by
  obtain ⟨es, n, h1, h2⟩ := h
  obtain ⟨m, hf⟩ := (find_place i j hi hj w E es.toList (sqAll_at hE) h2).2 (sqFull_at hF i j hi hj)
  unfold Instr.lookup
  simp only [Sem.run_bind, run_underlying Try.underlying73, Result.andThen_ok, MapKept.run_getObj_map h1, check_place, hf, Sem.run_pure]
  rfl
/-- A place is put into the map, in a free order. -/
theorem wp_insert_place {op : Oper} {a : Act} {w : World} {K : Act → World → Prop} {Q : Exit → Act → World → Prop} (m k x : Operand) (ho : op.op = .insert 73 m k x) (b : Nat) (E : List (Int × Int)) (i j t : Int) (hm : a.eval m = .map (some b)) (hk : a.eval k = .agg #[.int .i64 i, .int .i64 j]) (hx : a.eval x = .int .i64 t) (ht : t = thr i j)
    (hi : i = 0 ∨ i = 1) (hj : j = 0 ∨ j = 1) (h : MpAt w b E) (hE : sqAll E = true) (hn : (i, j) ∉ E)
    (H : ∀ W', MpAt W' b (E ++ [(i, j)]) → w.grownBy W' (some b) → K (a.put op.dst undef) W') : op.wp Try.prog a w K Q := by
  obtain ⟨w', h1, h2, h3⟩ := put_place h hE i j hi hj hn
  have h4 := H w' h2 h3
  subst ht
  unfold Oper.wp execOp
  simp only [ho, hm, hk, hx, Sem.run_bind, Sem.run_pure, Result.andThen_ok, h1]
  exact h4
theorem wp_makeMap_place {op : Oper} {a : Act} {w : World} {K : Act → World → Prop} {Q : Exit → Act → World → Prop} (d : Nat) (ho : op.op = .makeMap 73 none) (hd : op.dst = some d)
    (H : ∀ b W', Below w.heap.size w W' → MpAt W' b [] → w.heap.size ≤ b → K (a.put (some d) (.map (some b))) W') : op.wp Try.prog a w K Q := by
  have h1 := H w.heap.size (w.alloc (.map #[] 0)) ((Below.refl _ _).alloc (Nat.le_refl _) _) (MpAt.made w) (Nat.le_refl _)
  have hz := run_makeMap (P := Try.prog) 73 w
  unfold Oper.wp execOp
  simp only [ho, Option.map_none, Sem.run_bind, hz, Result.andThen_ok, Sem.run_pure]
  rw [← hd] at h1
  exact h1
end Go.Proofs.Ytaggldhlnjbnhaa
