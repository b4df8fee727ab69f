/- Data in memory: what cells read as, and through which blocks; what a call owns. No statement is proved here. -/
import Derived.Test.YtfolphadhmgbiaaMA
import Derived.Test.YtfolphadhmgbiaaImR
import Derived.Test.YtfolphadhmgbiaaProg
import Derived.WalkKit
import Derived.ProofKit
import Derived.OpenShut
import Derived.WalkLawsBesides
import Derived.WalkSpells
import Derived.ShutString
import Derived.ChangeOld
import Derived.Below
import Derived.Lib.Hide
import Derived.BigQuiet
import Derived.Deep.QuietTactic
import Derived.Maps.AppendAt
import Derived.Deep.OwnRows
import Derived.Handy
import Derived.Deep.Draws
import Derived.OwnWalk
import Derived.Deep.AppendLies
import Derived.Deep.LoopGhost
import Derived.Deep.Onto
namespace Go.Proofs.Ytfolphadhmgbiaa
open Go.RowKit
/-- Nothing of the old memory changes but the blocks of a list. -/
structure Chg (w w' : World) (bs : List Nat) : Prop where
  os : w'.os = w.os
  tape : w'.tape = w.tape
  output : w'.output = w.output
  size : w.heap.size ≤ w'.heap.size
  block : ∀ k, k < w.heap.size → k ∉ bs → w'.heap[k]? = w.heap[k]?
theorem Chg.refl (w : World) (bs : List Nat) : Chg w w bs := ⟨rfl, rfl, rfl, Nat.le_refl _, fun _ _ _ => rfl⟩
theorem Chg.trans {a b c : World} {bs : List Nat} (h : Chg a b bs) (k : Chg b c bs) : Chg a c bs :=
  ⟨k.os.trans h.os, k.tape.trans h.tape, k.output.trans h.output, Nat.le_trans h.size k.size, fun j hj hn => (k.block j (Nat.lt_of_lt_of_le hj h.size) hn).trans (h.block j hj hn)⟩
theorem Chg.mono {w w' : World} {bs cs : List Nat} (h : Chg w w' bs) (hs : ∀ b ∈ bs, b ∈ cs) : Chg w w' cs := ⟨h.os, h.tape, h.output, h.size, fun k hk hn => h.block k hk fun hb => hn (hs k hb)⟩
theorem Chg.of_grown {w w' : World} {row : Option Nat} (h : w.grownBy w' row) : Chg w w' row.toList := ⟨h.os, h.tape, h.output, h.size, fun k hk hn => h.block k hk fun e => hn (by rw [← e]; simp)⟩
theorem Chg.of_below {w w' : World} (bs : List Nat) (h : Below w.heap.size w w') : Chg w w' bs := ⟨h.os, h.tape, h.output, h.size, fun k hk _ => h.block k hk⟩
theorem Chg.below {w w' w0 : World} {bs : List Nat} (h : Chg w w' bs) {B : Nat} (hw : Below B w0 w) (hB : B ≤ w.heap.size) (hb : ∀ b ∈ bs, B ≤ b) : Below B w0 w' :=
  ⟨h.os.trans hw.os, h.tape.trans hw.tape, h.output.trans hw.output, Nat.le_trans hw.size h.size, fun k hk => (h.block k (Nat.lt_of_lt_of_le hk hB) fun e => by have := hb k e; omega).trans (hw.block k hk)⟩
theorem Chg.setCell (w : World) (p : Addr) (v : Value) : Chg w (w.setCell p v) [p.block] := ⟨rfl, rfl, rfl, by simp, fun k _ hn => Below.heap_setCell w p v k (by simpa using hn)⟩
/-- How data of a kind lie in memory: the cells vs read as a in the world w, through just the blocks bs, in order. -/
structure Rep (α : Type) where
  R : World → α → List Value → List Nat → Prop
  ex : ∀ {w : World} {a : α} {vs : List Value} {bs : List Nat}, R w a vs bs → ∀ b ∈ bs, b < w.heap.size
  keep : ∀ {w w' : World} {a : α} {vs : List Value} {bs : List Nat}, R w a vs bs → (∀ b ∈ bs, w'.heap[b]? = w.heap[b]?) → R w' a vs bs
section
variable {α : Type} {E : Rep α} {w w' : World} {a : α} {vs : List Value} {bs cs : List Nat}
theorem Rep.call (h : E.R w a vs bs) (hb : Below w.heap.size w w') : E.R w' a vs bs := E.keep h fun b hb' => hb.block b (E.ex h b hb')
theorem Rep.chg (h : E.R w a vs bs) (hc : Chg w w' cs) (hn : ∀ b ∈ bs, b ∉ cs) : E.R w' a vs bs := E.keep h fun b hb => hc.block b (E.ex h b hb) (hn b hb)
/-- The same, owned: no block twice, every block at B or behind it. -/
structure Rep.Own (E : Rep α) (B : Nat) (w : World) (a : α) (vs : List Value) (bs : List Nat) : Prop where
  r : E.R w a vs bs
  nd : bs.Nodup
  lo : ∀ b ∈ bs, B ≤ b
theorem Rep.Own.call {B : Nat} (h : E.Own B w a vs bs) (hb : Below w.heap.size w w') : E.Own B w' a vs bs := ⟨Rep.call h.r hb, h.nd, h.lo⟩
theorem Rep.Own.chg {B : Nat} (h : E.Own B w a vs bs) (hc : Chg w w' cs) (hn : ∀ b ∈ bs, b ∉ cs) : E.Own B w' a vs bs := ⟨Rep.chg h.r hc hn, h.nd, h.lo⟩
theorem Rep.Own.mono {B B' : Nat} (h : E.Own B w a vs bs) (hB : B' ≤ B) : E.Own B' w a vs bs := ⟨h.r, h.nd, fun b hb => Nat.le_trans hB (h.lo b hb)⟩
end
/-- Rows of cells that read as the elements of a list. -/
def rowsR {α : Type} (E : Rep α) (w : World) : List α → List (List Value) → List (List Nat) → Prop
  | [], [], [] => True
  | a :: L, x :: xs, b :: bss => E.R w a x b ∧ rowsR E w L xs bss
  | _, _, _ => False
section
variable {α : Type} {E : Rep α} {w w' : World}
theorem rowsR_len : ∀ {L : List α} {xs : List (List Value)} {bss : List (List Nat)}, rowsR E w L xs bss → xs.length = L.length ∧ bss.length = L.length
  | [], [], [], _ => ⟨rfl, rfl⟩
  | a :: L, x :: xs, b :: bss, h => by obtain ⟨h1, h2⟩ := rowsR_len h.2; simp [h1, h2]
theorem rowsR_at : ∀ {L : List α} {xs : List (List Value)} {bss : List (List Nat)} (_ : rowsR E w L xs bss) (k : Nat) (a : α), L[k]? = some a → ∃ x b, xs[k]? = some x ∧ bss[k]? = some b ∧ E.R w a x b
  | [], [], [], _, k, a, h => by simp at h
  | c :: L, x :: xs, b :: bss, h, 0, a, hk => by
    obtain rfl : c = a := by simpa using hk
    exact ⟨x, b, rfl, rfl, h.1⟩
  | c :: L, x :: xs, b :: bss, h, k + 1, a, hk => rowsR_at h.2 k a (by simpa using hk)
theorem rowsR_ex : ∀ {L : List α} {xs : List (List Value)} {bss : List (List Nat)}, rowsR E w L xs bss → ∀ b ∈ bss.flatten, b < w.heap.size
  | [], [], [], _, b, hb => by simp at hb
  | c :: L, x :: xs, d :: bss, h, b, hb => by
    rw [List.flatten_cons, List.mem_append] at hb
    rcases hb with hb | hb
    · exact E.ex h.1 b hb
    · exact rowsR_ex h.2 b hb
theorem rowsR_keep : ∀ {L : List α} {xs : List (List Value)} {bss : List (List Nat)}, rowsR E w L xs bss → (∀ b ∈ bss.flatten, w'.heap[b]? = w.heap[b]?) → rowsR E w' L xs bss
  | [], [], [], _, _ => trivial
  | c :: L, x :: xs, d :: bss, h, hk => ⟨E.keep h.1 fun b hb => hk b (by simp [hb]), rowsR_keep h.2 fun b hb => hk b (by rw [List.flatten_cons, List.mem_append]; exact .inr hb)⟩
theorem rowsR_snoc : ∀ {L : List α} {xs : List (List Value)} {bss : List (List Nat)} {a : α} {x : List Value} {b : List Nat}, rowsR E w L xs bss → E.R w a x b → rowsR E w (L ++ [a]) (xs ++ [x]) (bss ++ [b])
  | [], [], [], _, _, _, _, h => ⟨h, trivial⟩
  | _ :: _, _ :: _, _ :: _, _, _, _, h, hk => ⟨h.1, rowsR_snoc h.2 hk⟩
end
/-- Rows of s cells, one behind the other. -/
theorem flat_len {s : Nat} : ∀ {xs : List (List Value)}, (∀ x ∈ xs, x.length = s) → xs.flatten.length = xs.length * s
  | [], _ => by simp
  | x :: xs, h => by rw [List.flatten_cons, List.length_append, flat_len fun y hy => h y (by simp [hy]), h x (by simp), List.length_cons, Nat.add_mul]; omega
theorem flat_at {s : Nat} : ∀ {xs : List (List Value)} (_ : ∀ x ∈ xs, x.length = s) (k j : Nat) {x : List Value} (_ : xs[k]? = some x), j < s → xs.flatten[k * s + j]? = x[j]?
  | [], _, k, j, x, hk, _ => by simp at hk
  | y :: xs, h, 0, j, x, hk, hj => by
    obtain rfl : y = x := by simpa using hk
    have hy := h y (by simp)
    rw [List.flatten_cons, Nat.zero_mul, Nat.zero_add, List.getElem?_append_left (by omega)]
  | y :: xs, h, k + 1, j, x, hk, hj => by
    have hy := h y (by simp)
    rw [List.flatten_cons, Nat.add_mul, Nat.one_mul, List.getElem?_append_right (by omega), show k * s + s + j - y.length = k * s + j by omega]
    exact flat_at (fun z hz => h z (by simp [hz])) k j (by simpa using hk) hj
theorem flat_set {s : Nat} : ∀ {xs : List (List Value)} (_ : ∀ x ∈ xs, x.length = s) (k j : Nat) {x : List Value} (_ : xs[k]? = some x) (v : Value), j < s → xs.flatten.set (k * s + j) v = (xs.set k (x.set j v)).flatten
  | [], _, k, j, x, hk, _, _ => by simp at hk
  | y :: xs, h, 0, j, x, hk, v, hj => by
    obtain rfl : y = x := by simpa using hk
    have hy := h y (by simp)
    rw [List.flatten_cons, Nat.zero_mul, Nat.zero_add, List.set_append_left _ _ (by omega)]; rfl
  | y :: xs, h, k + 1, j, x, hk, v, hj => by
    have hy := h y (by simp)
    rw [List.flatten_cons, Nat.add_mul, Nat.one_mul, List.set_append_right _ _ (by omega), show k * s + s + j - y.length = k * s + j by omega, flat_set (fun z hz => h z (by simp [hz])) k j (by simpa using hk) v hj]; rfl
theorem own_keepB {w w' : World} {B : Nat} {e : TypeId} {s : Nat} {v : Value} {n : Nat} {xs : List Value} (h : w.ownsRow B e s v n xs) (hk : ∀ b ∈ v.ownBlock.toList, w'.heap[b]? = w.heap[b]?) : w'.ownsRow B e s v n xs := by
  rcases h with ⟨h1, h2 | ⟨g, cap, cur, rfl, hg, hh, h3⟩⟩
  · exact ⟨h1, .inl h2⟩
  · exact ⟨h1, .inr ⟨g, cap, cur, rfl, hg, (hk g (by simp [Value.ownBlock])).trans hh, h3⟩⟩
theorem own_ltB {w : World} {B : Nat} {e : TypeId} {s : Nat} {v : Value} {n : Nat} {xs : List Value} (h : w.ownsRow B e s v n xs) : ∀ b ∈ v.ownBlock.toList, B ≤ b ∧ b < w.heap.size := fun b hb => h.lt b (by simpa using hb)
theorem own_rebase {w : World} {B C : Nat} {e : TypeId} {s : Nat} {v : Value} {n : Nat} {xs : List Value} (h : w.ownsRow B e s v n xs) (hC : ∀ b ∈ v.ownBlock.toList, C ≤ b) : w.ownsRow C e s v n xs := by
  rcases h with ⟨h1, h2 | ⟨g, cap, cur, rfl, hg, h3⟩⟩
  · exact ⟨h1, .inl h2⟩
  · exact ⟨h1, .inr ⟨g, cap, cur, rfl, hC g (by simp [Value.ownBlock]), h3⟩⟩
/-- A slice of ints. -/
def repInts : Rep (List Int) where
  R := fun w L vs bs => ∃ v, vs = [v] ∧ w.ownsRow 0 3 1 v L.length (intCells L) ∧ bs = v.ownBlock.toList
  ex := by rintro w a vs bs ⟨v, rfl, h, rfl⟩ b hb; exact (own_ltB h b hb).2
  keep := by rintro w w' a vs bs ⟨v, rfl, h, rfl⟩ hk; exact ⟨v, rfl, own_keepB h hk, rfl⟩
theorem repInts_own {w : World} {B : Nat} {v : Value} {L : List Int} (h : w.ownsRow B 3 1 v L.length (intCells L)) : repInts.Own B w L [v] v.ownBlock.toList :=
  ⟨⟨v, rfl, own_rebase h fun _ _ => Nat.zero_le _, rfl⟩, by cases v.ownBlock <;> simp, fun b hb => (own_ltB h b hb).1⟩
theorem repInts_rd {w : World} {v : Value} {L : List Int} {bs : List Nat} (h : repInts.R w L [v] bs) : RdI w v L := by
  obtain ⟨u, hu, h, _⟩ := h
  obtain rfl : v = u := by simpa using hu
  exact RdI.of_own h
/-- A slice of elements of s cells each. -/
def repSl {α : Type} (E : Rep α) (e : TypeId) (s : Nat) : Rep (List α) where
  R := fun w L vs bs => ∃ v xs bss, vs = [v] ∧ rowsR E w L xs bss ∧ (∀ x ∈ xs, x.length = s) ∧ w.ownsRow 0 e s v L.length xs.flatten ∧ bs = v.ownBlock.toList ++ bss.flatten
  ex := by
    rintro w a vs bs ⟨v, xs, bss, rfl, hr, hs, h, rfl⟩ b hb
    rcases List.mem_append.1 hb with hb | hb
    · exact (own_ltB h b hb).2
    · exact rowsR_ex hr b hb
  keep := by
    rintro w w' a vs bs ⟨v, xs, bss, rfl, hr, hs, h, rfl⟩ hk
    exact ⟨v, xs, bss, rfl, rowsR_keep hr fun b hb => hk b (List.mem_append.2 (.inr hb)), hs, own_keepB h fun b hb => hk b (List.mem_append.2 (.inl hb)), rfl⟩
end Go.Proofs.Ytfolphadhmgbiaa
