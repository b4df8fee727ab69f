/- Data of any kind in memory: what comes in and is only read; variables of a law or a function, with all their blocks between two sizes of the memory. No statement is proved here. -/
import Derived.Test.YtfolphadhmgbiaaMA
import Derived.Test.YtfolphadhmgbiaaImR
import Derived.Test.YtfolphadhmgbiaaRep
import Derived.Test.YtfolphadhmgbiaaProg
import Derived.WalkKit
import Derived.ProofKit
import Derived.OpenShut
import Derived.WalkLawsBesides
import Derived.WalkSpells
import Derived.ShutString
import Derived.ChangeOld
import Derived.Below
import Derived.Lib.Hide
import Derived.BigQuiet
import Derived.Deep.QuietTactic
import Derived.Maps.AppendAt
import Derived.Deep.OwnRows
import Derived.Handy
import Derived.Deep.Draws
import Derived.OwnWalk
import Derived.Deep.AppendLies
import Derived.Deep.LoopGhost
import Derived.Deep.Onto
import Derived.Deep.MidRow
import Derived.Deep.WholeRow
namespace Go.Proofs.Ytfolphadhmgbiaa
open Go.RowKit
/-- Nothing old changes. -/
theorem Chg.call {w w' : World} {bs : List Nat} (h : Chg w w' bs) {W : World} (hb : Below w'.heap.size w' W) : Chg w W bs := h.trans (Chg.of_below bs hb)
theorem Chg.setB (w : World) (g o : Nat) (v : Value) (bs : List Nat) (h : g ∈ bs) : Chg w (w.setCell ⟨g, o, none⟩ v) bs := (Chg.setCell w ⟨g, o, none⟩ v).mono fun b hb => by rw [List.mem_singleton.1 hb]; exact h
theorem BkAt.put {w : World} {g : Nat} {t : TypeId} {cs cs' : Array Value} (h : BkAt w g t cs) (i : Nat) (v : Value) (hz : cs.setIfInBounds i v = cs') : BkAt (w.setCell ⟨g, i, none⟩ v) g t cs' := hz ▸ h.set i v
theorem mem2 {b x y : Nat} (h : b ∈ [x, y]) : b = x ∨ b = y := by simpa using h
theorem own_chg {w w' : World} {B : Nat} {e : TypeId} {s : Nat} {v : Value} {n : Nat} {xs : List Value} {cs : List Nat} (h : w.ownsRow B e s v n xs) (hc : Chg w w' cs) (hn : ∀ b ∈ cs, b < B) : w'.ownsRow B e s v n xs :=
  own_keepB h fun b hb => hc.block b (own_ltB h b hb).2 fun e => by have := hn b e; have := (own_ltB h b hb).1; omega
theorem own_chgN {w w' : World} {B : Nat} {e : TypeId} {s : Nat} {v : Value} {n : Nat} {xs : List Value} {cs : List Nat} (h : w.ownsRow B e s v n xs) (hc : Chg w w' cs) (hn : ∀ b ∈ v.ownBlock.toList, b ∉ cs) : w'.ownsRow B e s v n xs :=
  own_keepB h fun b hb => hc.block b (own_ltB h b hb).2 (hn b hb)
/-- One row of many changes. -/
theorem rowsR_upd {α : Type} {E : Rep α} {w w' : World} : ∀ {L : List α} {xs : List (List Value)} {bss : List (List Nat)} (_ : rowsR E w L xs bss) (k : Nat) {a' : α} {x' : List Value} {b' : List Nat}, k < L.length → E.R w' a' x' b' →
    (∀ (j : Nat) (c : List Nat), j ≠ k → bss[j]? = some c → ∀ b ∈ c, w'.heap[b]? = w.heap[b]?) → rowsR E w' (L.set k a') (xs.set k x') (bss.set k b')
  | [], [], [], _, _, _, _, _, hk, _, _ => by simp at hk
  | a :: L, x :: xs, c :: bss, h, 0, a', x', b', _, hR, hn => ⟨hR, rowsR_keep h.2 fun b hb => by
      obtain ⟨d, hd, hb⟩ := List.mem_flatten.1 hb
      obtain ⟨j, hj⟩ := List.getElem?_of_mem hd
      exact hn (j + 1) d (by omega) (by simpa using hj) b hb⟩
  | a :: L, x :: xs, c :: bss, h, k + 1, a', x', b', hk, hR, hn => ⟨E.keep h.1 (hn 0 c (by omega) rfl), rowsR_upd h.2 k (by simpa using hk) hR fun j d hj hd => hn (j + 1) d (by omega) (by simpa using hd)⟩
/-- What comes in and is only read: it stands while nothing old changes. -/
structure Wk (α : Type) where
  R : World → α → List Value → Prop
  call : ∀ {w w' : World} {a : α} {vs : List Value}, R w a vs → Below w.heap.size w w' → R w' a vs
/-- A slice of structs (of s cells each) that came in. -/
def wkSl {α : Type} (F : Wk α) (s : Nat) : Wk (List α) where
  R := fun w L vs => L.length ≤ maxLen ∧ ∃ A c, vs = [.slice A L.length c] ∧ ∀ k a, L[k]? = some a → ∃ ad xs, A = some ad ∧ xs.length = s ∧ F.R w a xs ∧ ∀ j u, xs[j]? = some u → w.cell? (ad.add (k * s + j)) = some u
  call := by
    rintro w w' L vs ⟨hm, A, c, rfl, h⟩ hb
    refine ⟨hm, A, c, rfl, fun k a hk => ?_⟩
    obtain ⟨ad, xs, e, hl, hR, hc⟩ := h k a hk
    refine ⟨ad, xs, e, hl, F.call hR hb, fun j u hu => ?_⟩
    have h1 := hc j u hu
    have hlt := World.block_lt_of_cell? w _ h1
    rw [← h1]
    exact World.cell?_of_block (hb.block _ hlt)
/-- Block b holds an argument. -/
structure ArgB {α : Type} (F : Wk α) (t : TypeId) (b : Nat) (a : α) (vs : List Value) (W : World) : Prop where
  at_ : BkAt W b t vs.toArray
  rd : F.R W a vs
section
variable {α : Type} {F : Wk α} {t : TypeId} {b : Nat} {a : α} {vs : List Value} {W W' : World}
theorem ArgB.call (h : ArgB F t b a vs W) (hb : Below W.heap.size W W') : ArgB F t b a vs W' := ⟨h.at_.call hb, F.call h.rd hb⟩
theorem ArgB.lt (h : ArgB F t b a vs W) : b < W.heap.size := h.at_.lt
theorem ArgB.born {w : World} (hw : F.R w a vs) (t : TypeId) : ArgB F t w.heap.size a vs (w.alloc (.cells vs.toArray t)) := ⟨BkAt.new _ _ _, F.call hw ((Below.refl _ _).alloc (Nat.le_refl _) _)⟩
theorem ArgB.bornAt {w : World} {g : Nat} (h : w.heap.size = g) (hw : F.R w a vs) (t : TypeId) : ArgB F t g a vs (w.alloc (.cells vs.toArray t)) := h ▸ ArgB.born hw t
/-- It stands where only other blocks, not older than the call, change. -/
theorem ArgB.chg {w : World} {cs : List Nat} (h : ArgB F t b a vs W) (h0 : F.R w a vs) (hw : Below w.heap.size w W') (hc : Chg W W' cs) (hn : b ∉ cs) : ArgB F t b a vs W' := ⟨(hc.block b h.lt hn).trans h.at_, F.call h0 hw⟩
end
/-- A variable: block b holds the cells vs, which read a through the blocks bs; all of them lie between lo and hi. -/
structure VarB {α : Type} (E : Rep α) (t : TypeId) (lo hi b : Nat) (a : α) (vs : List Value) (bs : List Nat) (W : World) : Prop where
  at_ : BkAt W b t vs.toArray
  own : E.Own lo W a vs bs
  lb : lo ≤ b
  hb : b < hi
  hbs : ∀ k ∈ bs, k < hi ∧ k ≠ b
  hs : hi ≤ W.heap.size
section
variable {α : Type} {E : Rep α} {t : TypeId} {lo hi b : Nat} {a a' : α} {vs : List Value} {bs cs : List Nat} {W W' : World}
theorem VarB.call (h : VarB E t lo hi b a vs bs W) (k : Below W.heap.size W W') : VarB E t lo hi b a vs bs W' := ⟨h.at_.call k, h.own.call k, h.lb, h.hb, h.hbs, Nat.le_trans h.hs k.size⟩
theorem VarB.r (h : VarB E t lo hi b a vs bs W) : E.R W a vs bs := h.own.r
theorem VarB.rng (h : VarB E t lo hi b a vs bs W) : ∀ k ∈ bs, lo ≤ k ∧ k < hi := fun k hk => ⟨h.own.lo k hk, (h.hbs k hk).1⟩
theorem VarB.chg (h : VarB E t lo hi b a vs bs W) (hc : Chg W W' cs) (hn : ∀ k ∈ cs, k < lo ∨ hi ≤ k) : VarB E t lo hi b a vs bs W' :=
  ⟨(hc.block b h.at_.lt fun e => by have := hn b e; have := h.lb; have := h.hb; omega).trans h.at_, h.own.chg hc fun k hk e => by have := hn k e; have := h.rng k hk; omega, h.lb, h.hb, h.hbs, Nat.le_trans h.hs hc.size⟩
theorem VarB.mark (h : VarB E t lo hi b a vs bs W) (hr : E.R W' a' vs bs) (hc : Chg W W' bs) : VarB E t lo hi b a' vs bs W' :=
  ⟨(hc.block b h.at_.lt fun e => (h.hbs b e).2 rfl).trans h.at_, ⟨hr, h.own.nd, h.own.lo⟩, h.lb, h.hb, h.hbs, Nat.le_trans h.hs hc.size⟩
theorem VarB.born {w : World} (hk : Below w.heap.size w W) (ho : E.Own w.heap.size W a vs bs) (t : TypeId) : VarB E t w.heap.size (W.heap.size + 1) W.heap.size a vs bs (W.alloc (.cells vs.toArray t)) :=
  ⟨BkAt.new _ _ _, ho.call ((Below.refl _ _).alloc (Nat.le_refl _) _), hk.size, Nat.lt_succ_self _, fun k hk => by have := E.ex ho.r k hk; omega, by simp⟩
theorem VarB.below {w : World} (h : VarB E t lo hi b a vs bs W) (hw : Below w.heap.size w W) (hlo : w.heap.size ≤ lo) (hc : Chg W W' bs) : Below w.heap.size w W' :=
  hc.below hw hw.size fun k hk => Nat.le_trans hlo (h.rng k hk).1
end
/-- Rows of s cells that are owned one behind the other: no block twice. -/
theorem rows_nodup {bss : List (List Nat)} (h : bss.flatten.Nodup) {k j : Nat} {b c : List Nat} (hk : bss[k]? = some b) (hj : bss[j]? = some c) (hne : k ≠ j) : ∀ x ∈ b, x ∉ c := by
  induction bss generalizing k j with
  | nil => simp at hk
  | cons d t ih =>
    rw [List.flatten_cons, List.nodup_append] at h
    obtain ⟨h1, h2, h3⟩ := h
    cases k with
    | zero =>
      obtain rfl : d = b := by simpa using hk
      cases j with
      | zero => exact absurd rfl hne
      | succ j => intro x hx hc; exact h3 x hx x (List.mem_flatten.2 ⟨c, List.mem_of_getElem? (by simpa using hj), hc⟩) rfl
    | succ k =>
      cases j with
      | zero =>
        obtain rfl : d = c := by simpa using hj
        intro x hx hc
        exact h3 x hc x (List.mem_flatten.2 ⟨b, List.mem_of_getElem? (by simpa using hk), hx⟩) rfl
      | succ j => exact ih h2 (by simpa using hk) (by simpa using hj) (by omega)
end Go.Proofs.Ytfolphadhmgbiaa
