/- Texts of mine in one file: Base, Rd, IntR, Frame, ImR, Rep, Bk, Var, SfM, ImL, Sq, SfI, SfL. No statement is proved here. -/
import Derived.Test.YtdgagooldlnpeaaProg
import Derived.WalkKit
import Derived.ProofKit
import Derived.OpenShut
import Derived.WalkLawsBesides
import Derived.WalkSpells
import Derived.ShutString
import Derived.ChangeOld
import Derived.Below
import Derived.Lib.Hide
import Derived.BigQuiet
import Derived.Deep.QuietTactic
import Derived.Maps.AppendAt
import Derived.Deep.OwnRows
import Derived.Handy
import Derived.Deep.Draws
import Derived.OwnWalk
import Derived.Deep.AppendLies
import Derived.Deep.LoopGhost
import Derived.Deep.Onto
import Derived.Deep.MidRow
import Derived.Deep.WholeRow
import Derived.Laws.BitsAllLaws
import Derived.Lib.QuoteBits
import Derived.Deep.RegionHeld3
import Derived.Deep.DeepCutAuto
namespace Go.Proofs.Ytdgagooldlnpeaa
open Go.RowKit
theorem ret_bool {a b : Bool} (h : a = b) : Ending.returned (.bool a) = .returned (.bool b) := by rw [h]
def IsRow (k : IntKind) (w : World) (a : Option Addr) (len cap : Nat) (zs : List Int) : Prop :=
 (a = none ∧ len = 0 ∧ cap = 0 ∧ zs = []) ∨
 ∃ x, a = some x ∧ len ≤ cap ∧ cap ≤ maxLen ∧ zs.length = cap ∧ (∀ i, i < zs.length → w.cell? (x.add i) = some (.int k (zs.getD i 0))) ∧ ∀ n ∈ zs, (Lit.int k n).wf = true
end Go.Proofs.Ytdgagooldlnpeaa
namespace Go.Proofs.Ytdgagooldlnpeaa
open Go.RowKit
theorem add_block (a : Addr) (n : Nat) : (a.add n).block = a.block := by unfold Addr.add; split <;> rfl
def Rd (w : World) (v : Value) (n : Nat) (xs : List Value) : Prop :=
 xs.length = n ∧ n ≤ maxLen ∧ ∃ A c, v = .slice A n c ∧ (0 < n → ∃ a, A = some a ∧ ∀ j u, xs[j]? = some u → w.cell? (a.add j) = some u)
theorem Rd.of_own {w : World} {B : Nat} {e : TypeId} {v : Value} {n : Nat} {xs : List Value} (h : w.ownsRow B e 1 v n xs) : Rd w v n xs := by
 have hl : xs.length = n := by have := h.1; omega
 rcases h.2 with ⟨rfl, rfl⟩ | ⟨g, cap, cur, rfl, hg, hh, hn, hc, hs, ht⟩
 ·exact ⟨hl, by unfold maxLen; omega, none, 0, rfl, fun h0 => by omega⟩
 ·exact ⟨hl, by omega, _, _, rfl, fun h0 => ⟨_, rfl, fun j u hu => h.cells (g := g) rfl j u hu⟩⟩
theorem Rd.form {w : World} {v : Value} {n : Nat} {xs : List Value} (h : Rd w v n xs) : ∃ A c, v = .slice A n c := by
 obtain ⟨_, _, A, c, rfl, _⟩ := h; exact ⟨A, c, rfl⟩
theorem Rd.kept {w w' : World} {v : Value} {n : Nat} {xs : List Value} (h : Rd w v n xs) (hs : ∀ g, v.ownBlock = some g → g < w.heap.size → w'.heap[g]? = w.heap[g]?) : Rd w' v n xs := by
 obtain ⟨hl, hm, A, c, rfl, hc⟩ := h
 refine ⟨hl, hm, A, c, rfl, fun h0 => ?_⟩
 obtain ⟨a, rfl, hd⟩ := hc h0
 refine ⟨a, rfl, fun j u hu => ?_⟩
 have h1 := hd j u hu
 have hlt := World.block_lt_of_cell? w _ h1
 rw [add_block] at hlt
 rw [← h1]
 exact World.cell?_of_block (by rw [add_block]; exact hs a.block rfl hlt)
theorem Rd.below {w w' : World} {v : Value} {n B : Nat} {xs : List Value} (h : Rd w v n xs) (hb : Below B w w') (hB : ∀ g, v.ownBlock = some g → g < w.heap.size → g < B) : Rd w' v n xs :=
 h.kept fun g hg hl => hb.block g (hB g hg hl)
theorem Rd.at_ {w : World} {A : Option Addr} {c n k : Nat} {xs : List Value} (h : Rd w (.slice A n c) n xs) (hk : k < n) : ∃ a u, A = some a ∧ xs[k]? = some u ∧ w.cell? (a.add k) = some u := by
 obtain ⟨hl, hm, A', c', he, hc⟩ := h
 injection he with e1 e2 e3
 subst e1
 obtain ⟨a, rfl, hd⟩ := hc (by omega)
 exact ⟨a, xs[k]'(by omega), rfl, List.getElem?_eq_getElem _, hd k _ (List.getElem?_eq_getElem _)⟩
theorem Rd.len {w : World} {v : Value} {n : Nat} {xs : List Value} (h : Rd w v n xs) : xs.length = n ∧ n ≤ maxLen := ⟨h.1, h.2.1⟩
end Go.Proofs.Ytdgagooldlnpeaa
namespace Go.Proofs.Ytdgagooldlnpeaa
open Go.RowKit
def intCells (L : List Int) : List Value := L.map (Value.int .i64)
theorem intCells_length (L : List Int) : (intCells L).length = L.length := by simp [intCells]
theorem intCells_get (L : List Int) (k : Nat) : (intCells L)[k]? = (L[k]?).map (Value.int .i64) := by simp [intCells]
theorem Rd.of_row {w : World} {a : Option Addr} {len cap : Nat} {zs : List Int} (h : IsRow .i64 w a len cap zs) : Rd w (.slice a len cap) (zs.take len).length (intCells (zs.take len)) := by
 rcases h with ⟨rfl, rfl, rfl, rfl⟩ | ⟨x, rfl, h1, h2, h3, h4, h5⟩
 ·exact ⟨rfl, by simp, none, 0, rfl, fun h => by simp at h⟩
 ·have hl : (zs.take len).length = len := by rw [List.length_take]; omega
  rw [hl]
  refine ⟨by rw [intCells_length, hl], by omega, some x, cap, rfl, fun h0 => ⟨x, rfl, fun j u hu => ?_⟩⟩
  rw [intCells_get] at hu
  obtain ⟨z, hz, rfl⟩ := Option.map_eq_some_iff.1 hu
  have hj : j < len := by have := (List.getElem?_eq_some_iff.1 hz).1; omega
  rw [List.getElem?_take_of_lt hj] at hz
  rw [h4 j (by omega), List.getD_eq_getElem?_getD, hz]
  rfl
theorem Rd.int_at {w : World} {A : Option Addr} {c n k : Nat} {L : List Int} (h : Rd w (.slice A n c) n (intCells L)) (hk : k < n) : ∃ a x, A = some a ∧ L[k]? = some x ∧ w.cell? (a.add k) = some (.int .i64 x) := by
 obtain ⟨a, u, e, hu, hc⟩ := h.at_ hk
 rw [intCells_get] at hu
 obtain ⟨x, hx, rfl⟩ := Option.map_eq_some_iff.1 hu
 exact ⟨a, x, e, hx, hc⟩
theorem Rd.call {w w' : World} {v : Value} {n : Nat} {xs : List Value} (h : Rd w v n xs) (hb : Below w.heap.size w w') : Rd w' v n xs := h.below hb fun _ _ hl => hl
theorem Rd.alloc {w : World} {v : Value} {n : Nat} {xs : List Value} (h : Rd w v n xs) (o : Obj) : Rd (w.alloc o) v n xs := h.kept fun g _ hl => Below.heap_alloc w o g hl
theorem infoInt : (Try.prog.info? 3).map (fun i => (i.zero, i.size, i.bytes)) = some (some (.int .i64 0), 1, 8) := by kernel_rfl
end Go.Proofs.Ytdgagooldlnpeaa
namespace Go.Proofs.Ytdgagooldlnpeaa
open Go.RowKit
theorem below_drewN {B : Nat} {a w : World} (h : Below B a w) (q : Nat) : Below B a (w.drewN q) := ⟨h.os, h.tape, h.output, h.size, h.block⟩
end Go.Proofs.Ytdgagooldlnpeaa
namespace Go.Proofs.Ytdgagooldlnpeaa
open Go.RowKit
def RdI (w : World) (v : Value) (L : List Int) : Prop :=
 (v = .slice none 0 0 ∧ L = []) ∨ ∃ g c, v = .slice (some ⟨g, 0, none⟩) L.length c ∧ L.length ≤ maxLen ∧ L.length ≤ c ∧ ∀ k x, L[k]? = some x → w.cell? ⟨g, k, none⟩ = some (.int .i64 x)
theorem addr_add (g k : Nat) : (⟨g, 0, none⟩ : Addr).add k = ⟨g, k, none⟩ := by unfold Addr.add; split <;> simp_all
theorem RdI.of_own {w : World} {B : Nat} {e : TypeId} {v : Value} {n : Nat} {L : List Int} (h : w.ownsRow B e 1 v n (intCells L)) : RdI w v L := by
 have hl : n = L.length := by have := h.1; rw [intCells_length] at this; omega
 subst hl
 rcases h.2 with ⟨rfl, h0⟩ | ⟨g, cap, cur, rfl, hg, hh, hn, hc, hs, ht⟩
 ·exact .inl ⟨rfl, List.eq_nil_of_length_eq_zero h0⟩
 ·refine .inr ⟨g, cap, rfl, by omega, hn, fun k x hx => ?_⟩
  have := h.cells (g := g) rfl k (.int .i64 x) (by rw [intCells_get, hx]; rfl)
  rwa [addr_add] at this
theorem RdI.rd {w : World} {v : Value} {L : List Int} (h : RdI w v L) : Rd w v L.length (intCells L) := by
 rcases h with ⟨rfl, rfl⟩ | ⟨g, c, rfl, hm, hlc, hc⟩
 ·exact ⟨rfl, by simp, none, 0, rfl, fun h => by simp at h⟩
 ·refine ⟨intCells_length L, hm, _, c, rfl, fun _ => ⟨_, rfl, fun j u hu => ?_⟩⟩
  rw [intCells_get] at hu
  obtain ⟨x, hx, rfl⟩ := Option.map_eq_some_iff.1 hu
  rw [addr_add]
  exact hc j x hx
theorem RdI.len {w : World} {v : Value} {L : List Int} (h : RdI w v L) : L.length ≤ maxLen := h.rd.len.2
theorem RdI.form {w : World} {v : Value} {L : List Int} (h : RdI w v L) : ∃ A c, v = .slice A L.length c := h.rd.form
theorem RdI.kept {w w' : World} {v : Value} {L : List Int} (h : RdI w v L) (hs : ∀ g, v.ownBlock = some g → g < w.heap.size → w'.heap[g]? = w.heap[g]?) : RdI w' v L := by
 rcases h with h | ⟨g, c, rfl, hm, hlc, hc⟩
 ·exact .inl h
 ·refine .inr ⟨g, c, rfl, hm, hlc, fun k x hx => ?_⟩
  have h1 := hc k x hx
  have hlt := World.block_lt_of_cell? w _ h1
  rw [← h1]
  exact World.cell?_of_block (hs g rfl hlt)
theorem RdI.drew {w : World} {v : Value} {L : List Int} (h : RdI w v L) : RdI w.drew v L := h.kept fun _ _ _ => rfl
theorem RdI.alloc {w : World} {v : Value} {L : List Int} (h : RdI w v L) (o : Obj) : RdI (w.alloc o) v L := h.kept fun g _ hl => Below.heap_alloc w o g hl
theorem RdI.below {w w' : World} {v : Value} {L : List Int} {B : Nat} (h : RdI w v L) (hb : Below B w w') (hB : ∀ g, v.ownBlock = some g → g < w.heap.size → g < B) : RdI w' v L :=
 h.kept fun g hg hl => hb.block g (hB g hg hl)
theorem RdI.call {w w' : World} {v : Value} {L : List Int} (h : RdI w v L) (hb : Below w.heap.size w w') : RdI w' v L := h.below hb fun _ _ hl => hl
theorem RdI.at_ {w : World} {A : Option Addr} {n c k : Nat} {L : List Int} (h : RdI w (.slice A n c) L) (hk : k < L.length) : ∃ g x, A = some ⟨g, 0, none⟩ ∧ L[k]? = some x ∧ w.cell? ⟨g, k, none⟩ = some (.int .i64 x) := by
 rcases h with ⟨_, rfl⟩ | ⟨g, c', he, hm, hlc, hc⟩
 ·simp at hk
 ·injection he with e1 e2 e3
  subst e1
  exact ⟨g, L[k]'hk, rfl, List.getElem?_eq_getElem hk, hc k _ (List.getElem?_eq_getElem hk)⟩
theorem RdI.nil (w : World) : RdI w (.slice none 0 0) [] := .inl ⟨rfl, rfl⟩
theorem ownI_shape {w : World} {B n : Nat} {e : TypeId} {v : Value} {xs : List Value} (h : w.ownsRow B e 1 v n xs) : ∃ A c, v = .slice A n c := by
 rcases h.2 with ⟨rfl, rfl⟩ | ⟨g, cap, cur, rfl, _⟩
 ·exact ⟨none, 0, rfl⟩
 ·exact ⟨_, _, rfl⟩
theorem own_of_rowIs {w : World} {g B t n : Nat} {f : Nat → Value} {L : List Int} (h : w.rowIs g t n f) (hB : B ≤ g) (hm : n ≤ maxLen) (hL : L.length = n) (hf : ∀ j x, L[j]? = some x → f j = .int .i64 x) :
  w.ownsRow B t 1 (.slice (some ⟨g, 0, none⟩) n n) n (intCells L) := by
 obtain ⟨c, hb, hs, hc⟩ := h
 refine ⟨by rw [intCells_length, hL]; omega, .inr ⟨g, n, c, rfl, hB, hb, Nat.le_refl _, hm, by omega, ?_⟩⟩
 rw [List.take_of_length_le (by rw [Array.length_toList]; omega)]
 apply List.ext_getElem?
 intro k
 rw [Array.getElem?_toList, intCells_get]
 by_cases hk : k < n
 ·rw [hc k hk]
  have e : L[k]? = some (L[k]'(by omega)) := List.getElem?_eq_getElem _
  rw [e, hf k _ e]
  rfl
 ·rw [Array.getElem?_eq_none (by omega), List.getElem?_eq_none (by omega)]
  rfl
theorem belI_call {a w w' : World} (h : Below a.heap.size a w) (hb : Below w.heap.size w w') : Below a.heap.size a w' := h.trans (hb.mono h.size)
theorem belI_box (w : World) (o : Obj) : Below w.heap.size w (w.alloc o) := (Below.refl _ _).alloc (Nat.le_refl _) _
def ImAt (w : World) (g : Nat) (t : TypeId) (W H : Int) (v : Value) : Prop := w.heap[g]? = some (.cells #[.int .i64 W, .int .i64 H, v] t (0, 0))
theorem ImAt.lt {w : World} {g : Nat} {t : TypeId} {W H : Int} {v : Value} (h : ImAt w g t W H v) : g < w.heap.size := (Array.getElem?_eq_some_iff.1 h).1
theorem ImAt.cells {w : World} {g : Nat} {t : TypeId} {W H : Int} {v : Value} (h : ImAt w g t W H v) :
  w.cell? ⟨g, 0, none⟩ = some (.int .i64 W) ∧ w.cell? ⟨g, 1, none⟩ = some (.int .i64 H) ∧ w.cell? ⟨g, 2, none⟩ = some v := by
 unfold ImAt at h
 refine ⟨?_, ?_, ?_⟩ <;> simp [World.cell?, h]
theorem ImAt.frozen {w : World} {g : Nat} {t : TypeId} {W H : Int} {v : Value} (h : ImAt w g t W H v) (o : Nat) : w.frozen? ⟨g, o, none⟩ = false := by
 unfold ImAt at h; simp [World.frozen?, h]
theorem ImAt.below {w w' : World} {g B : Nat} {t : TypeId} {W H : Int} {v : Value} (h : ImAt w g t W H v) (hb : Below B w w') (hg : g < B) : ImAt w' g t W H v := (hb.block g hg).trans h
theorem ImAt.call {w w' : World} {g : Nat} {t : TypeId} {W H : Int} {v : Value} (h : ImAt w g t W H v) (hb : Below w.heap.size w w') : ImAt w' g t W H v := h.below hb h.lt
theorem ImAt.alloc {w : World} {g : Nat} {t : TypeId} {W H : Int} {v : Value} (h : ImAt w g t W H v) (o : Obj) : ImAt (w.alloc o) g t W H v := (Below.heap_alloc w o g h.lt).trans h
theorem ImAt.new (w : World) (t : TypeId) (W H : Int) (v : Value) : ImAt (w.alloc (.cells #[.int .i64 W, .int .i64 H, v] t)) w.heap.size t W H v := heap_alloc_new w _
theorem ImAt.newAt {w : World} {g : Nat} (h : w.heap.size = g) (t : TypeId) (W H : Int) (v : Value) : ImAt (w.alloc (.cells #[.int .i64 W, .int .i64 H, v] t)) g t W H v := h ▸ ImAt.new w t W H v
theorem ImAt.drew {w : World} {g : Nat} {t : TypeId} {W H : Int} {v : Value} (h : ImAt w g t W H v) : ImAt w.drew g t W H v := h
theorem ImAt.far {w : World} {g : Nat} {t : TypeId} {W H : Int} {v : Value} (h : ImAt w g t W H v) {p : Addr} (hp : g ≠ p.block) (u : Value) : ImAt (w.setCell p u) g t W H v := (Below.heap_setCell w p u g hp).trans h
theorem ImAt.set0 {w : World} {g : Nat} {t : TypeId} {W H : Int} {v : Value} (h : ImAt w g t W H v) (x : Int) : ImAt (w.setCell ⟨g, 0, none⟩ (.int .i64 x)) g t x H v := by
 unfold ImAt at *
 simp [World.setCell, Array.getElem?_modify, h]
theorem ImAt.set1 {w : World} {g : Nat} {t : TypeId} {W H : Int} {v : Value} (h : ImAt w g t W H v) (x : Int) : ImAt (w.setCell ⟨g, 1, none⟩ (.int .i64 x)) g t W x v := by
 unfold ImAt at *
 simp [World.setCell, Array.getElem?_modify, h]
theorem ImAt.set2 {w : World} {g : Nat} {t : TypeId} {W H : Int} {v : Value} (h : ImAt w g t W H v) (u : Value) : ImAt (w.setCell ⟨g, 2, none⟩ u) g t W H u := by
 unfold ImAt at *
 simp [World.setCell, Array.getElem?_modify, h]
theorem ImAt.set3 {w : World} {g : Nat} {t : TypeId} {W H : Int} {v : Value} (h : ImAt w g t W H v) (x y : Int) (u : Value) : ImAt (((w.setCell ⟨g, 0, none⟩ (.int .i64 x)).setCell ⟨g, 1, none⟩ (.int .i64 y)).setCell ⟨g, 2, none⟩ u) g t x y u :=
 ((h.set0 x).set1 y).set2 u
end Go.Proofs.Ytdgagooldlnpeaa
namespace Go.Proofs.Ytdgagooldlnpeaa
open Go.RowKit
structure Chg (w w' : World) (bs : List Nat) : Prop where
 os : w'.os = w.os
 tape : w'.tape = w.tape
 output : w'.output = w.output
 size : w.heap.size ≤ w'.heap.size
 block : ∀ k, k < w.heap.size → k ∉ bs → w'.heap[k]? = w.heap[k]?
theorem Chg.refl (w : World) (bs : List Nat) : Chg w w bs := ⟨rfl, rfl, rfl, Nat.le_refl _, fun _ _ _ => rfl⟩
theorem Chg.trans {a b c : World} {bs : List Nat} (h : Chg a b bs) (k : Chg b c bs) : Chg a c bs :=
 ⟨k.os.trans h.os, k.tape.trans h.tape, k.output.trans h.output, Nat.le_trans h.size k.size, fun j hj hn => (k.block j (Nat.lt_of_lt_of_le hj h.size) hn).trans (h.block j hj hn)⟩
theorem Chg.mono {w w' : World} {bs cs : List Nat} (h : Chg w w' bs) (hs : ∀ b ∈ bs, b ∈ cs) : Chg w w' cs := ⟨h.os, h.tape, h.output, h.size, fun k hk hn => h.block k hk fun hb => hn (hs k hb)⟩
theorem Chg.of_below {w w' : World} (bs : List Nat) (h : Below w.heap.size w w') : Chg w w' bs := ⟨h.os, h.tape, h.output, h.size, fun k hk _ => h.block k hk⟩
theorem Chg.below {w w' w0 : World} {bs : List Nat} (h : Chg w w' bs) {B : Nat} (hw : Below B w0 w) (hB : B ≤ w.heap.size) (hb : ∀ b ∈ bs, B ≤ b) : Below B w0 w' :=
 ⟨h.os.trans hw.os, h.tape.trans hw.tape, h.output.trans hw.output, Nat.le_trans hw.size h.size, fun k hk => (h.block k (Nat.lt_of_lt_of_le hk hB) fun e => by have := hb k e; omega).trans (hw.block k hk)⟩
theorem Chg.setCell (w : World) (p : Addr) (v : Value) : Chg w (w.setCell p v) [p.block] := ⟨rfl, rfl, rfl, by simp, fun k _ hn => Below.heap_setCell w p v k (by simpa using hn)⟩
structure Rep (α : Type) where
 R : World → α → List Value → List Nat → Prop
 ex : ∀ {w : World} {a : α} {vs : List Value} {bs : List Nat}, R w a vs bs → ∀ b ∈ bs, b < w.heap.size
 keep : ∀ {w w' : World} {a : α} {vs : List Value} {bs : List Nat}, R w a vs bs → (∀ b ∈ bs, w'.heap[b]? = w.heap[b]?) → R w' a vs bs
section
variable {α : Type} {E : Rep α} {w w' : World} {a : α} {vs : List Value} {bs cs : List Nat}
theorem Rep.call (h : E.R w a vs bs) (hb : Below w.heap.size w w') : E.R w' a vs bs := E.keep h fun b hb' => hb.block b (E.ex h b hb')
structure Rep.Own (E : Rep α) (B : Nat) (w : World) (a : α) (vs : List Value) (bs : List Nat) : Prop where
 r : E.R w a vs bs
 nd : bs.Nodup
 lo : ∀ b ∈ bs, B ≤ b
theorem Rep.Own.call {B : Nat} (h : E.Own B w a vs bs) (hb : Below w.heap.size w w') : E.Own B w' a vs bs := ⟨Rep.call h.r hb, h.nd, h.lo⟩
theorem Rep.Own.mono {B B' : Nat} (h : E.Own B w a vs bs) (hB : B' ≤ B) : E.Own B' w a vs bs := ⟨h.r, h.nd, fun b hb => Nat.le_trans hB (h.lo b hb)⟩
end
section
variable {α : Type} {E : Rep α} {w w' : World}
end
theorem own_keepB {w w' : World} {B : Nat} {e : TypeId} {s : Nat} {v : Value} {n : Nat} {xs : List Value} (h : w.ownsRow B e s v n xs) (hk : ∀ b ∈ v.ownBlock.toList, w'.heap[b]? = w.heap[b]?) : w'.ownsRow B e s v n xs := by
 rcases h with ⟨h1, h2 | ⟨g, cap, cur, rfl, hg, hh, h3⟩⟩
 ·exact ⟨h1, .inl h2⟩
 ·exact ⟨h1, .inr ⟨g, cap, cur, rfl, hg, (hk g (by simp [Value.ownBlock])).trans hh, h3⟩⟩
theorem own_ltB {w : World} {B : Nat} {e : TypeId} {s : Nat} {v : Value} {n : Nat} {xs : List Value} (h : w.ownsRow B e s v n xs) : ∀ b ∈ v.ownBlock.toList, B ≤ b ∧ b < w.heap.size := fun b hb => h.lt b (by simpa using hb)
theorem own_rebase {w : World} {B C : Nat} {e : TypeId} {s : Nat} {v : Value} {n : Nat} {xs : List Value} (h : w.ownsRow B e s v n xs) (hC : ∀ b ∈ v.ownBlock.toList, C ≤ b) : w.ownsRow C e s v n xs := by
 rcases h with ⟨h1, h2 | ⟨g, cap, cur, rfl, hg, h3⟩⟩
 ·exact ⟨h1, .inl h2⟩
 ·exact ⟨h1, .inr ⟨g, cap, cur, rfl, hC g (by simp [Value.ownBlock]), h3⟩⟩
def repInts : Rep (List Int) where
 R := fun w L vs bs => ∃ v, vs = [v] ∧ w.ownsRow 0 3 1 v L.length (intCells L) ∧ bs = v.ownBlock.toList
 ex := by rintro w a vs bs ⟨v, rfl, h, rfl⟩ b hb; exact (own_ltB h b hb).2
 keep := by rintro w w' a vs bs ⟨v, rfl, h, rfl⟩ hk; exact ⟨v, rfl, own_keepB h hk, rfl⟩
theorem repInts_own {w : World} {B : Nat} {v : Value} {L : List Int} (h : w.ownsRow B 3 1 v L.length (intCells L)) : repInts.Own B w L [v] v.ownBlock.toList :=
 ⟨⟨v, rfl, own_rebase h fun _ _ => Nat.zero_le _, rfl⟩, by cases v.ownBlock <;> simp, fun b hb => (own_ltB h b hb).1⟩
theorem repInts_rd {w : World} {v : Value} {L : List Int} {bs : List Nat} (h : repInts.R w L [v] bs) : RdI w v L := by
 obtain ⟨u, hu, h, _⟩ := h
 obtain rfl : v = u := by simpa using hu
 exact RdI.of_own h
end Go.Proofs.Ytdgagooldlnpeaa
namespace Go.Proofs.Ytdgagooldlnpeaa
open Go.RowKit
def BkAt (w : World) (g : Nat) (t : TypeId) (cs : Array Value) : Prop := w.heap[g]? = some (.cells cs t (0, 0))
theorem BkAt.lt {w : World} {g : Nat} {t : TypeId} {cs : Array Value} (h : BkAt w g t cs) : g < w.heap.size := (Array.getElem?_eq_some_iff.1 h).1
theorem BkAt.cell {w : World} {g : Nat} {t : TypeId} {cs : Array Value} (h : BkAt w g t cs) (i : Nat) {v : Value} (hv : cs[i]? = some v) : w.cell? ⟨g, i, none⟩ = some v := by
 unfold BkAt at h; simp [World.cell?, h, hv]
theorem BkAt.frozen {w : World} {g : Nat} {t : TypeId} {cs : Array Value} (h : BkAt w g t cs) (i : Nat) : w.frozen? ⟨g, i, none⟩ = false := by
 unfold BkAt at h; simp [World.frozen?, h]
theorem BkAt.below {w w' : World} {g B : Nat} {t : TypeId} {cs : Array Value} (h : BkAt w g t cs) (hb : Below B w w') (hg : g < B) : BkAt w' g t cs := (hb.block g hg).trans h
theorem BkAt.call {w w' : World} {g : Nat} {t : TypeId} {cs : Array Value} (h : BkAt w g t cs) (hb : Below w.heap.size w w') : BkAt w' g t cs := h.below hb h.lt
theorem BkAt.alloc {w : World} {g : Nat} {t : TypeId} {cs : Array Value} (h : BkAt w g t cs) (o : Obj) : BkAt (w.alloc o) g t cs := (Below.heap_alloc w o g h.lt).trans h
theorem BkAt.new (w : World) (t : TypeId) (cs : Array Value) : BkAt (w.alloc (.cells cs t)) w.heap.size t cs := heap_alloc_new w _
theorem BkAt.newAt {w : World} {g : Nat} (h : w.heap.size = g) (t : TypeId) (cs : Array Value) : BkAt (w.alloc (.cells cs t)) g t cs := h ▸ BkAt.new w t cs
theorem BkAt.drew {w : World} {g : Nat} {t : TypeId} {cs : Array Value} (h : BkAt w g t cs) : BkAt w.drew g t cs := h
theorem BkAt.far {w : World} {g : Nat} {t : TypeId} {cs : Array Value} (h : BkAt w g t cs) {p : Addr} (hp : g ≠ p.block) (v : Value) : BkAt (w.setCell p v) g t cs := (Below.heap_setCell w p v g hp).trans h
theorem BkAt.set {w : World} {g : Nat} {t : TypeId} {cs : Array Value} (h : BkAt w g t cs) (i : Nat) (v : Value) : BkAt (w.setCell ⟨g, i, none⟩ v) g t (cs.setIfInBounds i v) := by
 unfold BkAt at *
 simp [World.setCell, Array.getElem?_modify, h]
end Go.Proofs.Ytdgagooldlnpeaa
namespace Go.Proofs.Ytdgagooldlnpeaa
open Go.RowKit
theorem Chg.call {w w' : World} {bs : List Nat} (h : Chg w w' bs) {W : World} (hb : Below w'.heap.size w' W) : Chg w W bs := h.trans (Chg.of_below bs hb)
theorem Chg.setB (w : World) (g o : Nat) (v : Value) (bs : List Nat) (h : g ∈ bs) : Chg w (w.setCell ⟨g, o, none⟩ v) bs := (Chg.setCell w ⟨g, o, none⟩ v).mono fun b hb => by rw [List.mem_singleton.1 hb]; exact h
theorem BkAt.put {w : World} {g : Nat} {t : TypeId} {cs cs' : Array Value} (h : BkAt w g t cs) (i : Nat) (v : Value) (hz : cs.setIfInBounds i v = cs') : BkAt (w.setCell ⟨g, i, none⟩ v) g t cs' := hz ▸ h.set i v
theorem mem2 {b x y : Nat} (h : b ∈ [x, y]) : b = x ∨ b = y := by simpa using h
theorem own_chg {w w' : World} {B : Nat} {e : TypeId} {s : Nat} {v : Value} {n : Nat} {xs : List Value} {cs : List Nat} (h : w.ownsRow B e s v n xs) (hc : Chg w w' cs) (hn : ∀ b ∈ cs, b < B) : w'.ownsRow B e s v n xs :=
 own_keepB h fun b hb => hc.block b (own_ltB h b hb).2 fun e => by have := hn b e; have := (own_ltB h b hb).1; omega
structure Wk (α : Type) where
 R : World → α → List Value → Prop
 call : ∀ {w w' : World} {a : α} {vs : List Value}, R w a vs → Below w.heap.size w w' → R w' a vs
def wkSl {α : Type} (F : Wk α) (s : Nat) : Wk (List α) where
 R := fun w L vs => L.length ≤ maxLen ∧ ∃ A c, vs = [.slice A L.length c] ∧ ∀ k a, L[k]? = some a → ∃ ad xs, A = some ad ∧ xs.length = s ∧ F.R w a xs ∧ ∀ j u, xs[j]? = some u → w.cell? (ad.add (k * s + j)) = some u
 call := by
  rintro w w' L vs ⟨hm, A, c, rfl, h⟩ hb
  refine ⟨hm, A, c, rfl, fun k a hk => ?_⟩
  obtain ⟨ad, xs, e, hl, hR, hc⟩ := h k a hk
  refine ⟨ad, xs, e, hl, F.call hR hb, fun j u hu => ?_⟩
  have h1 := hc j u hu
  have hlt := World.block_lt_of_cell? w _ h1
  rw [← h1]
  exact World.cell?_of_block (hb.block _ hlt)
section
variable {α : Type} {F : Wk α} {t : TypeId} {b : Nat} {a : α} {vs : List Value} {W W' : World}
end
section
variable {α : Type} {E : Rep α} {t : TypeId} {lo hi b : Nat} {a a' : α} {vs : List Value} {bs cs : List Nat} {W W' : World}
end
end Go.Proofs.Ytdgagooldlnpeaa
namespace Go.Proofs.Ytdgagooldlnpeaa
open Go.RowKit
structure Sf where
 id : Int
 x : Int
 y : Int
 w : Int
 h : Int
 alpha : Int
 orient : Int
 vis : Bool
 bw : Int
 bh : Int
 data : List Int
structure Sn where
 w : Int
 h : Int
 back : Int
 fs : List Sf
structure Ed where
 kind : Int
 id : Int
 a : Int
 b : Int
 bw : Int
 bh : Int
 data : List Int
def sfCells (f : Sf) (d : Value) : List Value := [.int .i64 f.id, .int .i64 f.x, .int .i64 f.y, .int .i64 f.w, .int .i64 f.h, .int .i64 f.alpha, .int .i64 f.orient, .bool f.vis, .int .i64 f.bw, .int .i64 f.bh, d]
def repSf : Rep Sf where
 R := fun w f vs bs => ∃ d, vs = sfCells f d ∧ repInts.R w f.data [d] bs
 ex := by rintro w f vs bs ⟨d, rfl, h⟩; exact repInts.ex h
 keep := by rintro w w' f vs bs ⟨d, rfl, h⟩ hk; exact ⟨d, rfl, repInts.keep h hk⟩
def wkSf : Wk Sf where
 R := fun w f vs => ∃ d, vs = sfCells f d ∧ Rd w d f.data.length (intCells f.data)
 call := by rintro w w' f vs ⟨d, rfl, h⟩ hb; exact ⟨d, rfl, h.call hb⟩
def edCells (e : Ed) (d : Value) : List Value := [.int .i64 e.kind, .int .i64 e.id, .int .i64 e.a, .int .i64 e.b, .int .i64 e.bw, .int .i64 e.bh, d]
def wkEd : Wk Ed where
 R := fun w f vs => ∃ d, vs = edCells f d ∧ Rd w d f.data.length (intCells f.data)
 call := by rintro w w' f vs ⟨d, rfl, h⟩ hb; exact ⟨d, rfl, h.call hb⟩
def snCells (s : Sn) (v : Value) : List Value := [.int .i64 s.w, .int .i64 s.h, .int .i64 s.back, v]
end Go.Proofs.Ytdgagooldlnpeaa
namespace Go.Proofs.Ytdgagooldlnpeaa
open Go.RowKit
def ImAns (W H : Int) (L : List Int) (w : World) (e : Ending) (w' : World) : Prop :=
 ∃ v, e = .returned (.agg #[.int .i64 W, .int .i64 H, v]) ∧ w'.ownsRow w.heap.size 3 1 v L.length (intCells L) ∧ Below w.heap.size w w'
theorem ownI_far {w : World} {B n : Nat} {e : TypeId} {v : Value} {xs : List Value} (h : w.ownsRow B e 1 v n xs) {p : Addr} (hp : ∀ g, v.ownBlock = some g → g ≠ p.block) (u : Value) : (w.setCell p u).ownsRow B e 1 v n xs :=
 h.kept (row := some p.block) ⟨rfl, rfl, rfl, by simp, fun k _ hk => Below.heap_setCell w p u k (fun e => hk (by rw [e]))⟩ (by
  by_cases hv : v.ownBlock = none
  ·exact .inl hv
  ·obtain ⟨k, hk⟩ := Option.ne_none_iff_exists'.1 hv
   exact .inr fun e => hp k hk (by rw [hk] at e; exact Option.some.inj e))
end Go.Proofs.Ytdgagooldlnpeaa
namespace Go.Proofs.Ytdgagooldlnpeaa
open Go.RowKit
theorem zPa {α : Type} (l : List α) (i : Nat) (a : α) : l.toArray.setIfInBounds i a = (l.set i a).toArray := List.setIfInBounds_toArray l i a
theorem zPb {α : Type} {x : α} {xs : List α} {a : α} : (x :: xs).set 0 a = a :: xs := rfl
theorem zPc {α : Type} {x : α} {xs : List α} {i : Nat} {a : α} : (x :: xs).set (i + 1) a = x :: xs.set i a := rfl
theorem zGa {α : Type} {xs : List α} {i : Nat} (h : i < xs.toArray.size) : xs.toArray[i]'h = xs[i]'(by simpa using h) := rfl
theorem zGb {α : Type} (a : α) (l : List α) (i : Nat) (h : i + 1 < (a :: l).length) : getElem (a :: l) (i + 1) h = getElem l i (Nat.lt_of_succ_lt_succ h) := rfl
theorem zGc {α : Type} (a : α) (l : List α) (h : 0 < (a :: l).length) : getElem (a :: l) 0 h = a := rfl
theorem tcH {P : Program} {ops : Array Oper} {Q : Exit → Act → World → Prop} {md : Region.Mode} {S : World → Prop} {i : Nat} {oi : Oper} {v : Value} {fuel : Nat} {listed : Array Bool} {a : Act} {w : World} (hi : ops[i]? = some oi)
    (hy : ∀ w', S w' → (execOp a.eval oi).run P w' = .ok (.value v) w') (h : wpAnyH P md ops Q S fuel (listed.setIfInBounds i true) (a.put oi.dst v) w)
    (hs : Region.noSelect ops = true := by kernel_rfl) (hf : Region.free md ops listed i = true := by kernel_rfl) (hr : (Region.ready md ops listed).contains i = true := by kernel_rfl)
    (hQ : ∀ c a w, Q (.panic c) (a.put oi.dst v) w → Q (.panic c) a w := by exact fun _ _ _ h => h) (hw : Region.wanted oi (yielded ops a.tmps) = true := by kernel_rfl)
    (hS : S w := by assumption) : wpAnyH P md ops Q S (fuel + 1) listed a w :=
  wpAnyH_take hi hs hf hr hQ (Or.inl ⟨hw, hy⟩) hS h
end Go.Proofs.Ytdgagooldlnpeaa
namespace Go.Proofs.Ytdgagooldlnpeaa
open Go.RowKit
def wkSfs : Wk (List Sf) := wkSl wkSf 11
end Go.Proofs.Ytdgagooldlnpeaa
namespace Go.Proofs.Ytdgagooldlnpeaa
open Go.RowKit
def SfAns (f : Sf) (w : World) (e : Ending) (w' : World) : Prop := ∃ d, e = .returned (.agg #[.int .i64 f.id, .int .i64 f.x, .int .i64 f.y, .int .i64 f.w, .int .i64 f.h, .int .i64 f.alpha, .int .i64 f.orient, .bool f.vis, .int .i64 f.bw, .int .i64 f.bh, d]) ∧ w'.ownsRow w.heap.size 3 1 d f.data.length (intCells f.data) ∧ Below w.heap.size w w'
end Go.Proofs.Ytdgagooldlnpeaa
