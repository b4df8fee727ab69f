/- Texts of mine in one file: ImC, ImN, SnM, SlU, LawS. No statement is proved here. -/
import Derived.Test.YtnndifemkichmaaMA
import Derived.Test.YtnndifemkichmaaMC
import Derived.Test.YtnndifemkichmaaProg
import Derived.WalkKit
import Derived.ProofKit
import Derived.OpenShut
import Derived.WalkLawsBesides
import Derived.WalkSpells
import Derived.ShutString
import Derived.ChangeOld
import Derived.Below
import Derived.Lib.Hide
import Derived.BigQuiet
import Derived.Deep.QuietTactic
import Derived.Maps.AppendAt
import Derived.Deep.OwnRows
import Derived.Handy
import Derived.Deep.Draws
import Derived.OwnWalk
import Derived.Deep.AppendLies
import Derived.Deep.LoopGhost
import Derived.Deep.Onto
import Derived.Test.YtnndifemkichmaaShelf
import Derived.Laws.CopyOwn
import Derived.Deep.RegionLaw
import Derived.Deep.RegionHeld3
import Derived.Deep.DeepCutAuto
import Derived.Great.BuildSlice
import Derived.Laws.BitsAllLaws
import Derived.Lib.QuoteBits
import Derived.Deep.MidRow
import Derived.Deep.WholeRow
import Derived.Laws.AppendOwn
namespace Go.Proofs.Ytnndifemkichmaa
open Go.RowKit
theorem wrap_in (x : Int) (h0 : -9223372036854775808 ≤ x) (h1 : x ≤ 9223372036854775807) : IntKind.i64.wrap x = x := by
 simp [IntKind.wrap, IntKind.bits, IntKind.signed]; omega
end Go.Proofs.Ytnndifemkichmaa
namespace Go.Proofs.Ytnndifemkichmaa
open Go.RowKit
structure Im where
 w : Int
 h : Int
 d : List Int
end Go.Proofs.Ytnndifemkichmaa
namespace Go.Proofs.Ytnndifemkichmaa
open Go.RowKit
def repSn : Rep Sn where
 R := fun w s vs bs => ∃ v, vs = snCells s v ∧ repSfs.R w s.fs [v] bs
 ex := by rintro w f vs bs ⟨d, rfl, h⟩; exact repSfs.ex h
 keep := by rintro w w' f vs bs ⟨d, rfl, h⟩ hk; exact ⟨d, rfl, repSfs.keep h hk⟩
def wkSn : Wk Sn where
 R := fun w s vs => ∃ v, vs = snCells s v ∧ wkSfs.R w s.fs [v]
 call := by rintro w w' f vs ⟨d, rfl, h⟩ hb; exact ⟨d, rfl, wkSfs.call h hb⟩
def wkEds : Wk (List Ed) := wkSl wkEd 7
theorem r_sn {w : World} {s : Sn} {v : Value} {bs : List Nat} (h : repSn.R w s [.int .i64 s.w, .int .i64 s.h, .int .i64 s.back, v] bs) : repSfs.R w s.fs [v] bs := by
 obtain ⟨v', e, h⟩ := h
 have e2 : v = v' := by simpa [snCells] using e
 subst e2
 exact h
theorem own_sn {B : Nat} {w : World} {s : Sn} {v : Value} {bs : List Nat} (h : repSn.Own B w s [.int .i64 s.w, .int .i64 s.h, .int .i64 s.back, v] bs) : repSfs.Own B w s.fs [v] bs := ⟨r_sn h.r, h.nd, h.lo⟩
theorem own_sn' {B : Nat} {w : World} {s : Sn} {v : Value} {bs : List Nat} (h : repSfs.Own B w s.fs [v] bs) : repSn.Own B w s [.int .i64 s.w, .int .i64 s.h, .int .i64 s.back, v] bs := ⟨⟨v, rfl, h.r⟩, h.nd, h.lo⟩
theorem form_sn {w : World} {s : Sn} {v : Value} {bs : List Nat} (h : repSn.R w s [.int .i64 s.w, .int .i64 s.h, .int .i64 s.back, v] bs) : ∃ A c, v = .slice A s.fs.length c := (repSfs_form (r_sn h)).1
theorem wr_sn {w : World} {s : Sn} {v : Value} (h : wkSn.R w s [.int .i64 s.w, .int .i64 s.h, .int .i64 s.back, v]) : wkSfs.R w s.fs [v] := by
 obtain ⟨v', e, h⟩ := h
 have e2 : v = v' := by simpa [snCells] using e
 subst e2
 exact h
theorem wkSl_form {α : Type} {F : Wk α} {s : Nat} {w : World} {L : List α} {v : Value} (h : (wkSl F s).R w L [v]) : (∃ A c, v = .slice A L.length c) ∧ L.length ≤ maxLen := by
 obtain ⟨hm, A, c, e, _⟩ := h
 obtain rfl : v = .slice A L.length c := by simpa using e
 exact ⟨⟨_, _, rfl⟩, hm⟩
theorem wform_sn {w : World} {s : Sn} {v : Value} (h : wkSn.R w s [.int .i64 s.w, .int .i64 s.h, .int .i64 s.back, v]) : ∃ A c, v = .slice A s.fs.length c := (wkSl_form (wr_sn h)).1
def lenFs (L : List Sf) : Nat := (L.map fun f => f.data.length).sum
def sizFs (L : List Sf) : Nat := L.length + lenFs L
theorem lenFs_take {L : List Sf} {k : Nat} {f : Sf} (h : L[k]? = some f) : lenFs (L.take (k + 1)) = lenFs (L.take k) + f.data.length := by
 unfold lenFs
 rw [List.take_add_one, h, Option.toList_some, List.map_append, List.sum_append]
 simp
theorem lenFs_le (L : List Sf) (k : Nat) : lenFs (L.take k) ≤ lenFs L := by
 unfold lenFs
 conv => rhs; rw [← List.take_append_drop k L, List.map_append, List.sum_append]
 omega
theorem lenFs_at {L : List Sf} {k : Nat} {f : Sf} (h : L[k]? = some f) : f.data.length ≤ lenFs L := by
 have := lenFs_le L (k + 1); rw [lenFs_take h] at this; omega
def mixG {α : Type} (M L : List α) (k : Nat) : List α := M.take k ++ L.drop k
section
variable {α : Type} {M L : List α} {k : Nat}
theorem mix_zero (M L : List α) : mixG M L 0 = L := by simp [mixG]
theorem mix_all (h : M.length = L.length) : mixG M L L.length = M := by
 unfold mixG; rw [List.drop_length, List.append_nil, List.take_of_length_le (by omega)]
theorem mix_len (h : M.length = L.length) (k : Nat) : (mixG M L k).length = L.length := by
 unfold mixG; rw [List.length_append, List.length_take, List.length_drop]; omega
theorem mix_set (h : M.length = L.length) {g : α} (hg : M[k]? = some g) : (mixG M L k).set k g = mixG M L (k + 1) := by
 have hk : k < M.length := (List.getElem?_eq_some_iff.1 hg).1
 apply List.ext_getElem?
 intro j
 by_cases e : j = k
 ·subst e
  rw [List.getElem?_set_self (by rw [mix_len h]; omega)]
  unfold mixG
  rw [List.getElem?_append_left (by rw [List.length_take]; omega), List.getElem?_take_of_lt (by omega), hg]
 ·rw [List.getElem?_set_ne (Ne.symm e)]
  unfold mixG
  by_cases hj : j < k
  ·rw [List.getElem?_append_left (by rw [List.length_take]; omega), List.getElem?_append_left (by rw [List.length_take]; omega), List.getElem?_take_of_lt hj, List.getElem?_take_of_lt (by omega)]
  ·rw [List.getElem?_append_right (by rw [List.length_take]; omega), List.getElem?_append_right (by rw [List.length_take]; omega), List.length_take, List.length_take, List.getElem?_drop, List.getElem?_drop]
   congr 1
   omega
end
end Go.Proofs.Ytnndifemkichmaa
namespace Go.Proofs.Ytnndifemkichmaa
open Go.RowKit
structure SlU {α : Type} (E : Rep α) (e : TypeId) (s : Nat) (w : World) (L : List α) (g c n : Nat) (xs : List (List Value)) (bss : List (List Nat)) : Prop where
 rr : rowsR E w L xs bss
 ls : ∀ x ∈ xs, x.length = s
 ow : w.ownsRow 0 e s (.slice (some ⟨g, 0, none⟩) n c) n xs.flatten
 hn : n = L.length
section
variable {α : Type} {E : Rep α} {e : TypeId} {s : Nat} {w w' : World} {L : List α} {g c n : Nat} {xs : List (List Value)} {bss : List (List Nat)}
theorem SlU.lt (h : SlU E e s w L g c n xs bss) : g < w.heap.size := (own_ltB h.ow g (by simp [Value.ownBlock])).2
theorem SlU.call (h : SlU E e s w L g c n xs bss) (hb : Below w.heap.size w w') : SlU E e s w' L g c n xs bss :=
 ⟨rowsR_keep h.rr fun b hb' => hb.block b (rowsR_ex h.rr b hb'), h.ls, own_keepB h.ow fun b hb' => hb.block b (own_ltB h.ow b hb').2, h.hn⟩
theorem SlU.at_ (h : SlU E e s w L g c n xs bss) {k : Nat} (hk : k < n) : ∃ a x b, L[k]? = some a ∧ xs[k]? = some x ∧ bss[k]? = some b ∧ x.length = s ∧ E.R w a x b ∧ ∀ j u, x[j]? = some u → w.cell? ⟨g, k * s + j, none⟩ = some u := by
 have hL := List.getElem?_eq_getElem (show k < L.length by rw [← h.hn]; exact hk)
 obtain ⟨x, b, hx, hb, hR⟩ := rowsR_at h.rr k _ hL
 have hl := h.ls x (List.mem_of_getElem? hx)
 refine ⟨_, x, b, hL, hx, hb, hl, hR, fun j u hu => ?_⟩
 have hj : j < s := by have := (List.getElem?_eq_some_iff.1 hu).1; omega
 exact own_cellI h.ow (by rw [flat_at h.ls k j hx hj]; exact hu)
theorem SlU.frozen (h : SlU E e s w L g c n xs bss) (j : Nat) : w.frozen? ⟨g, j, none⟩ = false := h.ow.frozenAt j
theorem SlU.rep (h : SlU E e s w L g c n xs bss) : (repSl E e s).R w L [.slice (some ⟨g, 0, none⟩) n c] (g :: bss.flatten) := ⟨_, xs, bss, rfl, h.rr, h.ls, by rw [← h.hn]; exact h.ow, by simp [Value.ownBlock]⟩
theorem SlU.of_rep {v : Value} {bs : List Nat} (h : (repSl E e s).R w L [v] bs) : (v = .slice none 0 0 ∧ L = [] ∧ bs = []) ∨ ∃ g c xs bss, v = .slice (some ⟨g, 0, none⟩) L.length c ∧ SlU E e s w L g c L.length xs bss ∧ bs = g :: bss.flatten := by
 obtain ⟨v', xs, bss, he, hr, hs, ho, rfl⟩ := h
 obtain rfl : v = v' := by simpa using he
 rcases ho.2 with ⟨rfl, h0⟩ | ⟨g, cap, cur, rfl, _⟩
 ·have hL : L = [] := List.eq_nil_of_length_eq_zero h0
  subst hL
  have := (rowsR_len hr).2
  obtain rfl : bss = [] := List.eq_nil_of_length_eq_zero this
  exact .inl ⟨rfl, rfl, rfl⟩
 ·exact .inr ⟨g, cap, xs, bss, rfl, ⟨hr, hs, ho, rfl⟩, by simp [Value.ownBlock]⟩
theorem own_setK {xs : List (List Value)} (ls : ∀ x ∈ xs, x.length = s) (ow : w.ownsRow 0 e s (.slice (some ⟨g, 0, none⟩) n c) n xs.flatten) {k j : Nat} {x : List Value} (hx : xs[k]? = some x) (hj : j < s) (v : Value) :
  (∀ y ∈ xs.set k (x.set j v), y.length = s) ∧ (w.setCell ⟨g, k * s + j, none⟩ v).ownsRow 0 e s (.slice (some ⟨g, 0, none⟩) n c) n (xs.set k (x.set j v)).flatten ∧ w.grownBy (w.setCell ⟨g, k * s + j, none⟩ v) (some g) := by
 obtain ⟨p1, p2⟩ := ow.stored (k * s + j) v
 rw [flat_set ls k j hx v hj] at p1
 refine ⟨fun y hy => ?_, p1, p2⟩
 rcases List.mem_or_eq_of_mem_set hy with h | rfl
 ·exact ls y h
 ·rw [List.length_set]; exact ls x (List.mem_of_getElem? hx)
end
structure SetK (e : TypeId) (s : Nat) (w w' : World) (g c n k : Nat) (xs : List (List Value)) (x' : List Value) : Prop where
 ls : ∀ y ∈ xs.set k x', y.length = s
 ow : w'.ownsRow 0 e s (.slice (some ⟨g, 0, none⟩) n c) n (xs.set k x').flatten
 gr : w.grownBy w' (some g)
theorem SetK.put {e : TypeId} {s : Nat} {w w' : World} {g c n k : Nat} {xs : List (List Value)} {x' y : List Value} (h : SetK e s w w' g c n k xs x') (hk : k < xs.length) (j : Nat) (hj : j < s) (v : Value) (hv : x'.set j v = y) : SetK e s w (w'.setCell ⟨g, k * s + j, none⟩ v) g c n k xs y := by
 obtain ⟨p1, p2, p3⟩ := own_setK h.ls h.ow (k := k) (j := j) (x := x') (by rw [List.getElem?_set_self hk]) hj v
 rw [List.set_set, hv] at p1 p2
 exact ⟨p1, p2, h.gr.trans p3⟩
theorem SetK.zero {α : Type} {E : Rep α} {e : TypeId} {s : Nat} {w : World} {L : List α} {g c n k : Nat} {xs : List (List Value)} {bss : List (List Nat)} {x : List Value} (h : SlU E e s w L g c n xs bss) (hx : xs[k]? = some x) : SetK e s w w g c n k xs x := by
 have hs : xs.set k x = xs := by
  apply List.ext_getElem?
  intro j
  by_cases e : j = k
  ·subst e; rw [List.getElem?_set_self (List.getElem?_eq_some_iff.1 hx).1, hx]
  ·rw [List.getElem?_set_ne (Ne.symm e)]
 exact ⟨by rw [hs]; exact h.ls, by rw [hs]; exact h.ow, World.grownBy.refl _ _⟩
theorem SlU.upd {α : Type} {E : Rep α} {e : TypeId} {s : Nat} {w w' : World} {L : List α} {g c n k : Nat} {xs : List (List Value)} {bss : List (List Nat)} {a' : α} {x' : List Value} {b' : List Nat} (h : SlU E e s w L g c n xs bss) (hk : k < n)
  (ow : w'.ownsRow 0 e s (.slice (some ⟨g, 0, none⟩) n c) n (xs.set k x').flatten) (ls : ∀ y ∈ xs.set k x', y.length = s) (hR : E.R w' a' x' b')
  (hn : ∀ (j : Nat) (d : List Nat), j ≠ k → bss[j]? = some d → ∀ b ∈ d, w'.heap[b]? = w.heap[b]?) : SlU E e s w' (L.set k a') g c n (xs.set k x') (bss.set k b') :=
 ⟨rowsR_upd h.rr k (by rw [← h.hn]; exact hk) hR hn, ls, ow, by rw [List.length_set]; exact h.hn⟩
theorem SlU.own {α : Type} {E : Rep α} {e : TypeId} {s : Nat} {B : Nat} {w : World} {L : List α} {g c n : Nat} {xs : List (List Value)} {bss : List (List Nat)} (h : SlU E e s w L g c n xs bss) (h1 : g ∉ bss.flatten) (h2 : bss.flatten.Nodup) (h3 : B ≤ g) (h4 : ∀ b ∈ bss.flatten, B ≤ b) : (repSl E e s).Own B w L [.slice (some ⟨g, 0, none⟩) n c] (g :: bss.flatten) :=
 ⟨h.rep, List.nodup_cons.2 ⟨h1, h2⟩, fun b hb => by rcases List.mem_cons.1 hb with rfl | hb; exact h3; exact h4 b hb⟩
theorem flat_mem {bss : List (List Nat)} {k : Nat} {d : List Nat} (h : bss[k]? = some d) {b : Nat} (hb : b ∈ d) : b ∈ bss.flatten := List.mem_flatten.2 ⟨d, List.mem_of_getElem? h, hb⟩
end Go.Proofs.Ytnndifemkichmaa
namespace Go.Proofs.Ytnndifemkichmaa
open Go.RowKit
theorem eqIS_own (v u : Value) (L : List Int) (w : World) (hv : RdI w v L) (hu : RdI w u L) :
  Calls Try.prog 59 #[v, u] w fun e w' => e = .returned (.bool true) ∧ Below w.heap.size w w' :=
 (eqIS_same v u L w hv.rd hu.rd).mono fun e w' h => ⟨h.1, by obtain ⟨k, rfl⟩ := h.2; exact below_drewN (Below.refl _ _) k⟩
end Go.Proofs.Ytnndifemkichmaa
