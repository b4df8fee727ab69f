/- Texts of mine in one file: ImN, ImM, SnM, SlU, CpyB, FilB, SameIm, OrdB, SclB, RgK, SclL, PlW, OcJ, OcK, OcS, DmK, SsM, OcU. No statement is proved here. -/
import Derived.Test.YtokniebejilcbaaMBv23
import Derived.Test.YtokniebejilcbaaMAv23
import Derived.Test.YtokniebejilcbaaMAv3
import Derived.Test.YtokniebejilcbaaMAv123
import Derived.Test.YtokniebejilcbaaMA
import Derived.Test.YtokniebejilcbaaProg
import Derived.WalkKit
import Derived.ProofKit
import Derived.OpenShut
import Derived.WalkLawsBesides
import Derived.WalkSpells
import Derived.ShutString
import Derived.ChangeOld
import Derived.Below
import Derived.Lib.Hide
import Derived.BigQuiet
import Derived.Deep.QuietTactic
import Derived.Maps.AppendAt
import Derived.Deep.OwnRows
import Derived.Handy
import Derived.Deep.Draws
import Derived.OwnWalk
import Derived.Deep.AppendLies
import Derived.Deep.LoopGhost
import Derived.Deep.Onto
import Derived.Laws.BitsAllLaws
import Derived.Lib.QuoteBits
import Derived.Test.YtokniebejilcbaaShelf
import Derived.Laws.CopyOwn
import Derived.Deep.RegionLaw
import Derived.Deep.RegionHeld3
import Derived.Deep.DeepCutAuto
import Derived.Great.BuildSlice
import Derived.Deep.MidRow
import Derived.Deep.WholeRow
import Derived.Laws.AppendOwn
import Derived.Shelf.RegionOpenPlain
import Derived.Lib.SliceRun
import Derived.Deep.RegionWith
import Derived.ChangeKeysEq
import Derived.Deep.DeepAppendRoom
import Derived.Maps.RangeWalk
import Derived.Maps.OwnOps
namespace Go.Proofs.Ytokniebejilcbaa
open Go.RowKit
def zeroIm : Im := ⟨0, 0, []⟩
end Go.Proofs.Ytokniebejilcbaa
namespace Go.Proofs.Ytokniebejilcbaa
open Go.RowKit
theorem plc_eq (k W : Nat) : k / W * W + k % W = k := by rw [Nat.mul_comm]; exact Nat.div_add_mod k W
theorem plc_row {W H k : Nat} (h : k < W * H) : k / W < H := Nat.div_lt_of_lt_mul h
end Go.Proofs.Ytokniebejilcbaa
namespace Go.Proofs.Ytokniebejilcbaa
open Go.RowKit
def repSn : Rep Sn where
 R := fun w s vs bs => ∃ v, vs = snCells s v ∧ repSfs.R w s.fs [v] bs
 ex := by rintro w f vs bs ⟨d, rfl, h⟩; exact repSfs.ex h
 keep := by rintro w w' f vs bs ⟨d, rfl, h⟩ hk; exact ⟨d, rfl, repSfs.keep h hk⟩
def wkSn : Wk Sn where
 R := fun w s vs => ∃ v, vs = snCells s v ∧ wkSfs.R w s.fs [v]
 call := by rintro w w' f vs ⟨d, rfl, h⟩ hb; exact ⟨d, rfl, wkSfs.call h hb⟩
def wkEds : Wk (List Ed) := wkSl wkEd 7
theorem r_sn {w : World} {s : Sn} {v : Value} {bs : List Nat} (h : repSn.R w s [.int .i64 s.w, .int .i64 s.h, .int .i64 s.back, v] bs) : repSfs.R w s.fs [v] bs := by
 obtain ⟨v', e, h⟩ := h
 have e2 : v = v' := by simpa [snCells] using e
 subst e2
 exact h
theorem own_sn {B : Nat} {w : World} {s : Sn} {v : Value} {bs : List Nat} (h : repSn.Own B w s [.int .i64 s.w, .int .i64 s.h, .int .i64 s.back, v] bs) : repSfs.Own B w s.fs [v] bs := ⟨r_sn h.r, h.nd, h.lo⟩
theorem own_sn' {B : Nat} {w : World} {s : Sn} {v : Value} {bs : List Nat} (h : repSfs.Own B w s.fs [v] bs) : repSn.Own B w s [.int .i64 s.w, .int .i64 s.h, .int .i64 s.back, v] bs := ⟨⟨v, rfl, h.r⟩, h.nd, h.lo⟩
theorem form_sn {w : World} {s : Sn} {v : Value} {bs : List Nat} (h : repSn.R w s [.int .i64 s.w, .int .i64 s.h, .int .i64 s.back, v] bs) : ∃ A c, v = .slice A s.fs.length c := (repSfs_form (r_sn h)).1
theorem wr_sn {w : World} {s : Sn} {v : Value} (h : wkSn.R w s [.int .i64 s.w, .int .i64 s.h, .int .i64 s.back, v]) : wkSfs.R w s.fs [v] := by
 obtain ⟨v', e, h⟩ := h
 have e2 : v = v' := by simpa [snCells] using e
 subst e2
 exact h
theorem wkSl_form {α : Type} {F : Wk α} {s : Nat} {w : World} {L : List α} {v : Value} (h : (wkSl F s).R w L [v]) : (∃ A c, v = .slice A L.length c) ∧ L.length ≤ maxLen := by
 obtain ⟨hm, A, c, e, _⟩ := h
 obtain rfl : v = .slice A L.length c := by simpa using e
 exact ⟨⟨_, _, rfl⟩, hm⟩
theorem wform_sn {w : World} {s : Sn} {v : Value} (h : wkSn.R w s [.int .i64 s.w, .int .i64 s.h, .int .i64 s.back, v]) : ∃ A c, v = .slice A s.fs.length c := (wkSl_form (wr_sn h)).1
def lenFs (L : List Sf) : Nat := (L.map fun f => f.data.length).sum
def sizFs (L : List Sf) : Nat := L.length + lenFs L
def cntFs (L : List Sf) : Nat := L.length * 10 + lenFs L
def mkSfK (k : Nat) (f : Sf) : Sf := ⟨k, (k + 1 : Nat), (k + 2 : Nat), (k + 3 : Nat), (k + 4 : Nat), (k + 5 : Nat), (k + 6 : Nat), ((k + 7 : Nat) : Int) % 3 == 0, (k + 8 : Nat), (k + 9 : Nat), marksI (k + 10) f.data.length⟩
def mkFs (k : Nat) : List Sf → List Sf
 | [] => []
 | f :: L => mkSfK k f :: mkFs (k + 10 + f.data.length) L
def mkSn (k : Nat) (s : Sn) : Sn := { s with fs := mkFs k s.fs }
theorem mkFs_length (k : Nat) (L : List Sf) : (mkFs k L).length = L.length := by
 induction L generalizing k with
 | nil => rfl
 | cons f L ih => simp [mkFs, ih]
theorem cntFs_take {L : List Sf} {k : Nat} {f : Sf} (h : L[k]? = some f) : cntFs (L.take (k + 1)) = cntFs (L.take k) + 10 + f.data.length := by
 have hk : k < L.length := (List.getElem?_eq_some_iff.1 h).1
 unfold cntFs lenFs
 rw [List.take_add_one, h, Option.toList_some, List.map_append, List.sum_append, List.length_append]
 simp
 omega
theorem lenFs_take {L : List Sf} {k : Nat} {f : Sf} (h : L[k]? = some f) : lenFs (L.take (k + 1)) = lenFs (L.take k) + f.data.length := by
 unfold lenFs
 rw [List.take_add_one, h, Option.toList_some, List.map_append, List.sum_append]
 simp
theorem lenFs_le (L : List Sf) (k : Nat) : lenFs (L.take k) ≤ lenFs L := by
 unfold lenFs
 conv => rhs; rw [← List.take_append_drop k L, List.map_append, List.sum_append]
 omega
theorem lenFs_at {L : List Sf} {k : Nat} {f : Sf} (h : L[k]? = some f) : f.data.length ≤ lenFs L := by
 have := lenFs_le L (k + 1); rw [lenFs_take h] at this; omega
theorem cntFs_le (L : List Sf) (k : Nat) : cntFs (L.take k) ≤ cntFs L := by
 have := lenFs_le L k; unfold cntFs; rw [List.length_take]; omega
theorem mkFs_get {L : List Sf} {k : Nat} {f : Sf} (k0 : Nat) (h : L[k]? = some f) : (mkFs k0 L)[k]? = some (mkSfK (k0 + cntFs (L.take k)) f) := by
  induction L generalizing k k0 with
  | nil => simp at h
  | cons g L ih =>
    cases k with
    | zero =>
      obtain rfl : g = f := by simpa using h
      simp [mkFs, cntFs, lenFs]
    | succ k =>
      have h1 := ih (k0 + 10 + g.data.length) (by simpa using h)
      simp only [mkFs, List.getElem?_cons_succ]
      rw [h1]
      congr 2
      simp [cntFs, lenFs]
      omega
theorem cnt_le_siz (L : List Sf) : cntFs L ≤ 10 * sizFs L := by unfold cntFs sizFs; omega
def mixG {α : Type} (M L : List α) (k : Nat) : List α := M.take k ++ L.drop k
section
variable {α : Type} {M L : List α} {k : Nat}
theorem mix_zero (M L : List α) : mixG M L 0 = L := by simp [mixG]
theorem mix_all (h : M.length = L.length) : mixG M L L.length = M := by
 unfold mixG; rw [List.drop_length, List.append_nil, List.take_of_length_le (by omega)]
theorem mix_len (h : M.length = L.length) (k : Nat) : (mixG M L k).length = L.length := by
 unfold mixG; rw [List.length_append, List.length_take, List.length_drop]; omega
theorem mix_get (h : M.length = L.length) {f : α} (hf : L[k]? = some f) : (mixG M L k)[k]? = some f := by
 have hk : k < L.length := (List.getElem?_eq_some_iff.1 hf).1
 unfold mixG
 rw [List.getElem?_append_right (by rw [List.length_take]; omega), List.length_take, show k - min k M.length = 0 by omega, List.getElem?_drop, Nat.add_zero, hf]
theorem mix_set (h : M.length = L.length) {g : α} (hg : M[k]? = some g) : (mixG M L k).set k g = mixG M L (k + 1) := by
 have hk : k < M.length := (List.getElem?_eq_some_iff.1 hg).1
 apply List.ext_getElem?
 intro j
 by_cases e : j = k
 ·subst e
  rw [List.getElem?_set_self (by rw [mix_len h]; omega)]
  unfold mixG
  rw [List.getElem?_append_left (by rw [List.length_take]; omega), List.getElem?_take_of_lt (by omega), hg]
 ·rw [List.getElem?_set_ne (Ne.symm e)]
  unfold mixG
  by_cases hj : j < k
  ·rw [List.getElem?_append_left (by rw [List.length_take]; omega), List.getElem?_append_left (by rw [List.length_take]; omega), List.getElem?_take_of_lt hj, List.getElem?_take_of_lt (by omega)]
  ·rw [List.getElem?_append_right (by rw [List.length_take]; omega), List.getElem?_append_right (by rw [List.length_take]; omega), List.length_take, List.length_take, List.getElem?_drop, List.getElem?_drop]
   congr 1
   omega
end
end Go.Proofs.Ytokniebejilcbaa
namespace Go.Proofs.Ytokniebejilcbaa
open Go.RowKit
structure SlU {α : Type} (E : Rep α) (e : TypeId) (s : Nat) (w : World) (L : List α) (g c n : Nat) (xs : List (List Value)) (bss : List (List Nat)) : Prop where
 rr : rowsR E w L xs bss
 ls : ∀ x ∈ xs, x.length = s
 ow : w.ownsRow 0 e s (.slice (some ⟨g, 0, none⟩) n c) n xs.flatten
 hn : n = L.length
section
variable {α : Type} {E : Rep α} {e : TypeId} {s : Nat} {w w' : World} {L : List α} {g c n : Nat} {xs : List (List Value)} {bss : List (List Nat)}
theorem SlU.lt (h : SlU E e s w L g c n xs bss) : g < w.heap.size := (own_ltB h.ow g (by simp [Value.ownBlock])).2
theorem SlU.call (h : SlU E e s w L g c n xs bss) (hb : Below w.heap.size w w') : SlU E e s w' L g c n xs bss :=
 ⟨rowsR_keep h.rr fun b hb' => hb.block b (rowsR_ex h.rr b hb'), h.ls, own_keepB h.ow fun b hb' => hb.block b (own_ltB h.ow b hb').2, h.hn⟩
theorem SlU.at_ (h : SlU E e s w L g c n xs bss) {k : Nat} (hk : k < n) : ∃ a x b, L[k]? = some a ∧ xs[k]? = some x ∧ bss[k]? = some b ∧ x.length = s ∧ E.R w a x b ∧ ∀ j u, x[j]? = some u → w.cell? ⟨g, k * s + j, none⟩ = some u := by
 have hL := List.getElem?_eq_getElem (show k < L.length by rw [← h.hn]; exact hk)
 obtain ⟨x, b, hx, hb, hR⟩ := rowsR_at h.rr k _ hL
 have hl := h.ls x (List.mem_of_getElem? hx)
 refine ⟨_, x, b, hL, hx, hb, hl, hR, fun j u hu => ?_⟩
 have hj : j < s := by have := (List.getElem?_eq_some_iff.1 hu).1; omega
 exact own_cellI h.ow (by rw [flat_at h.ls k j hx hj]; exact hu)
theorem SlU.frozen (h : SlU E e s w L g c n xs bss) (j : Nat) : w.frozen? ⟨g, j, none⟩ = false := h.ow.frozenAt j
theorem SlU.rep (h : SlU E e s w L g c n xs bss) : (repSl E e s).R w L [.slice (some ⟨g, 0, none⟩) n c] (g :: bss.flatten) := ⟨_, xs, bss, rfl, h.rr, h.ls, by rw [← h.hn]; exact h.ow, by simp [Value.ownBlock]⟩
theorem SlU.of_rep {v : Value} {bs : List Nat} (h : (repSl E e s).R w L [v] bs) : (v = .slice none 0 0 ∧ L = [] ∧ bs = []) ∨ ∃ g c xs bss, v = .slice (some ⟨g, 0, none⟩) L.length c ∧ SlU E e s w L g c L.length xs bss ∧ bs = g :: bss.flatten := by
 obtain ⟨v', xs, bss, he, hr, hs, ho, rfl⟩ := h
 obtain rfl : v = v' := by simpa using he
 rcases ho.2 with ⟨rfl, h0⟩ | ⟨g, cap, cur, rfl, _⟩
 ·have hL : L = [] := List.eq_nil_of_length_eq_zero h0
  subst hL
  have := (rowsR_len hr).2
  obtain rfl : bss = [] := List.eq_nil_of_length_eq_zero this
  exact .inl ⟨rfl, rfl, rfl⟩
 ·exact .inr ⟨g, cap, xs, bss, rfl, ⟨hr, hs, ho, rfl⟩, by simp [Value.ownBlock]⟩
theorem own_setK {xs : List (List Value)} (ls : ∀ x ∈ xs, x.length = s) (ow : w.ownsRow 0 e s (.slice (some ⟨g, 0, none⟩) n c) n xs.flatten) {k j : Nat} {x : List Value} (hx : xs[k]? = some x) (hj : j < s) (v : Value) :
  (∀ y ∈ xs.set k (x.set j v), y.length = s) ∧ (w.setCell ⟨g, k * s + j, none⟩ v).ownsRow 0 e s (.slice (some ⟨g, 0, none⟩) n c) n (xs.set k (x.set j v)).flatten ∧ w.grownBy (w.setCell ⟨g, k * s + j, none⟩ v) (some g) := by
 obtain ⟨p1, p2⟩ := ow.stored (k * s + j) v
 rw [flat_set ls k j hx v hj] at p1
 refine ⟨fun y hy => ?_, p1, p2⟩
 rcases List.mem_or_eq_of_mem_set hy with h | rfl
 ·exact ls y h
 ·rw [List.length_set]; exact ls x (List.mem_of_getElem? hx)
end
structure SetK (e : TypeId) (s : Nat) (w w' : World) (g c n k : Nat) (xs : List (List Value)) (x' : List Value) : Prop where
 ls : ∀ y ∈ xs.set k x', y.length = s
 ow : w'.ownsRow 0 e s (.slice (some ⟨g, 0, none⟩) n c) n (xs.set k x').flatten
 gr : w.grownBy w' (some g)
theorem SetK.put {e : TypeId} {s : Nat} {w w' : World} {g c n k : Nat} {xs : List (List Value)} {x' y : List Value} (h : SetK e s w w' g c n k xs x') (hk : k < xs.length) (j : Nat) (hj : j < s) (v : Value) (hv : x'.set j v = y) : SetK e s w (w'.setCell ⟨g, k * s + j, none⟩ v) g c n k xs y := by
 obtain ⟨p1, p2, p3⟩ := own_setK h.ls h.ow (k := k) (j := j) (x := x') (by rw [List.getElem?_set_self hk]) hj v
 rw [List.set_set, hv] at p1 p2
 exact ⟨p1, p2, h.gr.trans p3⟩
theorem SetK.zero {α : Type} {E : Rep α} {e : TypeId} {s : Nat} {w : World} {L : List α} {g c n k : Nat} {xs : List (List Value)} {bss : List (List Nat)} {x : List Value} (h : SlU E e s w L g c n xs bss) (hx : xs[k]? = some x) : SetK e s w w g c n k xs x := by
 have hs : xs.set k x = xs := by
  apply List.ext_getElem?
  intro j
  by_cases e : j = k
  ·subst e; rw [List.getElem?_set_self (List.getElem?_eq_some_iff.1 hx).1, hx]
  ·rw [List.getElem?_set_ne (Ne.symm e)]
 exact ⟨by rw [hs]; exact h.ls, by rw [hs]; exact h.ow, World.grownBy.refl _ _⟩
theorem SlU.upd {α : Type} {E : Rep α} {e : TypeId} {s : Nat} {w w' : World} {L : List α} {g c n k : Nat} {xs : List (List Value)} {bss : List (List Nat)} {a' : α} {x' : List Value} {b' : List Nat} (h : SlU E e s w L g c n xs bss) (hk : k < n)
  (ow : w'.ownsRow 0 e s (.slice (some ⟨g, 0, none⟩) n c) n (xs.set k x').flatten) (ls : ∀ y ∈ xs.set k x', y.length = s) (hR : E.R w' a' x' b')
  (hn : ∀ (j : Nat) (d : List Nat), j ≠ k → bss[j]? = some d → ∀ b ∈ d, w'.heap[b]? = w.heap[b]?) : SlU E e s w' (L.set k a') g c n (xs.set k x') (bss.set k b') :=
 ⟨rowsR_upd h.rr k (by rw [← h.hn]; exact hk) hR hn, ls, ow, by rw [List.length_set]; exact h.hn⟩
theorem SlU.nodup {α : Type} {E : Rep α} {e : TypeId} {s : Nat} {B : Nat} {w : World} {L : List α} {g c n : Nat} {xs : List (List Value)} {bss : List (List Nat)} (_ : SlU E e s w L g c n xs bss) {v : Value} (ho : (repSl E e s).Own B w L [v] (g :: bss.flatten)) : g ∉ bss.flatten ∧ bss.flatten.Nodup ∧ B ≤ g ∧ ∀ b ∈ bss.flatten, B ≤ b :=
 ⟨(List.nodup_cons.1 ho.nd).1, (List.nodup_cons.1 ho.nd).2, ho.lo g (by simp), fun b hb => ho.lo b (by simp [hb])⟩
theorem SlU.own {α : Type} {E : Rep α} {e : TypeId} {s : Nat} {B : Nat} {w : World} {L : List α} {g c n : Nat} {xs : List (List Value)} {bss : List (List Nat)} (h : SlU E e s w L g c n xs bss) (h1 : g ∉ bss.flatten) (h2 : bss.flatten.Nodup) (h3 : B ≤ g) (h4 : ∀ b ∈ bss.flatten, B ≤ b) : (repSl E e s).Own B w L [.slice (some ⟨g, 0, none⟩) n c] (g :: bss.flatten) :=
 ⟨h.rep, List.nodup_cons.2 ⟨h1, h2⟩, fun b hb => by rcases List.mem_cons.1 hb with rfl | hb; exact h3; exact h4 b hb⟩
theorem flat_mem {bss : List (List Nat)} {k : Nat} {d : List Nat} (h : bss[k]? = some d) {b : Nat} (hb : b ∈ d) : b ∈ bss.flatten := List.mem_flatten.2 ⟨d, List.mem_of_getElem? h, hb⟩
theorem set_same {bss : List (List Nat)} {k : Nat} {d : List Nat} (h : bss[k]? = some d) : bss.set k d = bss := by
 apply List.ext_getElem?
 intro j
 by_cases e : j = k
 ·subst e; rw [List.getElem?_set_self (List.getElem?_eq_some_iff.1 h).1, h]
 ·rw [List.getElem?_set_ne (Ne.symm e)]
end Go.Proofs.Ytokniebejilcbaa
namespace Go.Proofs.Ytokniebejilcbaa
open Go.RowKit
theorem GrAt.grownI {w w' : World} {b : Nat} {t : TypeId} {g : Nat → Bool} {row : Option Nat} (h : GrAt w b t g) (hb : w.grownBy w' row) (hr : some b ≠ row) : GrAt w' b t g := (hb.block b h.lt hr).trans h
theorem sizeRc : (Try.prog.info? 94).map (·.size) = some 4 := by kernel_rfl
theorem wp_store_rc {op : Oper} {a : Act} {w : World} {K : Act → World → Prop} {Q : Exit → Act → World → Prop} (x y : Operand) (ho : op.op = .store 94 x y)
  (b : Nat) (r0 r : Rc) (hx : a.eval x = .pointer (some ⟨b, 0, none⟩)) (hy : a.eval y = .agg #[.int .i64 r.x, .int .i64 r.y, .int .i64 r.w, .int .i64 r.h]) (hI : RcAt w b r0)
  (h : ∀ W', RcAt W' b r → w.grownBy W' (some b) → K (a.put op.dst undef) W') : op.wp Try.prog a w K Q := by
 have hs : (storeVar 94 ⟨b, 0, none⟩ (.agg #[.int .i64 r.x, .int .i64 r.y, .int .i64 r.w, .int .i64 r.h])).run Try.prog w = .ok () (w.setRow b #[.int .i64 r.x, .int .i64 r.y, .int .i64 r.w, .int .i64 r.h]) :=
  run_storeVar_row w b _ _ #[.int .i64 r0.x, .int .i64 r0.y, .int .i64 r0.w, .int .i64 r0.h] #[.int .i64 r.x, .int .i64 r.y, .int .i64 r.w, .int .i64 r.h] hI sizeRc rfl (by simp [Value.oneCell'])
 have h1 := h (w.setRow b #[.int .i64 r.x, .int .i64 r.y, .int .i64 r.w, .int .i64 r.h]) (setRow_heap w b _ _ _ _ hI) ⟨rfl, rfl, rfl, by simp [World.setRow], fun k _ hk => setRow_other w b k _ (fun e => hk (by rw [e]))⟩
 unfold Oper.wp execOp
 simp only [ho, hx, hy, Instr.storeAt, Instr.sureAddr, Sem.run_bind, Sem.run_pure, Result.andThen_ok, hs]
 exact h1
theorem RcAt.grownI {w w' : World} {g : Nat} {row : Option Nat} {r : Rc} (h : RcAt w g r) (hb : w.grownBy w' row) (hg : some g ≠ row) : RcAt w' g r := (hb.block g h.lt hg).trans h
end Go.Proofs.Ytokniebejilcbaa
namespace Go.Proofs.Ytokniebejilcbaa
open Go.RowKit
theorem run_build1 (r : Rc) (w : World) : (Instr.buildSlice 83 1 #[(0, .agg #[.int .i64 r.x, .int .i64 r.y, .int .i64 r.w, .int .i64 r.h])]).run Try.prog w = .ok (.slice (some ⟨w.heap.size, 0, none⟩) 1 1) (w.alloc (.cells #[.int .i64 r.x, .int .i64 r.y, .int .i64 r.w, .int .i64 r.h] 94)) := by
 kernel_rfl
theorem RdR.one {W : World} {g : Nat} {r : Rc} (h : RcAt W g r) : RdR W (.slice (some ⟨g, 0, none⟩) 1 1) [r] := by
 obtain ⟨h0, h1, h2, h3⟩ := h.cells
 refine ⟨by simp [maxLen], _, 1, rfl, fun _ => ⟨g, rfl, fun k s hs => ?_⟩⟩
 cases k with
 | zero => injection hs with hs; subst hs; exact ⟨h0, h1, h2, h3⟩
 | succ k => simp at hs
end Go.Proofs.Ytokniebejilcbaa
namespace Go.Proofs.Ytokniebejilcbaa
open Go.RowKit
open Classical in
noncomputable def imEq (L M : List Int) : Bool := decide (L = M)
theorem imEq_yes (L : List Int) : imEq L L = true := by unfold imEq; exact decide_eq_true rfl
theorem imEq_no {L M : List Int} (h : L ≠ M) : imEq L M = false := by unfold imEq; exact decide_eq_false h
open Classical in
noncomputable def sameM (X Y : Int) (L : List Int) (X2 Y2 : Int) (M : List Int) : Bool := decide (X = X2 ∧ Y = Y2 ∧ L = M)
theorem sameM_yes (X Y : Int) (L : List Int) : sameM X Y L X Y L = true := by unfold sameM; exact decide_eq_true ⟨rfl, rfl, rfl⟩
theorem sameM_no {X Y : Int} {L : List Int} {X2 Y2 : Int} {M : List Int} (h : ¬ (X = X2 ∧ Y = Y2 ∧ L = M)) : sameM X Y L X2 Y2 M = false := by unfold sameM; exact decide_eq_false h
theorem sameM_in (X Y : Int) (L M : List Int) : sameM X Y L X Y M = imEq L M := by
 by_cases h : L = M
 ·subst h; rw [sameM_yes, imEq_yes]
 ·rw [imEq_no h, sameM_no fun k => h k.2.2]
def ImEqAns (L M : List Int) (w : World) (e : Ending) (w' : World) : Prop := e = .returned (.bool (imEq L M)) ∧ ∃ q, w' = w.drewN q
theorem ext_of {L M : List Int} (h : L.length = M.length) (hall : ∀ j, j < L.length → L[j]? = M[j]?) : L = M := by
 apply List.ext_getElem?
 intro j
 by_cases hj : j < L.length
 ·exact hall j hj
 ·rw [List.getElem?_eq_none (by omega), List.getElem?_eq_none (by omega)]
set_option maxHeartbeats 1000000 in
theorem l05Ints_any (v u : Value) (L M : List Int) (w : World) (hv : RdI w v L) (hu : RdI w u M) : Calls Try.prog 71 #[v, u] w (ImEqAns L M w) := by
 obtain ⟨A, c, rfl⟩ := hv.form
 obtain ⟨A', c', rfl⟩ := hu.form
 have h1 := hv.len
 have h2 := hu.len
 unfold maxLen at h1 h2
 obtain ⟨n, hn⟩ : ∃ n, n = L.length := ⟨_, rfl⟩
 obtain ⟨n2, hn2⟩ : ∃ n2, n2 = M.length := ⟨_, rfl⟩
 rw [← hn] at h1 hv ⊢
 rw [← hn2] at h2 hu ⊢
 have Hn := Lib.hid hn
 have Hn2 := Lib.hid hn2
 have Hv := Lib.hid hv
 have Hu := Lib.hid hu
 clear hv hu hn hn2
 by_cases hl : n = n2
 ·subst hl
  go_enter Try.func71, Try.ntmps71
  go_wp2_with fail
  go_loopw [5] (fun i wr => ∃ k : Nat, k ≤ n ∧ i = .int .i64 k ∧ Hid (∀ j, j < k → L[j]? = M[j]?) ∧ ∃ q, wr = w.drewN q) (fun i _ => n - (intOf i).toNat)
  case atStart => exact ⟨0, Nat.zero_le _, rfl, Lib.hid (fun j hj => by omega), 0, rfl⟩
  case round =>
   obtain ⟨k, hk, rfl, Hall, q, rfl⟩ := hrel
   by_cases hlt : k < n
   ·obtain ⟨a, x, rfl, hx, hcx⟩ := Hv.out.at_ (k := k) (by rw [← Hn.out]; exact hlt)
    obtain ⟨a', y, rfl, hy, hcy⟩ := Hu.out.at_ (k := k) (by rw [← Hn2.out]; exact hlt)
    have Hx := Lib.hid hx
    have Hy := Lib.hid hy
    clear hx hy
    have k0 : (0 : Int) ≤ (k : Int) := by omega
    have k1 : (k : Int) < (n : Int) := by omega
    by_cases hxy : x = y
    ·subst hxy
     go_wp2_with fail
     go_quiet (fail)
     go_wp2_with fail
     rename_i nq
     go_roundw
     case rel =>
      refine ⟨k + 1, by omega, by go_num, Lib.hid (fun j hj => ?_), _, rfl⟩
      by_cases e : j < k
      ·exact Hall.out j e
      ·obtain rfl : j = k := by omega
       rw [Hx.out, Hy.out]
     case measure => simp [intOf]; omega
    ·have hb : (x == y) = false := by rw [beq_eq_false_iff_ne]; exact hxy
     have hno : imEq L M = false := imEq_no fun h => hxy (by have h3 := Hx.out; rw [h, Hy.out] at h3; exact (Option.some.inj h3).symm)
     have Hno := Lib.hid hno
     clear hno hxy
     go_wp2_with fail
     go_quiet (fail)
     go_wp2_with fail
     go_ret
     exact ⟨ret_bool Hno.out.symm, q + _, by first | rfl | exact World.drewN_drewN _ _ _⟩
   ·obtain rfl : k = n := by omega
    have hyes : imEq L M = true := by
     have h : L = M := ext_of (by rw [← Hn.out, ← Hn2.out]) (fun j hj => Hall.out j (by rw [Hn.out]; exact hj))
     subst h; exact imEq_yes L
    have Hyes := Lib.hid hyes
    clear hyes
    go_wp2_with fail
    go_ret
    exact ⟨ret_bool Hyes.out.symm, _, rfl⟩
 ·have hno : imEq L M = false := imEq_no fun h => hl (by rw [Hn.out, Hn2.out, h])
  have Hno := Lib.hid hno
  have hli : ((n : Int) == (n2 : Int)) = false := by rw [beq_eq_false_iff_ne]; omega
  clear hno
  go_enter Try.func71, Try.ntmps71
  go_wp2_with fail
  go_ret
  exact ⟨ret_bool Hno.out.symm, 0, rfl⟩
theorem equalI (v u : Value) (L M : List Int) (w : World) (hv : RdI w v L) (hu : RdI w u M) : Calls Try.prog 73 #[v, u] w (ImEqAns L M w) := by
 have h1 := hv.len
 have h2 := hu.len
 unfold maxLen at h1 h2
 by_cases hl : L.length = M.length
 ·rcases hv with ⟨rfl, rfl⟩ | ⟨g, c, rfl, _, _, hc⟩
  ·obtain ⟨A, c, rfl⟩ := hu.form
   have hM : M = [] := List.eq_nil_of_length_eq_zero hl.symm
   subst hM
   refine (Try.slices_Equal_int_empty none A 0 0 c w (by omega)).mono ?_
   rintro e w' ⟨rfl, rfl⟩
   exact ⟨ret_bool (by rw [imEq_yes]; rfl), 0, rfl⟩
  ·rcases hu with ⟨rfl, rfl⟩ | ⟨g2, c2, rfl, _, _, hc2⟩
   ·have hL : L = [] := List.eq_nil_of_length_eq_zero hl
    subst hL
    refine (Try.slices_Equal_int_empty _ _ c 0 0 w (by omega)).mono ?_
    rintro e w' ⟨rfl, rfl⟩
    exact ⟨ret_bool (by rw [imEq_yes]; rfl), 0, rfl⟩
   ·refine (Try.slices_Equal_int g 0 L.length c g2 0 M.length c2 L M w (Nat.le_refl _) (Nat.le_refl _) h1 h2 (fun j hj => ?_) (fun j hj => ?_)).mono ?_
    ·rw [Nat.zero_add, List.getD_eq_getElem?_getD, List.getElem?_eq_getElem hj]; exact hc j _ (List.getElem?_eq_getElem hj)
    ·rw [Nat.zero_add, List.getD_eq_getElem?_getD, List.getElem?_eq_getElem hj]; exact hc2 j _ (List.getElem?_eq_getElem hj)
    ·rintro e w' ⟨rfl, q, rfl⟩
     refine ⟨ret_bool ?_, q, rfl⟩
     rw [List.take_length, List.take_length]
     by_cases h : L = M
     ·subst h; rw [imEq_yes]; exact beq_self_eq_true L
     ·rw [imEq_no h]; exact beq_eq_false_iff_ne.2 h
 ·obtain ⟨A, c, rfl⟩ := hv.form
  obtain ⟨A2, c2, rfl⟩ := hu.form
  refine (Try.slices_Equal_int_lens A A2 L.length c M.length c2 w hl).mono ?_
  rintro e w' ⟨rfl, rfl⟩
  exact ⟨ret_bool (by rw [imEq_no (fun h => hl (by rw [h]))]), 0, rfl⟩
def SameMAns (X Y : Int) (L : List Int) (X2 Y2 : Int) (M : List Int) (w : World) (e : Ending) (w' : World) : Prop := e = .returned (.bool (sameM X Y L X2 Y2 M)) ∧ Below w.heap.size w w'
set_option maxHeartbeats 1000000 in
theorem sameII (X Y : Int) (v : Value) (L : List Int) (X2 Y2 : Int) (u : Value) (M : List Int) (w : World) (hv : RdI w v L) (hu : RdI w u M) :
  Calls Try.prog 167 #[.agg #[.int .i64 X, .int .i64 Y, v], .agg #[.int .i64 X2, .int .i64 Y2, u]] w (SameMAns X Y L X2 Y2 M w) := by
 have hv2 := (hv.alloc (.cells #[.int .i64 X, .int .i64 Y, v] 32)).alloc (.cells #[.int .i64 X2, .int .i64 Y2, u] 32)
 have hu2 := (hu.alloc (.cells #[.int .i64 X, .int .i64 Y, v] 32)).alloc (.cells #[.int .i64 X2, .int .i64 Y2, u] 32)
 have Hw := Lib.hid (belI_call (belI_box w (.cells #[.int .i64 X, .int .i64 Y, v] 32)) (belI_box _ (.cells #[.int .i64 X2, .int .i64 Y2, u] 32)))
 have Hv := Lib.hid hv2
 have Hu := Lib.hid hu2
 obtain ⟨A, c, rfl⟩ := hv.form
 obtain ⟨A', c', rfl⟩ := hu.form
 clear hv hu hv2 hu2
 by_cases hx : X = X2
 ·subst hx
  by_cases hy : Y = Y2
  ·subst hy
   obtain ⟨b, hb⟩ : ∃ b, b = imEq L M := ⟨_, rfl⟩
   have HA : Hid (sameM X Y L X Y M = b) := Lib.hid (by rw [hb]; exact sameM_in X Y L M)
   have R := fun W h1 h2 => equalI (.slice A L.length c) (.slice A' M.length c') L M W h1 h2
   unfold ImEqAns at R
   rw [← hb] at R
   have HR := Lib.hid R
   clear R hb
   go_enter Try.func167, Try.ntmps167
   go_wp2_with fail
   refine (HR.out _ Hv.out Hu.out).mono ?_
   rintro e w1 ⟨rfl, q, rfl⟩
   go_wp2_with fail
   go_ret
   exact ⟨ret_bool HA.out.symm, ⟨Hw.out.os, Hw.out.tape, Hw.out.output, Hw.out.size, Hw.out.block⟩⟩
  ·have HA : Hid (sameM X Y L X Y2 M = false) := Lib.hid (sameM_no fun h => hy h.2.1)
   have hyb : (Y == Y2) = false := by rw [beq_eq_false_iff_ne]; exact hy
   go_enter Try.func167, Try.ntmps167
   go_wp2_with fail
   go_ret
   exact ⟨ret_bool HA.out.symm, Hw.out⟩
 ·have HA : Hid (sameM X Y L X2 Y2 M = false) := Lib.hid (sameM_no fun h => hx h.1)
  have hxb : (X == X2) = false := by rw [beq_eq_false_iff_ne]; exact hx
  go_enter Try.func167, Try.ntmps167
  go_wp2_with fail
  go_ret
  exact ⟨ret_bool HA.out.symm, Hw.out⟩
set_option maxHeartbeats 1000000 in
theorem sameIS (X Y : Int) (v : Value) (L : List Int) (X2 Y2 : Int) (u : Value) (M : List Int) (w : World) (hv : RdI w v L) (hu : RdI w u M) :
  Calls Try.prog 131 #[.agg #[.int .i64 X, .int .i64 Y, v], .agg #[.int .i64 X2, .int .i64 Y2, u]] w (SameMAns X Y L X2 Y2 M w) := by
 have hv2 := (hv.alloc (.cells #[.int .i64 X, .int .i64 Y, v] 32)).alloc (.cells #[.int .i64 X2, .int .i64 Y2, u] 32)
 have hu2 := (hu.alloc (.cells #[.int .i64 X, .int .i64 Y, v] 32)).alloc (.cells #[.int .i64 X2, .int .i64 Y2, u] 32)
 have Hw := Lib.hid (belI_call (belI_box w (.cells #[.int .i64 X, .int .i64 Y, v] 32)) (belI_box _ (.cells #[.int .i64 X2, .int .i64 Y2, u] 32)))
 have Hv := Lib.hid hv2
 have Hu := Lib.hid hu2
 obtain ⟨A, c, rfl⟩ := hv.form
 obtain ⟨A', c', rfl⟩ := hu.form
 clear hv hu hv2 hu2
 by_cases hx : X = X2
 ·subst hx
  by_cases hy : Y = Y2
  ·subst hy
   obtain ⟨b, hb⟩ : ∃ b, b = imEq L M := ⟨_, rfl⟩
   have HA : Hid (sameM X Y L X Y M = b) := Lib.hid (by rw [hb]; exact sameM_in X Y L M)
   have R := fun W h1 h2 => l05Ints_any (.slice A L.length c) (.slice A' M.length c') L M W h1 h2
   unfold ImEqAns at R
   rw [← hb] at R
   have HR := Lib.hid R
   clear R hb
   go_enter Try.func131, Try.ntmps131
   go_wp2_with fail
   refine (HR.out _ Hv.out Hu.out).mono ?_
   rintro e w1 ⟨rfl, q, rfl⟩
   go_wp2_with fail
   go_ret
   exact ⟨ret_bool HA.out.symm, ⟨Hw.out.os, Hw.out.tape, Hw.out.output, Hw.out.size, Hw.out.block⟩⟩
  ·have HA : Hid (sameM X Y L X Y2 M = false) := Lib.hid (sameM_no fun h => hy h.2.1)
   have hyb : (Y == Y2) = false := by rw [beq_eq_false_iff_ne]; exact hy
   go_enter Try.func131, Try.ntmps131
   go_wp2_with fail
   go_ret
   exact ⟨ret_bool HA.out.symm, Hw.out⟩
 ·have HA : Hid (sameM X Y L X2 Y2 M = false) := Lib.hid (sameM_no fun h => hx h.1)
  have hxb : (X == X2) = false := by rw [beq_eq_false_iff_ne]; exact hx
  go_enter Try.func131, Try.ntmps131
  go_wp2_with fail
  go_ret
  exact ⟨ret_bool HA.out.symm, Hw.out⟩
end Go.Proofs.Ytokniebejilcbaa
namespace Go.Proofs.Ytokniebejilcbaa
open Go.RowKit
def orWn (W H : Nat) (o : Int) : Nat := if o % 2 = 1 then H else W
def orHn (W H : Nat) (o : Int) : Nat := if o % 2 = 1 then W else H
theorem orW_nat (W H : Nat) (o : Int) : orW W H o = (orWn W H o : Int) := by unfold orW orWn; split <;> rfl
theorem orH_nat (W H : Nat) (o : Int) : orH W H o = (orHn W H o : Int) := by unfold orH orHn; split <;> rfl
theorem or_area (W H : Nat) (o : Int) : orWn W H o * orHn W H o = W * H := by
 unfold orWn orHn; split
 ·rw [Nat.mul_comm]
 ·rfl
theorem or_small {W H : Nat} (o : Int) (h : 1 ≤ W ∧ W ≤ 16 ∧ 1 ≤ H ∧ H ≤ 16) : 1 ≤ orWn W H o ∧ orWn W H o ≤ 16 ∧ 1 ≤ orHn W H o ∧ orHn W H o ≤ 16 := by
 unfold orWn orHn; split <;> omega
theorem orW_undo {o : Int} (h : orOk o) (W H : Nat) : orWn (orWn W H o) (orHn W H o) (undoO o) = W ∧ orHn (orWn W H o) (orHn W H o) (undoO o) = H := by
 rcases h.cases with rfl | rfl | rfl | rfl | rfl | rfl | rfl | rfl <;> exact ⟨rfl, rfl⟩
def ptN (W H x y : Nat) : Pp := ⟨W, H, x, y⟩
theorem ptN_ok {W H x y : Nat} (h : 1 ≤ W ∧ W ≤ 16 ∧ 1 ≤ H ∧ H ≤ 16) (hx : x < W) (hy : y < H) : (ptN W H x y).ok := by
 unfold ptN Pp.ok; dsimp only; omega
theorem or_pt {W H x y : Nat} {o : Int} (h : 1 ≤ W ∧ W ≤ 16 ∧ 1 ≤ H ∧ H ≤ 16) (ho : orOk o) (hx : x < W) (hy : y < H) :
  ∃ a b : Nat, Pp.ori o (ptN W H x y) = ptN (orWn W H o) (orHn W H o) a b ∧ a < orWn W H o ∧ b < orHn W H o := by
 have hk := Pp.ori_ok o (ptN_ok h hx hy)
 have e1 := ori_w ho (ptN W H x y)
 have e2 := ori_h ho (ptN W H x y)
 rw [show (ptN W H x y).w = (W : Int) from rfl, show (ptN W H x y).h = (H : Int) from rfl, orW_nat] at e1
 rw [show (ptN W H x y).w = (W : Int) from rfl, show (ptN W H x y).h = (H : Int) from rfl, orH_nat] at e2
 rcases hq : Pp.ori o (ptN W H x y) with ⟨w', h', x', y'⟩
 rw [hq] at hk e1 e2
 unfold Pp.ok at hk
 dsimp only at hk e1 e2
 subst e1 e2
 refine ⟨x'.toNat, y'.toNat, ?_, by omega, by omega⟩
 unfold ptN
 rw [show ((x'.toNat : Nat) : Int) = x' by omega, show ((y'.toNat : Nat) : Int) = y' by omega]
def srcN (W H : Nat) (o : Int) (j : Nat) : Nat :=
 (Pp.ori (undoO o) (ptN (orWn W H o) (orHn W H o) (j % orWn W H o) (j / orWn W H o))).y.toNat * W + (Pp.ori (undoO o) (ptN (orWn W H o) (orHn W H o) (j % orWn W H o) (j / orWn W H o))).x.toNat
theorem idx_div {W x y : Nat} (hx : x < W) : (y * W + x) / W = y ∧ (y * W + x) % W = x := by
 constructor
 ·rw [Nat.add_comm, Nat.add_mul_div_right _ _ (by omega), Nat.div_eq_of_lt hx]; omega
 ·rw [Nat.add_comm, Nat.add_mul_mod_self_right, Nat.mod_eq_of_lt hx]
theorem src_is {W H j : Nat} {o : Int} (h : 1 ≤ W ∧ W ≤ 16 ∧ 1 ≤ H ∧ H ≤ 16) (ho : orOk o) (hj : j < W * H) :
  ∃ c d : Nat, Pp.ori (undoO o) (ptN (orWn W H o) (orHn W H o) (j % orWn W H o) (j / orWn W H o)) = ptN W H c d ∧ c < W ∧ d < H ∧ srcN W H o j = d * W + c := by
 have hs := or_small o h
 rw [← or_area W H o] at hj
 obtain ⟨c, d, e, hc, hd⟩ := or_pt (x := j % orWn W H o) (y := j / orWn W H o) hs (undoO_ok ho) (Nat.mod_lt _ (by omega)) (plc_row hj)
 rw [(orW_undo ho W H).1] at e hc
 rw [(orW_undo ho W H).2] at e hd
 refine ⟨c, d, e, hc, hd, ?_⟩
 unfold srcN; rw [e]; simp [ptN]
theorem src_lt {W H j : Nat} {o : Int} (h : 1 ≤ W ∧ W ≤ 16 ∧ 1 ≤ H ∧ H ≤ 16) (ho : orOk o) (hj : j < W * H) : srcN W H o j < W * H := by
 obtain ⟨c, d, e, hc, hd, hs⟩ := src_is h ho hj
 rw [hs]; exact plc_lt hc hd
def orL (W H : Nat) (L : List Int) (o : Int) : List Int := tabI (W * H) (fun j => L.getD (srcN W H o j) 0)
open Classical in
noncomputable def orIm (X Y : Int) (L : List Int) (o : Int) : Im := if imOk X Y L ∧ orOk o then ⟨orW X Y o, orH X Y o, orL X.toNat Y.toNat L o⟩ else zeroIm
theorem orIm_yes {W H : Nat} {L : List Int} {o : Int} (h1 : imOk W H L) (h2 : orOk o) : orIm W H L o = ⟨orWn W H o, orHn W H o, orL W H L o⟩ := by
 unfold orIm; rw [if_pos ⟨h1, h2⟩, orW_nat, orH_nat, Int.toNat_natCast, Int.toNat_natCast]
theorem orL_length (W H : Nat) (L : List Int) (o : Int) : (orL W H L o).length = W * H := tabI_length _ _
theorem orL_ok {W H : Nat} {L : List Int} {o : Int} (h : imOk W H L) (ho : orOk o) : imOk (orWn W H o) (orHn W H o) (orL W H L o) := by
 have h2 := h
 obtain ⟨W', H', e1, e2, wl, wh, hl, hh, hL⟩ := im_nat h2
 obtain rfl : W = W' := by exact_mod_cast e1
 obtain rfl : H = H' := by exact_mod_cast e2
 have hs := or_small o ⟨wl, wh, hl, hh⟩
 refine ⟨by unfold szOk; omega, ?_, fun k x hx => ?_⟩
 ·rw [orL_length, ← or_area W H o]; push_cast; rfl
 ·have hk : k < W * H := by have := (List.getElem?_eq_some_iff.1 hx).1; rwa [orL_length] at this
  unfold orL at hx
  rw [tabI_get _ _ k hk] at hx
  injection hx with hx
  have hs2 := src_lt (o := o) ⟨wl, wh, hl, hh⟩ ho hk
  rw [← hx, List.getD_eq_getElem?_getD, List.getElem?_eq_getElem (by omega)]
  exact h.2.2 _ _ (List.getElem?_eq_getElem (by omega))
end Go.Proofs.Ytokniebejilcbaa
namespace Go.Proofs.Ytokniebejilcbaa
open Go.RowKit
def rsF (S : Nat → Nat → Nat → Nat) (W H w h : Nat) (L : List Int) : Nat → Int := fun j => L.getD (S H h (j / w) * W + S W w (j % w)) 0
open Classical in
noncomputable def rsIm (S : Nat → Nat → Nat → Nat) (X Y : Int) (L : List Int) (w h : Int) : Im := if imOk X Y L ∧ szOk w h then ⟨w, h, tabI (w.toNat * h.toNat) (rsF S X.toNat Y.toNat w.toNat h.toNat L)⟩ else zeroIm
theorem rs_yes (S : Nat → Nat → Nat → Nat) {W H w h : Nat} {L : List Int} (h1 : imOk W H L) (h2 : szOk w h) : rsIm S W H L w h = ⟨w, h, tabI (w * h) (rsF S W H w h L)⟩ := by
 unfold rsIm; rw [if_pos ⟨h1, h2⟩, Int.toNat_natCast, Int.toNat_natCast, Int.toNat_natCast, Int.toNat_natCast]
theorem sz_nat {P Q : Int} (h : szOk P Q) : ∃ p q : Nat, P = p ∧ Q = q ∧ 1 ≤ p ∧ p ≤ 16 ∧ 1 ≤ q ∧ q ≤ 16 := by
 unfold szOk at h
 exact ⟨P.toNat, Q.toNat, by omega, by omega, by omega, by omega, by omega, by omega⟩
theorem rsF_at (S : Nat → Nat → Nat → Nat) (W H w h : Nat) (L : List Int) {x : Nat} (y : Nat) (hx : x < w) : rsF S W H w h L (y * w + x) = L.getD (S H h y * W + S W w x) 0 := by
 unfold rsF; rw [(idx_div hx).1, (idx_div hx).2]
def PlOk (S : Nat → Nat → Nat → Nat) : Prop := ∀ f t k : Nat, 1 ≤ f → k < t → S f t k < f
theorem scl_ok : PlOk sclN := fun _ _ _ h1 h2 => sclN_lt h1 h2
theorem rs_src {S : Nat → Nat → Nat → Nat} (hS : PlOk S) {W H w h x y : Nat} {L : List Int} (hL : L.length = W * H) (hW : 1 ≤ W) (hH : 1 ≤ H) (hx : x < w) (hy : y < h) :
  ∃ a b z, S W w x = a ∧ S H h y = b ∧ a < W ∧ b < H ∧ b * W + a < L.length ∧ L[b * W + a]? = some z ∧ rsF S W H w h L (y * w + x) = z := by
 have ha := hS W w x hW hx
 have hb := hS H h y hH hy
 have hk : S H h y * W + S W w x < L.length := by rw [hL]; exact plc_lt ha hb
 refine ⟨_, _, _, rfl, rfl, ha, hb, hk, List.getElem?_eq_getElem hk, ?_⟩
 rw [rsF_at S W H w h L y hx, List.getD_eq_getElem?_getD, List.getElem?_eq_getElem hk]; rfl
theorem RdI.one {w : World} {g : Nat} {t : TypeId} {z : Int} (h : w.heap[g]? = some (.cells #[.int .i64 z] t (0, 0))) : RdI w (.slice (some ⟨g, 0, none⟩) 1 1) [z] := by
 refine .inr ⟨g, 1, rfl, by unfold maxLen; simp, by simp, fun k x hx => ?_⟩
 cases k with
 | zero => injection hx with hx; subst hx; simp [World.cell?, h]
 | succ k => simp at hx
end Go.Proofs.Ytokniebejilcbaa
namespace Go.Proofs.Ytokniebejilcbaa
open Go.RowKit
def repRg : Rep (List Rc) where
 R := fun w L vs bs => ∃ v, vs = [v] ∧ w.ownsRow 0 94 4 v L.length (rcsCells L) ∧ bs = v.ownBlock.toList
 ex := by rintro w a vs bs ⟨v, rfl, h, rfl⟩ b hb; exact (own_ltB h b hb).2
 keep := by rintro w w' a vs bs ⟨v, rfl, h, rfl⟩ hk; exact ⟨v, rfl, own_keepB h hk, rfl⟩
theorem rg_own {w w0 : World} {L : List Rc} {d : Value} (h : w.ownsRow w0.heap.size 94 4 d L.length (rcsCells L)) : repRg.Own w0.heap.size w L [d] d.ownBlock.toList :=
 ⟨⟨d, rfl, own_rebase h fun _ _ => Nat.zero_le _, rfl⟩, by cases d.ownBlock <;> simp, fun b hb => (own_ltB h b hb).1⟩
theorem rep_rg_own {B : Nat} {w : World} {L : List Rc} {d : Value} {bs : List Nat} (h : repRg.Own B w L [d] bs) : w.ownsRow B 94 4 d L.length (rcsCells L) ∧ bs = d.ownBlock.toList := by
 obtain ⟨v, e, ho, rfl⟩ := h.r
 obtain rfl : d = v := by simpa using e
 exact ⟨own_rebase ho fun b hb => h.lo b hb, rfl⟩
theorem r_rg {w : World} {L : List Rc} {d : Value} {bs : List Nat} (h : repRg.R w L [d] bs) : RdR w d L := by
 obtain ⟨v, e, ho, rfl⟩ := h
 obtain rfl : d = v := by simpa using e
 exact RdR.of_own ho
theorem form_rg {w : World} {L : List Rc} {d : Value} {bs : List Nat} (h : repRg.R w L [d] bs) : ∃ A c, d = .slice A L.length c := (r_rg h).form
def mkRg (k : Nat) (L : List Rc) : List Rc := marksL k L.length
theorem eq_rg (f : List Rc) (d u : Value) (bs cs : List Nat) (w : World) (h1 : repRg.R w f [d] bs) (h2 : repRg.R w f [u] cs) : Calls Try.prog 58 #[.agg #[d], .agg #[u]] w fun e w' => e = .returned (.bool true) ∧ Below w.heap.size w w' := eqRg_same d u f w (r_rg h1) (r_rg h2)
theorem mark_rg (B : Nat) (f : List Rc) (d : Value) (bs : List Nat) (k0 : Nat) (w : World) (hm : k0 + (4 * f.length) ≤ 1000000000) (ho : repRg.Own B w f [d] bs) : Calls Try.prog 59 #[.agg #[d], .int .i64 k0] w fun e w' => e = .returned (.int .i64 ((k0 + (4 * f.length) : Nat) : Int)) ∧ repRg.R w' (mkRg k0 f) [d] bs ∧ Chg w w' bs := by
 obtain ⟨h1, rfl⟩ := rep_rg_own ho
 refine (markRg B d f k0 w (by omega) h1).mono ?_
 rintro e w1 ⟨rfl, h2, hg⟩
 refine ⟨rfl, ⟨d, rfl, ?_, rfl⟩, Chg.of_grown hg⟩
 have hl : (mkRg k0 f).length = f.length := by have := h2.1; rw [show (rcsCells (marksL k0 f.length)).length = (marksL k0 f.length).length * 4 from by first | exact rcsCells_length _ | simp [rcsCells]] at this; unfold mkRg; omega
 rw [hl]
 exact own_rebase h2 fun _ _ => Nat.zero_le _
theorem held_rg (f : List Rc) (d : Value) (bs : List Nat) (k0 : Nat) (w : World) (hm : k0 + (4 * f.length) ≤ 1000000000) (hr : repRg.R w (mkRg k0 f) [d] bs) : Calls Try.prog 60 #[.agg #[d], .int .i64 k0] w fun e w' => e = .returned (.int .i64 ((k0 + (4 * f.length) : Nat) : Int)) ∧ Below w.heap.size w w' :=
 heldRg d k0 f.length w (by omega) (r_rg (L := mkRg k0 f) hr)
end Go.Proofs.Ytokniebejilcbaa
namespace Go.Proofs.Ytokniebejilcbaa
open Go.RowKit
theorem sclN_self {f k : Nat} (h : 1 ≤ f) : sclN f f k = k := by unfold sclN; exact Nat.mul_div_cancel _ h
theorem rs_self {S : Nat → Nat → Nat → Nat} (hS : ∀ f k, k < f → S f f k = k) {W H : Nat} {L : List Int} (h : imOk W H L) : rsIm S W H L W H = ⟨W, H, L⟩ := by
 obtain ⟨W2, H2, e1, e2, wl, wh, hl, hh, hL⟩ := im_nat h
 obtain rfl : W = W2 := by exact_mod_cast e1
 obtain rfl : H = H2 := by exact_mod_cast e2
 rw [rs_yes S h h.1]
 congr 1
 symm
 refine tabI_ext hL fun j x hx => ?_
 have hj : j < W * H := by have := (List.getElem?_eq_some_iff.1 hx).1; omega
 unfold rsF
 rw [hS H _ (plc_row hj), hS W _ (Nat.mod_lt _ wl), plc_eq, List.getD_eq_getElem?_getD, hx]; rfl
theorem rs_valid {S : Nat → Nat → Nat → Nat} (hS : PlOk S) {W H w h : Nat} {L : List Int} (h1 : imOk W H L) (h2 : szOk w h) : imOk w h (tabI (w * h) (rsF S W H w h L)) := by
 obtain ⟨W2, H2, e1, e2, wl, wh, hl, hh, hL⟩ := im_nat h1
 obtain rfl : W = W2 := by exact_mod_cast e1
 obtain rfl : H = H2 := by exact_mod_cast e2
 refine ⟨h2, by rw [tabI_length]; push_cast; rfl, fun k x hx => ?_⟩
 have hk : k < w * h := by have := (List.getElem?_eq_some_iff.1 hx).1; rwa [tabI_length] at this
 rw [tabI_get _ _ k hk] at hx
 injection hx with hx
 have hw : 0 < w := by unfold szOk at h2; omega
 obtain ⟨a, b, z, _, _, _, _, _, hz, hF⟩ := rs_src hS hL wl hl (Nat.mod_lt k hw) (plc_row hk)
 rw [plc_eq] at hF
 rw [← hx, hF]
 exact h1.2.2 _ _ hz
end Go.Proofs.Ytokniebejilcbaa
namespace Go.Proofs.Ytokniebejilcbaa
open Go.RowKit
theorem below_grown0 {w w' : World} (h : w.grownBy w' none) : Below w.heap.size w w' := ⟨h.os, h.tape, h.output, h.size, fun k hk => h.block k hk (by simp)⟩
end Go.Proofs.Ytokniebejilcbaa
namespace Go.Proofs.Ytokniebejilcbaa
open Go.RowKit
theorem info2_rc : ∃ i0, Try.prog.info? 94 = some i0 ∧ i0.zero = some (.agg #[.int .i64 0, .int .i64 0, .int .i64 0, .int .i64 0]) ∧ i0.size = 4 ∧ i0.bytes = 32 := by
 obtain ⟨i0, hi, h0, h1, h2⟩ := info_parts infoRect
 exact ⟨i0, hi, h0, h1, h2⟩
end Go.Proofs.Ytokniebejilcbaa
namespace Go.Proofs.Ytokniebejilcbaa
open Go.RowKit
def RgQ (Q : List Rc) (w : World) (e : Ending) (w' : World) : Prop := ∃ v, e = .returned (.agg #[v]) ∧ w'.ownsRow w.heap.size 94 4 v Q.length (rcsCells Q) ∧ Below w.heap.size w w'
end Go.Proofs.Ytokniebejilcbaa
namespace Go.Proofs.Ytokniebejilcbaa
open Go.RowKit
theorem wp_build1o {op : Oper} {a : Act} {w : World} {K : Act → World → Prop} {Q : Exit → Act → World → Prop} (d : Nat) (x : Operand) (r : Rc) (ho : op.op = .buildSlice 83 1 #[(0, x)]) (hx : a.eval x = .agg #[.int .i64 r.x, .int .i64 r.y, .int .i64 r.w, .int .i64 r.h]) (hd : op.dst = some d)
  (h : ∀ g W', Below w.heap.size w W' → W'.ownsRow w.heap.size 94 4 (.slice (some ⟨g, 0, none⟩) 1 1) 1 (rcsCells [r]) → K (a.put (some d) (.slice (some ⟨g, 0, none⟩) 1 1)) W') : op.wp Try.prog a w K Q := by
 have h1 := h w.heap.size (w.alloc (.cells #[.int .i64 r.x, .int .i64 r.y, .int .i64 r.w, .int .i64 r.h] 94)) (belI_box _ _) ⟨rfl, .inr ⟨w.heap.size, 1, _, rfl, Nat.le_refl _, heap_alloc_new w _, Nat.le_refl _, by unfold maxLen; omega, rfl, rfl⟩⟩
 have hz := run_build1 r w
 unfold Oper.wp execOp
 simp only [ho, List.map_toArray, List.map_cons, List.map_nil, hx, Sem.run_bind, hz, Result.andThen_ok, Sem.run_pure]
 rw [← hd] at h1
 exact h1
theorem own_nil2 (V : World) (B : Nat) (hB : B ≤ V.heap.size) : (V.alloc (.cells #[] 94)).ownsRow B 94 4 (.slice (some ⟨V.heap.size, 0, none⟩) 0 0) 0 [] :=
 ⟨rfl, .inr ⟨V.heap.size, 0, #[], rfl, hB, heap_alloc_new V _, Nat.le_refl _, by unfold maxLen; omega, rfl, rfl⟩⟩
end Go.Proofs.Ytokniebejilcbaa
namespace Go.Proofs.Ytokniebejilcbaa
open Go.RowKit
def sfR (v : Value) : Option (DataW Value × List MemPlace) := some (.held v, [])
theorem keyI : Maps.Keyed Try.prog 3 := Maps.int_keyed Try.underlying3
structure DmD (w : World) (D : DataW Value) (L : List Sf) : Prop where
 keys : ∀ kl, Maps.has D kl = true → ∃ f ∈ L, kl = .int .i64 f.id
 at_ : ∀ f ∈ L, Maps.has D (.int .i64 f.id) = true ∧ ∃ d, RdI w d f.data ∧ ∀ z, D.atKey (.int .i64 f.id) z = .held (.agg #[.int .i64 f.id, .int .i64 f.x, .int .i64 f.y, .int .i64 f.w, .int .i64 f.h, .int .i64 f.alpha, .int .i64 f.orient, .bool f.vis, .int .i64 f.bw, .int .i64 f.bh, d])
theorem lit_ne {i j : Int} (h : ¬ i = j) : (Lit.int .i64 i) ≠ .int .i64 j := fun e => h (by injection e)
theorem DmD.made (w : World) : DmD w (.map []) [] := ⟨fun kl h => by simp [Maps.has] at h, fun f h => by cases h⟩
theorem DmD.put {w : World} {D : DataW Value} {L : List Sf} (h : DmD w D L) (hm : Maps.IsMap D) {f : Sf} {d : Value} (hn : ∀ g ∈ L, ¬ g.id = f.id) (hd : RdI w d f.data) :
  DmD w (D.put (.int .i64 f.id) (.held (.agg #[.int .i64 f.id, .int .i64 f.x, .int .i64 f.y, .int .i64 f.w, .int .i64 f.h, .int .i64 f.alpha, .int .i64 f.orient, .bool f.vis, .int .i64 f.bw, .int .i64 f.bh, d]))) (L ++ [f]) := by
 refine ⟨fun kl hk => ?_, fun g hg => ?_⟩
 ·by_cases e : kl = .int .i64 f.id
  ·exact ⟨f, List.mem_append.2 (.inr (List.mem_singleton.2 rfl)), e⟩
  ·rw [Maps.has_put_other e] at hk
   obtain ⟨g, hg, e2⟩ := h.keys kl hk
   exact ⟨g, List.mem_append.2 (.inl hg), e2⟩
 ·rcases List.mem_append.1 hg with hg | hg
  ·have e := lit_ne (hn g hg)
   rw [Maps.has_put_other e]
   obtain ⟨h1, d', h2, h3⟩ := h.at_ g hg
   exact ⟨h1, d', h2, fun z => by rw [Maps.atKey_put_other e]; exact h3 z⟩
  ·obtain rfl := List.mem_singleton.1 hg
   exact ⟨Maps.has_put_same hm (show WideAt.IsKeyLit (.int .i64 g.id) from trivial) _, d, hd, fun z => Maps.atKey_put_same hm (show WideAt.IsKeyLit (.int .i64 g.id) from trivial) _ _⟩
theorem DmD.del {w : World} {D : DataW Value} {L : List Sf} (h : DmD w D L) (i : Int) {M : List Sf} (hM : ∀ f, f ∈ M ↔ (f ∈ L ∧ ¬ f.id = i)) : DmD w (D.del (.int .i64 i)) M := by
 refine ⟨fun kl hk => ?_, fun g hg => ?_⟩
 ·by_cases e : kl = .int .i64 i
  ·rw [e, Maps.has_del_same] at hk; cases hk
  ·rw [Maps.has_del_other e] at hk
   obtain ⟨g, hg, rfl⟩ := h.keys kl hk
   exact ⟨g, (hM g).2 ⟨hg, fun h => e (by rw [h])⟩, rfl⟩
 ·obtain ⟨h1, h2⟩ := (hM g).1 hg
  have e := lit_ne h2
  rw [Maps.has_del_other e]
  obtain ⟨h3, d', h4, h5⟩ := h.at_ g h1
  exact ⟨h3, d', h4, fun z => by rw [Maps.atKey_del_other e]; exact h5 z⟩
theorem wf_id {f : Sf} (h : sfOk f) : (Lit.int .i64 f.id).wf = true := by have := h.1; exact WalkArith.wf_i64 ⟨by omega, by omega⟩
theorem sfR_held {v : Value} {D : DataW Value} {ps : List MemPlace} (h : sfR v = some (D, ps)) : D = .held v := by
 unfold sfR at h; injection h with h; injection h with h _; exact h.symm
theorem zeroSf (w : World) : (zeroValue 81).run Try.prog w = .ok (.agg #[.int .i64 0, .int .i64 0, .int .i64 0, .int .i64 0, .int .i64 0, .int .i64 0, .int .i64 0, .bool false, .int .i64 0, .int .i64 0, .slice none 0 0]) w := by kernel_rfl
theorem look_hit {V w : World} {b n : Nat} {D : DataW Value} {L : List Sf} (hown : V.ownsMap Try.prog 3 sfR b n D) (hD : DmD w D L) {f : Sf} (hf : f ∈ L) (hs : sfOk f) :
  ∃ d, RdI w d f.data ∧ (Instr.lookup 164 (.map (some b)) (.int .i64 f.id) false).run Try.prog V = .ok (.agg #[.int .i64 f.id, .int .i64 f.x, .int .i64 f.y, .int .i64 f.w, .int .i64 f.h, .int .i64 f.alpha, .int .i64 f.orient, .bool f.vis, .int .i64 f.bw, .int .i64 f.bh, d]) V := by
 obtain ⟨_, d, hd, hat⟩ := hD.at_ f hf
 obtain ⟨v, ps, hrun, hv⟩ := hown.lookup keyI Try.underlying164 (zeroSf V) (zd := .held _) (zp := []) rfl (Maps.keyOf_int_mk Try.underlying3 (wf_id hs))
 rw [hat] at hv
 have e := sfR_held hv
 injection e with e
 subst e
 exact ⟨d, hd, hrun⟩
theorem look_miss {V w : World} {b n : Nat} {D : DataW Value} {L : List Sf} (hown : V.ownsMap Try.prog 3 sfR b n D) (hD : DmD w D L) {f : Sf} (hf : ∀ g ∈ L, ¬ g.id = f.id) (hs : sfOk f) :
  (Instr.lookup 164 (.map (some b)) (.int .i64 f.id) false).run Try.prog V = .ok (.agg #[.int .i64 0, .int .i64 0, .int .i64 0, .int .i64 0, .int .i64 0, .int .i64 0, .int .i64 0, .bool false, .int .i64 0, .int .i64 0, .slice none 0 0]) V := by
 have hh : Maps.has D (.int .i64 f.id) = false := by
  rcases e : Maps.has D (.int .i64 f.id) with _ | _
  ·rfl
  ·obtain ⟨g, hg, e2⟩ := hD.keys _ e
   injection e2 with _ e3
   exact absurd e3.symm (hf g hg)
 obtain ⟨v, ps, hrun, hv⟩ := hown.lookup keyI Try.underlying164 (zeroSf V) (zd := .held _) (zp := []) rfl (Maps.keyOf_int_mk Try.underlying3 (wf_id hs))
 rw [Maps.atKey_of_not_has hh] at hv
 have e := sfR_held hv
 have e := DataW.held.inj e
 subst e
 exact hrun
set_option maxRecDepth 10000 in
theorem wpList_next_sf {ops : Array Oper} {rest : List Oper} {o : Oper} {a : Act} {w : World} {Q : Exit → Act → World → Prop} (hg : o.guard = none) (it : Operand) (hop : o.op = Op.next it false) (b r n : Nat) (D : DataW Value) (left : Lit → Bool) (cnt : Nat)
  (hit : a.eval it = .pointer (some ⟨r, 0, none⟩)) (h : w.ranges Try.prog 3 sfR b r n D left cnt) {w0 : World} {L : List Sf} (hD : DmD w0 D L)
  (hDone : (∀ kl, left kl = false) → wpList Try.prog ops Q rest (a.put o.dst (.tuple #[.bool false])) w)
  (hMore : ∀ (f : Sf) (d : Value) (w' : World) (cnt' : Nat), f ∈ L → left (.int .i64 f.id) = true → RdI w0 d f.data → w'.ranges Try.prog 3 sfR b r n D (fun z => left z && !z.sameKey (.int .i64 f.id)) cnt' → cnt' < cnt → w.grownBy w' (some r) → w'.heap.size = w.heap.size →
   (Instr.entry (.pointer (some ⟨r, 0, none⟩))).run Try.prog w' = .ok (.tuple #[.int .i64 f.id, .agg #[.int .i64 f.id, .int .i64 f.x, .int .i64 f.y, .int .i64 f.w, .int .i64 f.h, .int .i64 f.alpha, .int .i64 f.orient, .bool f.vis, .int .i64 f.bw, .int .i64 f.bh, d]]) w' →
   wpList Try.prog ops Q rest (a.put o.dst (.tuple #[.bool true, .int .i64 f.id, .agg #[.int .i64 f.id, .int .i64 f.x, .int .i64 f.y, .int .i64 f.w, .int .i64 f.h, .int .i64 f.alpha, .int .i64 f.orient, .bool f.vis, .int .i64 f.bw, .int .i64 f.bh, d]])) w') :
  wpList Try.prog ops Q (o :: rest) a w := by
 refine wpList_next_ranges w hg it hop 3 keyI sfR (fun v : Value => v) (fun v : Value => v) (fun key _ _ => ⟨key, rfl⟩) (fun v _ _ => ⟨v, rfl⟩) b r n D left cnt hit h (fun _ => hDone) fun x c kl y w' cnt' hkey hl hv hat hrg hlt hgr hs hen => ?_
 obtain ⟨f, hf, rfl⟩ := hD.keys kl (Maps.has_true_of_atKey hat)
 obtain ⟨x', ex, e2, _⟩ := Maps.keyOf_int_inv Try.underlying3 hkey
 injection e2 with _ e3
 subst ex e3
 obtain ⟨_, d, hd, hat2⟩ := hD.at_ f hf
 obtain ⟨y1, y2⟩ := y
 have e := sfR_held hv
 have e4 := hat (.held c)
 rw [hat2] at e4
 dsimp only at e4
 rw [e] at e4
 injection e4 with e4
 subst e4
 exact hMore f d w' cnt' hf hl hd hrg hlt hgr hs hen
end Go.Proofs.Ytokniebejilcbaa
namespace Go.Proofs.Ytokniebejilcbaa
open Go.RowKit
noncomputable def ssB (f g : Sf) : Bool := @decide (f = g) (Classical.propDecidable _)
theorem ssB_yes (f : Sf) : ssB f f = true := by unfold ssB; simp
theorem ssB_no {f g : Sf} (h : ¬ f = g) : ssB f g = false := by unfold ssB; simp only [decide_eq_false_iff_not]; exact h
theorem ssB_iff {f g : Sf} : ssB f g = true ↔ f = g := by unfold ssB; simp only [decide_eq_true_eq]
theorem ssB_im {i x y w h a o : Int} {v : Bool} {p q p2 q2 : Int} {L M : List Int} : sameM p q L p2 q2 M = ssB ⟨i, x, y, w, h, a, o, v, p, q, L⟩ ⟨i, x, y, w, h, a, o, v, p2, q2, M⟩ := by
 by_cases e : p = p2 ∧ q = q2 ∧ L = M
 ·obtain ⟨rfl, rfl, rfl⟩ := e
  rw [sameM_yes, ssB_yes]
 ·rw [sameM_no e, ssB_no (fun h => e (by injection h with _ _ _ _ _ _ _ _ h1 h2 h3; exact ⟨h1, h2, h3⟩))]
def SsAns (f g : Sf) (w : World) (e : Ending) (w' : World) : Prop := e = .returned (.bool (ssB f g)) ∧ Below w.heap.size w w'
set_option maxHeartbeats 1000000 in
theorem ssI (f g : Sf) (d u : Value) (w : World) (hv : RdI w d f.data) (hu : RdI w u g.data) :
  Calls Try.prog 139 #[.agg #[.int .i64 f.id, .int .i64 f.x, .int .i64 f.y, .int .i64 f.w, .int .i64 f.h, .int .i64 f.alpha, .int .i64 f.orient, .bool f.vis, .int .i64 f.bw, .int .i64 f.bh, d], .agg #[.int .i64 g.id, .int .i64 g.x, .int .i64 g.y, .int .i64 g.w, .int .i64 g.h, .int .i64 g.alpha, .int .i64 g.orient, .bool g.vis, .int .i64 g.bw, .int .i64 g.bh, u]] w (SsAns f g w) := by
 obtain ⟨A, c, rfl⟩ := hv.form
 obtain ⟨B, m, rfl⟩ := hu.form
 obtain ⟨fid, fx, fy, fw, fh, falpha, forient, fvis, fbw, fbh, fdata⟩ := f
 obtain ⟨gid, gx, gy, gw, gh, galpha, gorient, gvis, gbw, gbh, gdata⟩ := g
 dsimp only at hv hu ⊢
 obtain ⟨nf, hnf⟩ : ∃ n, n = fdata.length := ⟨_, rfl⟩
 obtain ⟨ng, hng⟩ : ∃ n, n = gdata.length := ⟨_, rfl⟩
 rw [← hnf] at hv ⊢
 rw [← hng] at hu ⊢
 clear hnf hng
 have hB := belI_box w (.cells #[.int .i64 fid, .int .i64 fx, .int .i64 fy, .int .i64 fw, .int .i64 fh, .int .i64 falpha, .int .i64 forient, .bool fvis, .int .i64 fbw, .int .i64 fbh, .slice A nf c] 81)
 have hB2 := belI_box (w.alloc (.cells #[.int .i64 fid, .int .i64 fx, .int .i64 fy, .int .i64 fw, .int .i64 fh, .int .i64 falpha, .int .i64 forient, .bool fvis, .int .i64 fbw, .int .i64 fbh, .slice A nf c] 81)) (.cells #[.int .i64 gid, .int .i64 gx, .int .i64 gy, .int .i64 gw, .int .i64 gh, .int .i64 galpha, .int .i64 gorient, .bool gvis, .int .i64 gbw, .int .i64 gbh, .slice B ng m] 81)
 have hX := (BkAt.new w 81 #[.int .i64 fid, .int .i64 fx, .int .i64 fy, .int .i64 fw, .int .i64 fh, .int .i64 falpha, .int .i64 forient, .bool fvis, .int .i64 fbw, .int .i64 fbh, .slice A nf c]).call hB2
 have hY := BkAt.newAt (g := w.heap.size + 1) (show (w.alloc (.cells #[.int .i64 fid, .int .i64 fx, .int .i64 fy, .int .i64 fw, .int .i64 fh, .int .i64 falpha, .int .i64 forient, .bool fvis, .int .i64 fbw, .int .i64 fbh, .slice A nf c] 81)).heap.size = w.heap.size + 1 by simp) 81 #[.int .i64 gid, .int .i64 gx, .int .i64 gy, .int .i64 gw, .int .i64 gh, .int .i64 galpha, .int .i64 gorient, .bool gvis, .int .i64 gbw, .int .i64 gbh, .slice B ng m]
 have HC := sameII fbw fbh _ fdata gbw gbh _ gdata _ ((hv.call hB).call hB2) ((hu.call hB).call hB2)
 unfold SameMAns at HC
 unfold SsAns
 replace hB := belI_call hB hB2
 clear hB2 hv hu
 have x0 := hX.cell 0 rfl
 have x1 := hX.cell 1 rfl
 have x2 := hX.cell 2 rfl
 have x3 := hX.cell 3 rfl
 have x4 := hX.cell 4 rfl
 have x5 := hX.cell 5 rfl
 have x6 := hX.cell 6 rfl
 have x7 := hX.cell 7 rfl
 have x8 := hX.cell 8 rfl
 have x9 := hX.cell 9 rfl
 have x10 := hX.cell 10 rfl
 have y0 := hY.cell 0 rfl
 have y1 := hY.cell 1 rfl
 have y2 := hY.cell 2 rfl
 have y3 := hY.cell 3 rfl
 have y4 := hY.cell 4 rfl
 have y5 := hY.cell 5 rfl
 have y6 := hY.cell 6 rfl
 have y7 := hY.cell 7 rfl
 have y8 := hY.cell 8 rfl
 have y9 := hY.cell 9 rfl
 have y10 := hY.cell 10 rfl
 have HB := Lib.hid hB
 have HC := Lib.hid HC
 clear hX hY hB
 by_cases e : fid = gid
 rotate_left
 ·have Hn := Lib.hid (ssB_no (f := ⟨fid, fx, fy, fw, fh, falpha, forient, fvis, fbw, fbh, fdata⟩) (g := ⟨gid, gx, gy, gw, gh, galpha, gorient, gvis, gbw, gbh, gdata⟩) fun h => e (by injection h))
  have eb : (fid == gid) = false := by rw [beq_eq_false_iff_ne]; exact e
  go_enter Try.func139, Try.ntmps139
  go_wp2_with fail
  go_ret
  exact ⟨ret_bool Hn.out.symm, HB.out⟩
 subst e
 by_cases e : fx = gx
 rotate_left
 ·have Hn := Lib.hid (ssB_no (f := ⟨fid, fx, fy, fw, fh, falpha, forient, fvis, fbw, fbh, fdata⟩) (g := ⟨fid, gx, gy, gw, gh, galpha, gorient, gvis, gbw, gbh, gdata⟩) fun h => e (by injection h))
  have eb : (fx == gx) = false := by rw [beq_eq_false_iff_ne]; exact e
  go_enter Try.func139, Try.ntmps139
  go_wp2_with fail
  go_ret
  exact ⟨ret_bool Hn.out.symm, HB.out⟩
 subst e
 by_cases e : fy = gy
 rotate_left
 ·have Hn := Lib.hid (ssB_no (f := ⟨fid, fx, fy, fw, fh, falpha, forient, fvis, fbw, fbh, fdata⟩) (g := ⟨fid, fx, gy, gw, gh, galpha, gorient, gvis, gbw, gbh, gdata⟩) fun h => e (by injection h))
  have eb : (fy == gy) = false := by rw [beq_eq_false_iff_ne]; exact e
  go_enter Try.func139, Try.ntmps139
  go_wp2_with fail
  go_ret
  exact ⟨ret_bool Hn.out.symm, HB.out⟩
 subst e
 by_cases e : fw = gw
 rotate_left
 ·have Hn := Lib.hid (ssB_no (f := ⟨fid, fx, fy, fw, fh, falpha, forient, fvis, fbw, fbh, fdata⟩) (g := ⟨fid, fx, fy, gw, gh, galpha, gorient, gvis, gbw, gbh, gdata⟩) fun h => e (by injection h))
  have eb : (fw == gw) = false := by rw [beq_eq_false_iff_ne]; exact e
  go_enter Try.func139, Try.ntmps139
  go_wp2_with fail
  go_ret
  exact ⟨ret_bool Hn.out.symm, HB.out⟩
 subst e
 by_cases e : fh = gh
 rotate_left
 ·have Hn := Lib.hid (ssB_no (f := ⟨fid, fx, fy, fw, fh, falpha, forient, fvis, fbw, fbh, fdata⟩) (g := ⟨fid, fx, fy, fw, gh, galpha, gorient, gvis, gbw, gbh, gdata⟩) fun h => e (by injection h))
  have eb : (fh == gh) = false := by rw [beq_eq_false_iff_ne]; exact e
  go_enter Try.func139, Try.ntmps139
  go_wp2_with fail
  go_ret
  exact ⟨ret_bool Hn.out.symm, HB.out⟩
 subst e
 by_cases e : falpha = galpha
 rotate_left
 ·have Hn := Lib.hid (ssB_no (f := ⟨fid, fx, fy, fw, fh, falpha, forient, fvis, fbw, fbh, fdata⟩) (g := ⟨fid, fx, fy, fw, fh, galpha, gorient, gvis, gbw, gbh, gdata⟩) fun h => e (by injection h))
  have eb : (falpha == galpha) = false := by rw [beq_eq_false_iff_ne]; exact e
  go_enter Try.func139, Try.ntmps139
  go_wp2_with fail
  go_ret
  exact ⟨ret_bool Hn.out.symm, HB.out⟩
 subst e
 by_cases e : forient = gorient
 rotate_left
 ·have Hn := Lib.hid (ssB_no (f := ⟨fid, fx, fy, fw, fh, falpha, forient, fvis, fbw, fbh, fdata⟩) (g := ⟨fid, fx, fy, fw, fh, falpha, gorient, gvis, gbw, gbh, gdata⟩) fun h => e (by injection h))
  have eb : (forient == gorient) = false := by rw [beq_eq_false_iff_ne]; exact e
  go_enter Try.func139, Try.ntmps139
  go_wp2_with fail
  go_ret
  exact ⟨ret_bool Hn.out.symm, HB.out⟩
 subst e
 by_cases e : fvis = gvis
 rotate_left
 ·have Hn := Lib.hid (ssB_no (f := ⟨fid, fx, fy, fw, fh, falpha, forient, fvis, fbw, fbh, fdata⟩) (g := ⟨fid, fx, fy, fw, fh, falpha, forient, gvis, gbw, gbh, gdata⟩) fun h => e (by injection h))
  cases fvis <;> cases gvis
  ·exact absurd rfl e
  ·clear e
   go_enter Try.func139, Try.ntmps139
   go_wp2_with fail
   go_ret
   exact ⟨ret_bool Hn.out.symm, HB.out⟩
  ·clear e
   go_enter Try.func139, Try.ntmps139
   go_wp2_with fail
   go_ret
   exact ⟨ret_bool Hn.out.symm, HB.out⟩
  ·exact absurd rfl e
 subst e
 rw [ssB_im (i := fid) (x := fx) (y := fy) (w := fw) (h := fh) (a := falpha) (o := forient) (v := fvis)] at HC
 go_enter Try.func139, Try.ntmps139
 go_wp2_with fail
 refine HC.out.mono ?_
 rintro e w1 ⟨rfl, hb⟩
 go_wp2_with fail
 go_ret
 exact ⟨rfl, belI_call HB.out hb⟩
set_option maxHeartbeats 1000000 in
theorem ssS (f g : Sf) (d u : Value) (w : World) (hv : RdI w d f.data) (hu : RdI w u g.data) :
  Calls Try.prog 91 #[.agg #[.int .i64 f.id, .int .i64 f.x, .int .i64 f.y, .int .i64 f.w, .int .i64 f.h, .int .i64 f.alpha, .int .i64 f.orient, .bool f.vis, .int .i64 f.bw, .int .i64 f.bh, d], .agg #[.int .i64 g.id, .int .i64 g.x, .int .i64 g.y, .int .i64 g.w, .int .i64 g.h, .int .i64 g.alpha, .int .i64 g.orient, .bool g.vis, .int .i64 g.bw, .int .i64 g.bh, u]] w (SsAns f g w) := by
 obtain ⟨A, c, rfl⟩ := hv.form
 obtain ⟨B, m, rfl⟩ := hu.form
 obtain ⟨fid, fx, fy, fw, fh, falpha, forient, fvis, fbw, fbh, fdata⟩ := f
 obtain ⟨gid, gx, gy, gw, gh, galpha, gorient, gvis, gbw, gbh, gdata⟩ := g
 dsimp only at hv hu ⊢
 obtain ⟨nf, hnf⟩ : ∃ n, n = fdata.length := ⟨_, rfl⟩
 obtain ⟨ng, hng⟩ : ∃ n, n = gdata.length := ⟨_, rfl⟩
 rw [← hnf] at hv ⊢
 rw [← hng] at hu ⊢
 clear hnf hng
 have hB := belI_box w (.cells #[.int .i64 fid, .int .i64 fx, .int .i64 fy, .int .i64 fw, .int .i64 fh, .int .i64 falpha, .int .i64 forient, .bool fvis, .int .i64 fbw, .int .i64 fbh, .slice A nf c] 81)
 have hB2 := belI_box (w.alloc (.cells #[.int .i64 fid, .int .i64 fx, .int .i64 fy, .int .i64 fw, .int .i64 fh, .int .i64 falpha, .int .i64 forient, .bool fvis, .int .i64 fbw, .int .i64 fbh, .slice A nf c] 81)) (.cells #[.int .i64 gid, .int .i64 gx, .int .i64 gy, .int .i64 gw, .int .i64 gh, .int .i64 galpha, .int .i64 gorient, .bool gvis, .int .i64 gbw, .int .i64 gbh, .slice B ng m] 81)
 have hX := (BkAt.new w 81 #[.int .i64 fid, .int .i64 fx, .int .i64 fy, .int .i64 fw, .int .i64 fh, .int .i64 falpha, .int .i64 forient, .bool fvis, .int .i64 fbw, .int .i64 fbh, .slice A nf c]).call hB2
 have hY := BkAt.newAt (g := w.heap.size + 1) (show (w.alloc (.cells #[.int .i64 fid, .int .i64 fx, .int .i64 fy, .int .i64 fw, .int .i64 fh, .int .i64 falpha, .int .i64 forient, .bool fvis, .int .i64 fbw, .int .i64 fbh, .slice A nf c] 81)).heap.size = w.heap.size + 1 by simp) 81 #[.int .i64 gid, .int .i64 gx, .int .i64 gy, .int .i64 gw, .int .i64 gh, .int .i64 galpha, .int .i64 gorient, .bool gvis, .int .i64 gbw, .int .i64 gbh, .slice B ng m]
 have HC := sameIS fbw fbh _ fdata gbw gbh _ gdata _ ((hv.call hB).call hB2) ((hu.call hB).call hB2)
 unfold SameMAns at HC
 unfold SsAns
 replace hB := belI_call hB hB2
 clear hB2 hv hu
 have x0 := hX.cell 0 rfl
 have x1 := hX.cell 1 rfl
 have x2 := hX.cell 2 rfl
 have x3 := hX.cell 3 rfl
 have x4 := hX.cell 4 rfl
 have x5 := hX.cell 5 rfl
 have x6 := hX.cell 6 rfl
 have x7 := hX.cell 7 rfl
 have x8 := hX.cell 8 rfl
 have x9 := hX.cell 9 rfl
 have x10 := hX.cell 10 rfl
 have y0 := hY.cell 0 rfl
 have y1 := hY.cell 1 rfl
 have y2 := hY.cell 2 rfl
 have y3 := hY.cell 3 rfl
 have y4 := hY.cell 4 rfl
 have y5 := hY.cell 5 rfl
 have y6 := hY.cell 6 rfl
 have y7 := hY.cell 7 rfl
 have y8 := hY.cell 8 rfl
 have y9 := hY.cell 9 rfl
 have y10 := hY.cell 10 rfl
 have HB := Lib.hid hB
 have HC := Lib.hid HC
 clear hX hY hB
 by_cases e : fid = gid
 rotate_left
 ·have Hn := Lib.hid (ssB_no (f := ⟨fid, fx, fy, fw, fh, falpha, forient, fvis, fbw, fbh, fdata⟩) (g := ⟨gid, gx, gy, gw, gh, galpha, gorient, gvis, gbw, gbh, gdata⟩) fun h => e (by injection h))
  have eb : (fid == gid) = false := by rw [beq_eq_false_iff_ne]; exact e
  go_enter Try.func91, Try.ntmps91
  go_wp2_with fail
  go_ret
  exact ⟨ret_bool Hn.out.symm, HB.out⟩
 subst e
 by_cases e : fx = gx
 rotate_left
 ·have Hn := Lib.hid (ssB_no (f := ⟨fid, fx, fy, fw, fh, falpha, forient, fvis, fbw, fbh, fdata⟩) (g := ⟨fid, gx, gy, gw, gh, galpha, gorient, gvis, gbw, gbh, gdata⟩) fun h => e (by injection h))
  have eb : (fx == gx) = false := by rw [beq_eq_false_iff_ne]; exact e
  go_enter Try.func91, Try.ntmps91
  go_wp2_with fail
  go_ret
  exact ⟨ret_bool Hn.out.symm, HB.out⟩
 subst e
 by_cases e : fy = gy
 rotate_left
 ·have Hn := Lib.hid (ssB_no (f := ⟨fid, fx, fy, fw, fh, falpha, forient, fvis, fbw, fbh, fdata⟩) (g := ⟨fid, fx, gy, gw, gh, galpha, gorient, gvis, gbw, gbh, gdata⟩) fun h => e (by injection h))
  have eb : (fy == gy) = false := by rw [beq_eq_false_iff_ne]; exact e
  go_enter Try.func91, Try.ntmps91
  go_wp2_with fail
  go_ret
  exact ⟨ret_bool Hn.out.symm, HB.out⟩
 subst e
 by_cases e : fw = gw
 rotate_left
 ·have Hn := Lib.hid (ssB_no (f := ⟨fid, fx, fy, fw, fh, falpha, forient, fvis, fbw, fbh, fdata⟩) (g := ⟨fid, fx, fy, gw, gh, galpha, gorient, gvis, gbw, gbh, gdata⟩) fun h => e (by injection h))
  have eb : (fw == gw) = false := by rw [beq_eq_false_iff_ne]; exact e
  go_enter Try.func91, Try.ntmps91
  go_wp2_with fail
  go_ret
  exact ⟨ret_bool Hn.out.symm, HB.out⟩
 subst e
 by_cases e : fh = gh
 rotate_left
 ·have Hn := Lib.hid (ssB_no (f := ⟨fid, fx, fy, fw, fh, falpha, forient, fvis, fbw, fbh, fdata⟩) (g := ⟨fid, fx, fy, fw, gh, galpha, gorient, gvis, gbw, gbh, gdata⟩) fun h => e (by injection h))
  have eb : (fh == gh) = false := by rw [beq_eq_false_iff_ne]; exact e
  go_enter Try.func91, Try.ntmps91
  go_wp2_with fail
  go_ret
  exact ⟨ret_bool Hn.out.symm, HB.out⟩
 subst e
 by_cases e : falpha = galpha
 rotate_left
 ·have Hn := Lib.hid (ssB_no (f := ⟨fid, fx, fy, fw, fh, falpha, forient, fvis, fbw, fbh, fdata⟩) (g := ⟨fid, fx, fy, fw, fh, galpha, gorient, gvis, gbw, gbh, gdata⟩) fun h => e (by injection h))
  have eb : (falpha == galpha) = false := by rw [beq_eq_false_iff_ne]; exact e
  go_enter Try.func91, Try.ntmps91
  go_wp2_with fail
  go_ret
  exact ⟨ret_bool Hn.out.symm, HB.out⟩
 subst e
 by_cases e : forient = gorient
 rotate_left
 ·have Hn := Lib.hid (ssB_no (f := ⟨fid, fx, fy, fw, fh, falpha, forient, fvis, fbw, fbh, fdata⟩) (g := ⟨fid, fx, fy, fw, fh, falpha, gorient, gvis, gbw, gbh, gdata⟩) fun h => e (by injection h))
  have eb : (forient == gorient) = false := by rw [beq_eq_false_iff_ne]; exact e
  go_enter Try.func91, Try.ntmps91
  go_wp2_with fail
  go_ret
  exact ⟨ret_bool Hn.out.symm, HB.out⟩
 subst e
 by_cases e : fvis = gvis
 rotate_left
 ·have Hn := Lib.hid (ssB_no (f := ⟨fid, fx, fy, fw, fh, falpha, forient, fvis, fbw, fbh, fdata⟩) (g := ⟨fid, fx, fy, fw, fh, falpha, forient, gvis, gbw, gbh, gdata⟩) fun h => e (by injection h))
  cases fvis <;> cases gvis
  ·exact absurd rfl e
  ·clear e
   go_enter Try.func91, Try.ntmps91
   go_wp2_with fail
   go_ret
   exact ⟨ret_bool Hn.out.symm, HB.out⟩
  ·clear e
   go_enter Try.func91, Try.ntmps91
   go_wp2_with fail
   go_ret
   exact ⟨ret_bool Hn.out.symm, HB.out⟩
  ·exact absurd rfl e
 subst e
 rw [ssB_im (i := fid) (x := fx) (y := fy) (w := fw) (h := fh) (a := falpha) (o := forient) (v := fvis)] at HC
 go_enter Try.func91, Try.ntmps91
 go_wp2_with fail
 refine HC.out.mono ?_
 rintro e w1 ⟨rfl, hb⟩
 go_wp2_with fail
 go_ret
 exact ⟨rfl, belI_call HB.out hb⟩
end Go.Proofs.Ytokniebejilcbaa
namespace Go.Proofs.Ytokniebejilcbaa
open Go.RowKit
def RgU (Q : List Rc) (w : World) (e : Ending) (w' : World) : Prop := ∃ u bs, e = .returned (.agg #[u]) ∧ repRg.Own w.heap.size w' Q [u] bs ∧ Below w.heap.size w w'
theorem rgU {Q : List Rc} {w : World} {e : Ending} {w' : World} (h : RgQ Q w e w') : RgU Q w e w' := by
 obtain ⟨v, he, ho, hb⟩ := h
 exact ⟨v, _, he, rg_own ho, hb⟩
end Go.Proofs.Ytokniebejilcbaa
