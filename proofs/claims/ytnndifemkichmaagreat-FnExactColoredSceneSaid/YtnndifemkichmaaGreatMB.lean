/- Texts of mine in one file: ImC, ImN, SnM, SlU, ImM, CpyB, FilB, OrdB, SclB, LawS, SclL, OcS. No statement is proved here. -/
import Derived.Test.YtnndifemkichmaaGreatMA
import Derived.Test.YtnndifemkichmaaGreatProg
import Derived.WalkKit
import Derived.ProofKit
import Derived.OpenShut
import Derived.WalkLawsBesides
import Derived.WalkSpells
import Derived.ShutString
import Derived.ChangeOld
import Derived.Below
import Derived.Lib.Hide
import Derived.BigQuiet
import Derived.Deep.QuietTactic
import Derived.Maps.AppendAt
import Derived.Deep.OwnRows
import Derived.Handy
import Derived.Deep.Draws
import Derived.OwnWalk
import Derived.Deep.AppendLies
import Derived.Deep.LoopGhost
import Derived.Deep.Onto
import Derived.Test.YtnndifemkichmaaGreatShelf
import Derived.Laws.CopyOwn
import Derived.Deep.RegionLaw
import Derived.Deep.RegionHeld3
import Derived.Deep.DeepCutAuto
import Derived.Great.BuildSlice
import Derived.Laws.BitsAllLaws
import Derived.Lib.QuoteBits
import Derived.Deep.MidRow
import Derived.Deep.WholeRow
import Derived.Laws.AppendOwn
import Derived.Shelf.RegionOpenPlain
import Derived.Lib.SliceRun
import Derived.Deep.RegionWith
import Derived.ChangeKeysEq
import Derived.Deep.DeepAppendRoom
namespace Go.Proofs.YtnndifemkichmaaGreat
open Go.RowKit
theorem wrap_in (x : Int) (h0 : -9223372036854775808 ≤ x) (h1 : x ≤ 9223372036854775807) : IntKind.i64.wrap x = x := by
 simp [IntKind.wrap, IntKind.bits, IntKind.signed]; omega
end Go.Proofs.YtnndifemkichmaaGreat
namespace Go.Proofs.YtnndifemkichmaaGreat
open Go.RowKit
structure Im where
 w : Int
 h : Int
 d : List Int
def zeroIm : Im := ⟨0, 0, []⟩
end Go.Proofs.YtnndifemkichmaaGreat
namespace Go.Proofs.YtnndifemkichmaaGreat
open Go.RowKit
def repSn : Rep Sn where
 R := fun w s vs bs => ∃ v, vs = snCells s v ∧ repSfs.R w s.fs [v] bs
 ex := by rintro w f vs bs ⟨d, rfl, h⟩; exact repSfs.ex h
 keep := by rintro w w' f vs bs ⟨d, rfl, h⟩ hk; exact ⟨d, rfl, repSfs.keep h hk⟩
def wkSn : Wk Sn where
 R := fun w s vs => ∃ v, vs = snCells s v ∧ wkSfs.R w s.fs [v]
 call := by rintro w w' f vs ⟨d, rfl, h⟩ hb; exact ⟨d, rfl, wkSfs.call h hb⟩
def wkEds : Wk (List Ed) := wkSl wkEd 7
theorem r_sn {w : World} {s : Sn} {v : Value} {bs : List Nat} (h : repSn.R w s [.int .i64 s.w, .int .i64 s.h, .int .i64 s.back, v] bs) : repSfs.R w s.fs [v] bs := by
 obtain ⟨v', e, h⟩ := h
 have e2 : v = v' := by simpa [snCells] using e
 subst e2
 exact h
theorem own_sn {B : Nat} {w : World} {s : Sn} {v : Value} {bs : List Nat} (h : repSn.Own B w s [.int .i64 s.w, .int .i64 s.h, .int .i64 s.back, v] bs) : repSfs.Own B w s.fs [v] bs := ⟨r_sn h.r, h.nd, h.lo⟩
theorem own_sn' {B : Nat} {w : World} {s : Sn} {v : Value} {bs : List Nat} (h : repSfs.Own B w s.fs [v] bs) : repSn.Own B w s [.int .i64 s.w, .int .i64 s.h, .int .i64 s.back, v] bs := ⟨⟨v, rfl, h.r⟩, h.nd, h.lo⟩
theorem form_sn {w : World} {s : Sn} {v : Value} {bs : List Nat} (h : repSn.R w s [.int .i64 s.w, .int .i64 s.h, .int .i64 s.back, v] bs) : ∃ A c, v = .slice A s.fs.length c := (repSfs_form (r_sn h)).1
theorem wr_sn {w : World} {s : Sn} {v : Value} (h : wkSn.R w s [.int .i64 s.w, .int .i64 s.h, .int .i64 s.back, v]) : wkSfs.R w s.fs [v] := by
 obtain ⟨v', e, h⟩ := h
 have e2 : v = v' := by simpa [snCells] using e
 subst e2
 exact h
theorem wkSl_form {α : Type} {F : Wk α} {s : Nat} {w : World} {L : List α} {v : Value} (h : (wkSl F s).R w L [v]) : (∃ A c, v = .slice A L.length c) ∧ L.length ≤ maxLen := by
 obtain ⟨hm, A, c, e, _⟩ := h
 obtain rfl : v = .slice A L.length c := by simpa using e
 exact ⟨⟨_, _, rfl⟩, hm⟩
theorem wform_sn {w : World} {s : Sn} {v : Value} (h : wkSn.R w s [.int .i64 s.w, .int .i64 s.h, .int .i64 s.back, v]) : ∃ A c, v = .slice A s.fs.length c := (wkSl_form (wr_sn h)).1
def lenFs (L : List Sf) : Nat := (L.map fun f => f.data.length).sum
def sizFs (L : List Sf) : Nat := L.length + lenFs L
def cntFs (L : List Sf) : Nat := L.length * 10 + lenFs L
def mkSfK (k : Nat) (f : Sf) : Sf := ⟨k, (k + 1 : Nat), (k + 2 : Nat), (k + 3 : Nat), (k + 4 : Nat), (k + 5 : Nat), (k + 6 : Nat), ((k + 7 : Nat) : Int) % 3 == 0, (k + 8 : Nat), (k + 9 : Nat), marksI (k + 10) f.data.length⟩
def mkFs (k : Nat) : List Sf → List Sf
 | [] => []
 | f :: L => mkSfK k f :: mkFs (k + 10 + f.data.length) L
def mkSn (k : Nat) (s : Sn) : Sn := { s with fs := mkFs k s.fs }
theorem mkFs_length (k : Nat) (L : List Sf) : (mkFs k L).length = L.length := by
 induction L generalizing k with
 | nil => rfl
 | cons f L ih => simp [mkFs, ih]
theorem cntFs_take {L : List Sf} {k : Nat} {f : Sf} (h : L[k]? = some f) : cntFs (L.take (k + 1)) = cntFs (L.take k) + 10 + f.data.length := by
 have hk : k < L.length := (List.getElem?_eq_some_iff.1 h).1
 unfold cntFs lenFs
 rw [List.take_add_one, h, Option.toList_some, List.map_append, List.sum_append, List.length_append]
 simp
 omega
theorem lenFs_take {L : List Sf} {k : Nat} {f : Sf} (h : L[k]? = some f) : lenFs (L.take (k + 1)) = lenFs (L.take k) + f.data.length := by
 unfold lenFs
 rw [List.take_add_one, h, Option.toList_some, List.map_append, List.sum_append]
 simp
theorem lenFs_le (L : List Sf) (k : Nat) : lenFs (L.take k) ≤ lenFs L := by
 unfold lenFs
 conv => rhs; rw [← List.take_append_drop k L, List.map_append, List.sum_append]
 omega
theorem lenFs_at {L : List Sf} {k : Nat} {f : Sf} (h : L[k]? = some f) : f.data.length ≤ lenFs L := by
 have := lenFs_le L (k + 1); rw [lenFs_take h] at this; omega
theorem cntFs_le (L : List Sf) (k : Nat) : cntFs (L.take k) ≤ cntFs L := by
 have := lenFs_le L k; unfold cntFs; rw [List.length_take]; omega
theorem mkFs_get {L : List Sf} {k : Nat} {f : Sf} (k0 : Nat) (h : L[k]? = some f) : (mkFs k0 L)[k]? = some (mkSfK (k0 + cntFs (L.take k)) f) := by
  induction L generalizing k k0 with
  | nil => simp at h
  | cons g L ih =>
    cases k with
    | zero =>
      obtain rfl : g = f := by simpa using h
      simp [mkFs, cntFs, lenFs]
    | succ k =>
      have h1 := ih (k0 + 10 + g.data.length) (by simpa using h)
      simp only [mkFs, List.getElem?_cons_succ]
      rw [h1]
      congr 2
      simp [cntFs, lenFs]
      omega
theorem cnt_le_siz (L : List Sf) : cntFs L ≤ 10 * sizFs L := by unfold cntFs sizFs; omega
def mixG {α : Type} (M L : List α) (k : Nat) : List α := M.take k ++ L.drop k
section
variable {α : Type} {M L : List α} {k : Nat}
theorem mix_zero (M L : List α) : mixG M L 0 = L := by simp [mixG]
theorem mix_all (h : M.length = L.length) : mixG M L L.length = M := by
 unfold mixG; rw [List.drop_length, List.append_nil, List.take_of_length_le (by omega)]
theorem mix_len (h : M.length = L.length) (k : Nat) : (mixG M L k).length = L.length := by
 unfold mixG; rw [List.length_append, List.length_take, List.length_drop]; omega
theorem mix_get (h : M.length = L.length) {f : α} (hf : L[k]? = some f) : (mixG M L k)[k]? = some f := by
 have hk : k < L.length := (List.getElem?_eq_some_iff.1 hf).1
 unfold mixG
 rw [List.getElem?_append_right (by rw [List.length_take]; omega), List.length_take, show k - min k M.length = 0 by omega, List.getElem?_drop, Nat.add_zero, hf]
theorem mix_set (h : M.length = L.length) {g : α} (hg : M[k]? = some g) : (mixG M L k).set k g = mixG M L (k + 1) := by
 have hk : k < M.length := (List.getElem?_eq_some_iff.1 hg).1
 apply List.ext_getElem?
 intro j
 by_cases e : j = k
 ·subst e
  rw [List.getElem?_set_self (by rw [mix_len h]; omega)]
  unfold mixG
  rw [List.getElem?_append_left (by rw [List.length_take]; omega), List.getElem?_take_of_lt (by omega), hg]
 ·rw [List.getElem?_set_ne (Ne.symm e)]
  unfold mixG
  by_cases hj : j < k
  ·rw [List.getElem?_append_left (by rw [List.length_take]; omega), List.getElem?_append_left (by rw [List.length_take]; omega), List.getElem?_take_of_lt hj, List.getElem?_take_of_lt (by omega)]
  ·rw [List.getElem?_append_right (by rw [List.length_take]; omega), List.getElem?_append_right (by rw [List.length_take]; omega), List.length_take, List.length_take, List.getElem?_drop, List.getElem?_drop]
   congr 1
   omega
end
end Go.Proofs.YtnndifemkichmaaGreat
namespace Go.Proofs.YtnndifemkichmaaGreat
open Go.RowKit
structure SlU {α : Type} (E : Rep α) (e : TypeId) (s : Nat) (w : World) (L : List α) (g c n : Nat) (xs : List (List Value)) (bss : List (List Nat)) : Prop where
 rr : rowsR E w L xs bss
 ls : ∀ x ∈ xs, x.length = s
 ow : w.ownsRow 0 e s (.slice (some ⟨g, 0, none⟩) n c) n xs.flatten
 hn : n = L.length
section
variable {α : Type} {E : Rep α} {e : TypeId} {s : Nat} {w w' : World} {L : List α} {g c n : Nat} {xs : List (List Value)} {bss : List (List Nat)}
theorem SlU.lt (h : SlU E e s w L g c n xs bss) : g < w.heap.size := (own_ltB h.ow g (by simp [Value.ownBlock])).2
theorem SlU.call (h : SlU E e s w L g c n xs bss) (hb : Below w.heap.size w w') : SlU E e s w' L g c n xs bss :=
 ⟨rowsR_keep h.rr fun b hb' => hb.block b (rowsR_ex h.rr b hb'), h.ls, own_keepB h.ow fun b hb' => hb.block b (own_ltB h.ow b hb').2, h.hn⟩
theorem SlU.at_ (h : SlU E e s w L g c n xs bss) {k : Nat} (hk : k < n) : ∃ a x b, L[k]? = some a ∧ xs[k]? = some x ∧ bss[k]? = some b ∧ x.length = s ∧ E.R w a x b ∧ ∀ j u, x[j]? = some u → w.cell? ⟨g, k * s + j, none⟩ = some u := by
 have hL := List.getElem?_eq_getElem (show k < L.length by rw [← h.hn]; exact hk)
 obtain ⟨x, b, hx, hb, hR⟩ := rowsR_at h.rr k _ hL
 have hl := h.ls x (List.mem_of_getElem? hx)
 refine ⟨_, x, b, hL, hx, hb, hl, hR, fun j u hu => ?_⟩
 have hj : j < s := by have := (List.getElem?_eq_some_iff.1 hu).1; omega
 exact own_cellI h.ow (by rw [flat_at h.ls k j hx hj]; exact hu)
theorem SlU.frozen (h : SlU E e s w L g c n xs bss) (j : Nat) : w.frozen? ⟨g, j, none⟩ = false := h.ow.frozenAt j
theorem SlU.rep (h : SlU E e s w L g c n xs bss) : (repSl E e s).R w L [.slice (some ⟨g, 0, none⟩) n c] (g :: bss.flatten) := ⟨_, xs, bss, rfl, h.rr, h.ls, by rw [← h.hn]; exact h.ow, by simp [Value.ownBlock]⟩
theorem SlU.of_rep {v : Value} {bs : List Nat} (h : (repSl E e s).R w L [v] bs) : (v = .slice none 0 0 ∧ L = [] ∧ bs = []) ∨ ∃ g c xs bss, v = .slice (some ⟨g, 0, none⟩) L.length c ∧ SlU E e s w L g c L.length xs bss ∧ bs = g :: bss.flatten := by
 obtain ⟨v', xs, bss, he, hr, hs, ho, rfl⟩ := h
 obtain rfl : v = v' := by simpa using he
 rcases ho.2 with ⟨rfl, h0⟩ | ⟨g, cap, cur, rfl, _⟩
 ·have hL : L = [] := List.eq_nil_of_length_eq_zero h0
  subst hL
  have := (rowsR_len hr).2
  obtain rfl : bss = [] := List.eq_nil_of_length_eq_zero this
  exact .inl ⟨rfl, rfl, rfl⟩
 ·exact .inr ⟨g, cap, xs, bss, rfl, ⟨hr, hs, ho, rfl⟩, by simp [Value.ownBlock]⟩
theorem own_setK {xs : List (List Value)} (ls : ∀ x ∈ xs, x.length = s) (ow : w.ownsRow 0 e s (.slice (some ⟨g, 0, none⟩) n c) n xs.flatten) {k j : Nat} {x : List Value} (hx : xs[k]? = some x) (hj : j < s) (v : Value) :
  (∀ y ∈ xs.set k (x.set j v), y.length = s) ∧ (w.setCell ⟨g, k * s + j, none⟩ v).ownsRow 0 e s (.slice (some ⟨g, 0, none⟩) n c) n (xs.set k (x.set j v)).flatten ∧ w.grownBy (w.setCell ⟨g, k * s + j, none⟩ v) (some g) := by
 obtain ⟨p1, p2⟩ := ow.stored (k * s + j) v
 rw [flat_set ls k j hx v hj] at p1
 refine ⟨fun y hy => ?_, p1, p2⟩
 rcases List.mem_or_eq_of_mem_set hy with h | rfl
 ·exact ls y h
 ·rw [List.length_set]; exact ls x (List.mem_of_getElem? hx)
end
structure SetK (e : TypeId) (s : Nat) (w w' : World) (g c n k : Nat) (xs : List (List Value)) (x' : List Value) : Prop where
 ls : ∀ y ∈ xs.set k x', y.length = s
 ow : w'.ownsRow 0 e s (.slice (some ⟨g, 0, none⟩) n c) n (xs.set k x').flatten
 gr : w.grownBy w' (some g)
theorem SetK.put {e : TypeId} {s : Nat} {w w' : World} {g c n k : Nat} {xs : List (List Value)} {x' y : List Value} (h : SetK e s w w' g c n k xs x') (hk : k < xs.length) (j : Nat) (hj : j < s) (v : Value) (hv : x'.set j v = y) : SetK e s w (w'.setCell ⟨g, k * s + j, none⟩ v) g c n k xs y := by
 obtain ⟨p1, p2, p3⟩ := own_setK h.ls h.ow (k := k) (j := j) (x := x') (by rw [List.getElem?_set_self hk]) hj v
 rw [List.set_set, hv] at p1 p2
 exact ⟨p1, p2, h.gr.trans p3⟩
theorem SetK.zero {α : Type} {E : Rep α} {e : TypeId} {s : Nat} {w : World} {L : List α} {g c n k : Nat} {xs : List (List Value)} {bss : List (List Nat)} {x : List Value} (h : SlU E e s w L g c n xs bss) (hx : xs[k]? = some x) : SetK e s w w g c n k xs x := by
 have hs : xs.set k x = xs := by
  apply List.ext_getElem?
  intro j
  by_cases e : j = k
  ·subst e; rw [List.getElem?_set_self (List.getElem?_eq_some_iff.1 hx).1, hx]
  ·rw [List.getElem?_set_ne (Ne.symm e)]
 exact ⟨by rw [hs]; exact h.ls, by rw [hs]; exact h.ow, World.grownBy.refl _ _⟩
theorem SlU.upd {α : Type} {E : Rep α} {e : TypeId} {s : Nat} {w w' : World} {L : List α} {g c n k : Nat} {xs : List (List Value)} {bss : List (List Nat)} {a' : α} {x' : List Value} {b' : List Nat} (h : SlU E e s w L g c n xs bss) (hk : k < n)
  (ow : w'.ownsRow 0 e s (.slice (some ⟨g, 0, none⟩) n c) n (xs.set k x').flatten) (ls : ∀ y ∈ xs.set k x', y.length = s) (hR : E.R w' a' x' b')
  (hn : ∀ (j : Nat) (d : List Nat), j ≠ k → bss[j]? = some d → ∀ b ∈ d, w'.heap[b]? = w.heap[b]?) : SlU E e s w' (L.set k a') g c n (xs.set k x') (bss.set k b') :=
 ⟨rowsR_upd h.rr k (by rw [← h.hn]; exact hk) hR hn, ls, ow, by rw [List.length_set]; exact h.hn⟩
theorem SlU.nodup {α : Type} {E : Rep α} {e : TypeId} {s : Nat} {B : Nat} {w : World} {L : List α} {g c n : Nat} {xs : List (List Value)} {bss : List (List Nat)} (_ : SlU E e s w L g c n xs bss) {v : Value} (ho : (repSl E e s).Own B w L [v] (g :: bss.flatten)) : g ∉ bss.flatten ∧ bss.flatten.Nodup ∧ B ≤ g ∧ ∀ b ∈ bss.flatten, B ≤ b :=
 ⟨(List.nodup_cons.1 ho.nd).1, (List.nodup_cons.1 ho.nd).2, ho.lo g (by simp), fun b hb => ho.lo b (by simp [hb])⟩
theorem SlU.own {α : Type} {E : Rep α} {e : TypeId} {s : Nat} {B : Nat} {w : World} {L : List α} {g c n : Nat} {xs : List (List Value)} {bss : List (List Nat)} (h : SlU E e s w L g c n xs bss) (h1 : g ∉ bss.flatten) (h2 : bss.flatten.Nodup) (h3 : B ≤ g) (h4 : ∀ b ∈ bss.flatten, B ≤ b) : (repSl E e s).Own B w L [.slice (some ⟨g, 0, none⟩) n c] (g :: bss.flatten) :=
 ⟨h.rep, List.nodup_cons.2 ⟨h1, h2⟩, fun b hb => by rcases List.mem_cons.1 hb with rfl | hb; exact h3; exact h4 b hb⟩
theorem flat_mem {bss : List (List Nat)} {k : Nat} {d : List Nat} (h : bss[k]? = some d) {b : Nat} (hb : b ∈ d) : b ∈ bss.flatten := List.mem_flatten.2 ⟨d, List.mem_of_getElem? h, hb⟩
theorem set_same {bss : List (List Nat)} {k : Nat} {d : List Nat} (h : bss[k]? = some d) : bss.set k d = bss := by
 apply List.ext_getElem?
 intro j
 by_cases e : j = k
 ·subst e; rw [List.getElem?_set_self (List.getElem?_eq_some_iff.1 h).1, h]
 ·rw [List.getElem?_set_ne (Ne.symm e)]
end Go.Proofs.YtnndifemkichmaaGreat
namespace Go.Proofs.YtnndifemkichmaaGreat
open Go.RowKit
theorem plc_eq (k W : Nat) : k / W * W + k % W = k := by rw [Nat.mul_comm]; exact Nat.div_add_mod k W
theorem plc_lt {W H x y : Nat} (hx : x < W) (hy : y < H) : y * W + x < W * H := by
 have h1 : (y + 1) * W ≤ H * W := Nat.mul_le_mul_right _ hy
 rw [Nat.add_mul, Nat.one_mul, Nat.mul_comm H W] at h1
 omega
theorem plc_row {W H k : Nat} (h : k < W * H) : k / W < H := Nat.div_lt_of_lt_mul h
theorem im_nat {X Y : Int} {L : List Int} (h : imOk X Y L) : ∃ W H : Nat, X = W ∧ Y = H ∧ 1 ≤ W ∧ W ≤ 16 ∧ 1 ≤ H ∧ H ≤ 16 ∧ L.length = W * H := by
 obtain ⟨⟨s1, s2, s3, s4⟩, hl, _⟩ := h
 obtain ⟨W, rfl⟩ := Int.eq_ofNat_of_zero_le (show 0 ≤ X by omega)
 obtain ⟨H, rfl⟩ := Int.eq_ofNat_of_zero_le (show 0 ≤ Y by omega)
 exact ⟨W, H, rfl, rfl, by omega, by omega, by omega, by omega, by exact_mod_cast hl⟩
end Go.Proofs.YtnndifemkichmaaGreat
namespace Go.Proofs.YtnndifemkichmaaGreat
open Go.RowKit
theorem sizeRc : (Tryz.prog.info? 131).map (·.size) = some 4 := by kernel_rfl
theorem wp_store_rc {op : Oper} {a : Act} {w : World} {K : Act → World → Prop} {Q : Exit → Act → World → Prop} (x y : Operand) (ho : op.op = .store 131 x y)
  (b : Nat) (r0 r : Rc) (hx : a.eval x = .pointer (some ⟨b, 0, none⟩)) (hy : a.eval y = .agg #[.int .i64 r.x, .int .i64 r.y, .int .i64 r.w, .int .i64 r.h]) (hI : RcAt w b r0)
  (h : ∀ W', RcAt W' b r → w.grownBy W' (some b) → K (a.put op.dst undef) W') : op.wp Tryz.prog a w K Q := by
 have hs : (storeVar 131 ⟨b, 0, none⟩ (.agg #[.int .i64 r.x, .int .i64 r.y, .int .i64 r.w, .int .i64 r.h])).run Tryz.prog w = .ok () (w.setRow b #[.int .i64 r.x, .int .i64 r.y, .int .i64 r.w, .int .i64 r.h]) :=
  run_storeVar_row w b _ _ #[.int .i64 r0.x, .int .i64 r0.y, .int .i64 r0.w, .int .i64 r0.h] #[.int .i64 r.x, .int .i64 r.y, .int .i64 r.w, .int .i64 r.h] hI sizeRc rfl (by simp [Value.oneCell'])
 have h1 := h (w.setRow b #[.int .i64 r.x, .int .i64 r.y, .int .i64 r.w, .int .i64 r.h]) (setRow_heap w b _ _ _ _ hI) ⟨rfl, rfl, rfl, by simp [World.setRow], fun k _ hk => setRow_other w b k _ (fun e => hk (by rw [e]))⟩
 unfold Oper.wp execOp
 simp only [ho, hx, hy, Instr.storeAt, Instr.sureAddr, Sem.run_bind, Sem.run_pure, Result.andThen_ok, hs]
 exact h1
theorem RcAt.grownI {w w' : World} {g : Nat} {row : Option Nat} {r : Rc} (h : RcAt w g r) (hb : w.grownBy w' row) (hg : some g ≠ row) : RcAt w' g r := (hb.block g h.lt hg).trans h
end Go.Proofs.YtnndifemkichmaaGreat
namespace Go.Proofs.YtnndifemkichmaaGreat
open Go.RowKit
theorem run_build1 (r : Rc) (w : World) : (Instr.buildSlice 53 1 #[(0, .agg #[.int .i64 r.x, .int .i64 r.y, .int .i64 r.w, .int .i64 r.h])]).run Tryz.prog w = .ok (.slice (some ⟨w.heap.size, 0, none⟩) 1 1) (w.alloc (.cells #[.int .i64 r.x, .int .i64 r.y, .int .i64 r.w, .int .i64 r.h] 131)) := by
 kernel_rfl
theorem RdR.one {W : World} {g : Nat} {r : Rc} (h : RcAt W g r) : RdR W (.slice (some ⟨g, 0, none⟩) 1 1) [r] := by
 obtain ⟨h0, h1, h2, h3⟩ := h.cells
 refine ⟨by simp [maxLen], _, 1, rfl, fun _ => ⟨g, rfl, fun k s hs => ?_⟩⟩
 cases k with
 | zero => injection hs with hs; subst hs; exact ⟨h0, h1, h2, h3⟩
 | succ k => simp at hs
end Go.Proofs.YtnndifemkichmaaGreat
namespace Go.Proofs.YtnndifemkichmaaGreat
open Go.RowKit
def orWn (W H : Nat) (o : Int) : Nat := if o % 2 = 1 then H else W
def orHn (W H : Nat) (o : Int) : Nat := if o % 2 = 1 then W else H
theorem orW_nat (W H : Nat) (o : Int) : orW W H o = (orWn W H o : Int) := by unfold orW orWn; split <;> rfl
theorem orH_nat (W H : Nat) (o : Int) : orH W H o = (orHn W H o : Int) := by unfold orH orHn; split <;> rfl
theorem or_area (W H : Nat) (o : Int) : orWn W H o * orHn W H o = W * H := by
 unfold orWn orHn; split
 ·rw [Nat.mul_comm]
 ·rfl
theorem or_small {W H : Nat} (o : Int) (h : 1 ≤ W ∧ W ≤ 16 ∧ 1 ≤ H ∧ H ≤ 16) : 1 ≤ orWn W H o ∧ orWn W H o ≤ 16 ∧ 1 ≤ orHn W H o ∧ orHn W H o ≤ 16 := by
 unfold orWn orHn; split <;> omega
theorem orW_undo {o : Int} (h : orOk o) (W H : Nat) : orWn (orWn W H o) (orHn W H o) (undoO o) = W ∧ orHn (orWn W H o) (orHn W H o) (undoO o) = H := by
 rcases h.cases with rfl | rfl | rfl | rfl | rfl | rfl | rfl | rfl <;> exact ⟨rfl, rfl⟩
def ptN (W H x y : Nat) : Pp := ⟨W, H, x, y⟩
theorem ptN_ok {W H x y : Nat} (h : 1 ≤ W ∧ W ≤ 16 ∧ 1 ≤ H ∧ H ≤ 16) (hx : x < W) (hy : y < H) : (ptN W H x y).ok := by
 unfold ptN Pp.ok; dsimp only; omega
theorem or_pt {W H x y : Nat} {o : Int} (h : 1 ≤ W ∧ W ≤ 16 ∧ 1 ≤ H ∧ H ≤ 16) (ho : orOk o) (hx : x < W) (hy : y < H) :
  ∃ a b : Nat, Pp.ori o (ptN W H x y) = ptN (orWn W H o) (orHn W H o) a b ∧ a < orWn W H o ∧ b < orHn W H o := by
 have hk := Pp.ori_ok o (ptN_ok h hx hy)
 have e1 := ori_w ho (ptN W H x y)
 have e2 := ori_h ho (ptN W H x y)
 rw [show (ptN W H x y).w = (W : Int) from rfl, show (ptN W H x y).h = (H : Int) from rfl, orW_nat] at e1
 rw [show (ptN W H x y).w = (W : Int) from rfl, show (ptN W H x y).h = (H : Int) from rfl, orH_nat] at e2
 rcases hq : Pp.ori o (ptN W H x y) with ⟨w', h', x', y'⟩
 rw [hq] at hk e1 e2
 unfold Pp.ok at hk
 dsimp only at hk e1 e2
 subst e1 e2
 refine ⟨x'.toNat, y'.toNat, ?_, by omega, by omega⟩
 unfold ptN
 rw [show ((x'.toNat : Nat) : Int) = x' by omega, show ((y'.toNat : Nat) : Int) = y' by omega]
def srcN (W H : Nat) (o : Int) (j : Nat) : Nat :=
 (Pp.ori (undoO o) (ptN (orWn W H o) (orHn W H o) (j % orWn W H o) (j / orWn W H o))).y.toNat * W + (Pp.ori (undoO o) (ptN (orWn W H o) (orHn W H o) (j % orWn W H o) (j / orWn W H o))).x.toNat
theorem idx_div {W x y : Nat} (hx : x < W) : (y * W + x) / W = y ∧ (y * W + x) % W = x := by
 constructor
 ·rw [Nat.add_comm, Nat.add_mul_div_right _ _ (by omega), Nat.div_eq_of_lt hx]; omega
 ·rw [Nat.add_comm, Nat.add_mul_mod_self_right, Nat.mod_eq_of_lt hx]
theorem src_is {W H j : Nat} {o : Int} (h : 1 ≤ W ∧ W ≤ 16 ∧ 1 ≤ H ∧ H ≤ 16) (ho : orOk o) (hj : j < W * H) :
  ∃ c d : Nat, Pp.ori (undoO o) (ptN (orWn W H o) (orHn W H o) (j % orWn W H o) (j / orWn W H o)) = ptN W H c d ∧ c < W ∧ d < H ∧ srcN W H o j = d * W + c := by
 have hs := or_small o h
 rw [← or_area W H o] at hj
 obtain ⟨c, d, e, hc, hd⟩ := or_pt (x := j % orWn W H o) (y := j / orWn W H o) hs (undoO_ok ho) (Nat.mod_lt _ (by omega)) (plc_row hj)
 rw [(orW_undo ho W H).1] at e hc
 rw [(orW_undo ho W H).2] at e hd
 refine ⟨c, d, e, hc, hd, ?_⟩
 unfold srcN; rw [e]; simp [ptN]
theorem src_lt {W H j : Nat} {o : Int} (h : 1 ≤ W ∧ W ≤ 16 ∧ 1 ≤ H ∧ H ≤ 16) (ho : orOk o) (hj : j < W * H) : srcN W H o j < W * H := by
 obtain ⟨c, d, e, hc, hd, hs⟩ := src_is h ho hj
 rw [hs]; exact plc_lt hc hd
def orL (W H : Nat) (L : List Int) (o : Int) : List Int := tabI (W * H) (fun j => L.getD (srcN W H o j) 0)
open Classical in
noncomputable def orIm (X Y : Int) (L : List Int) (o : Int) : Im := if imOk X Y L ∧ orOk o then ⟨orW X Y o, orH X Y o, orL X.toNat Y.toNat L o⟩ else zeroIm
theorem orIm_yes {W H : Nat} {L : List Int} {o : Int} (h1 : imOk W H L) (h2 : orOk o) : orIm W H L o = ⟨orWn W H o, orHn W H o, orL W H L o⟩ := by
 unfold orIm; rw [if_pos ⟨h1, h2⟩, orW_nat, orH_nat, Int.toNat_natCast, Int.toNat_natCast]
theorem orL_length (W H : Nat) (L : List Int) (o : Int) : (orL W H L o).length = W * H := tabI_length _ _
theorem orL_ok {W H : Nat} {L : List Int} {o : Int} (h : imOk W H L) (ho : orOk o) : imOk (orWn W H o) (orHn W H o) (orL W H L o) := by
 have h2 := h
 obtain ⟨W', H', e1, e2, wl, wh, hl, hh, hL⟩ := im_nat h2
 obtain rfl : W = W' := by exact_mod_cast e1
 obtain rfl : H = H' := by exact_mod_cast e2
 have hs := or_small o ⟨wl, wh, hl, hh⟩
 refine ⟨by unfold szOk; omega, ?_, fun k x hx => ?_⟩
 ·rw [orL_length, ← or_area W H o]; push_cast; rfl
 ·have hk : k < W * H := by have := (List.getElem?_eq_some_iff.1 hx).1; rwa [orL_length] at this
  unfold orL at hx
  rw [tabI_get _ _ k hk] at hx
  injection hx with hx
  have hs2 := src_lt (o := o) ⟨wl, wh, hl, hh⟩ ho hk
  rw [← hx, List.getD_eq_getElem?_getD, List.getElem?_eq_getElem (by omega)]
  exact h.2.2 _ _ (List.getElem?_eq_getElem (by omega))
end Go.Proofs.YtnndifemkichmaaGreat
namespace Go.Proofs.YtnndifemkichmaaGreat
open Go.RowKit
def rsF (S : Nat → Nat → Nat → Nat) (W H w h : Nat) (L : List Int) : Nat → Int := fun j => L.getD (S H h (j / w) * W + S W w (j % w)) 0
open Classical in
noncomputable def rsIm (S : Nat → Nat → Nat → Nat) (X Y : Int) (L : List Int) (w h : Int) : Im := if imOk X Y L ∧ szOk w h then ⟨w, h, tabI (w.toNat * h.toNat) (rsF S X.toNat Y.toNat w.toNat h.toNat L)⟩ else zeroIm
theorem rs_yes (S : Nat → Nat → Nat → Nat) {W H w h : Nat} {L : List Int} (h1 : imOk W H L) (h2 : szOk w h) : rsIm S W H L w h = ⟨w, h, tabI (w * h) (rsF S W H w h L)⟩ := by
 unfold rsIm; rw [if_pos ⟨h1, h2⟩, Int.toNat_natCast, Int.toNat_natCast, Int.toNat_natCast, Int.toNat_natCast]
theorem sz_nat {P Q : Int} (h : szOk P Q) : ∃ p q : Nat, P = p ∧ Q = q ∧ 1 ≤ p ∧ p ≤ 16 ∧ 1 ≤ q ∧ q ≤ 16 := by
 unfold szOk at h
 exact ⟨P.toNat, Q.toNat, by omega, by omega, by omega, by omega, by omega, by omega⟩
theorem rsF_at (S : Nat → Nat → Nat → Nat) (W H w h : Nat) (L : List Int) {x : Nat} (y : Nat) (hx : x < w) : rsF S W H w h L (y * w + x) = L.getD (S H h y * W + S W w x) 0 := by
 unfold rsF; rw [(idx_div hx).1, (idx_div hx).2]
def PlOk (S : Nat → Nat → Nat → Nat) : Prop := ∀ f t k : Nat, 1 ≤ f → k < t → S f t k < f
theorem scl_ok : PlOk sclN := fun _ _ _ h1 h2 => sclN_lt h1 h2
theorem rs_src {S : Nat → Nat → Nat → Nat} (hS : PlOk S) {W H w h x y : Nat} {L : List Int} (hL : L.length = W * H) (hW : 1 ≤ W) (hH : 1 ≤ H) (hx : x < w) (hy : y < h) :
  ∃ a b z, S W w x = a ∧ S H h y = b ∧ a < W ∧ b < H ∧ b * W + a < L.length ∧ L[b * W + a]? = some z ∧ rsF S W H w h L (y * w + x) = z := by
 have ha := hS W w x hW hx
 have hb := hS H h y hH hy
 have hk : S H h y * W + S W w x < L.length := by rw [hL]; exact plc_lt ha hb
 refine ⟨_, _, _, rfl, rfl, ha, hb, hk, List.getElem?_eq_getElem hk, ?_⟩
 rw [rsF_at S W H w h L y hx, List.getD_eq_getElem?_getD, List.getElem?_eq_getElem hk]; rfl
theorem RdI.cell {w : World} {g n c k : Nat} {L : List Int} {x : Int} (h : RdI w (.slice (some ⟨g, 0, none⟩) n c) L) (hx : L[k]? = some x) : w.cell? ⟨g, k, none⟩ = some (.int .i64 x) := by
 have hk : k < L.length := (List.getElem?_eq_some_iff.1 hx).1
 rcases h with ⟨_, rfl⟩ | ⟨g', c', he, hm, hlc, hc⟩
 ·simp at hk
 ·injection he with e1 e2 e3
  injection e1 with e1
  injection e1 with e1
  subst e1
  exact hc k x hx
theorem RdI.one {w : World} {g : Nat} {t : TypeId} {z : Int} (h : w.heap[g]? = some (.cells #[.int .i64 z] t (0, 0))) : RdI w (.slice (some ⟨g, 0, none⟩) 1 1) [z] := by
 refine .inr ⟨g, 1, rfl, by unfold maxLen; simp, by simp, fun k x hx => ?_⟩
 cases k with
 | zero => injection hx with hx; subst hx; simp [World.cell?, h]
 | succ k => simp at hx
end Go.Proofs.YtnndifemkichmaaGreat
namespace Go.Proofs.YtnndifemkichmaaGreat
open Go.RowKit
theorem eqIS_own (v u : Value) (L : List Int) (w : World) (hv : RdI w v L) (hu : RdI w u L) :
  Calls Tryz.prog 52 #[v, u] w fun e w' => e = .returned (.bool true) ∧ Below w.heap.size w w' :=
 (eqIS_same v u L w hv.rd hu.rd).mono fun e w' h => ⟨h.1, by obtain ⟨k, rfl⟩ := h.2; exact below_drewN (Below.refl _ _) k⟩
end Go.Proofs.YtnndifemkichmaaGreat
namespace Go.Proofs.YtnndifemkichmaaGreat
open Go.RowKit
theorem sclN_self {f k : Nat} (h : 1 ≤ f) : sclN f f k = k := by unfold sclN; exact Nat.mul_div_cancel _ h
theorem rs_self {S : Nat → Nat → Nat → Nat} (hS : ∀ f k, k < f → S f f k = k) {W H : Nat} {L : List Int} (h : imOk W H L) : rsIm S W H L W H = ⟨W, H, L⟩ := by
 obtain ⟨W2, H2, e1, e2, wl, wh, hl, hh, hL⟩ := im_nat h
 obtain rfl : W = W2 := by exact_mod_cast e1
 obtain rfl : H = H2 := by exact_mod_cast e2
 rw [rs_yes S h h.1]
 congr 1
 symm
 refine tabI_ext hL fun j x hx => ?_
 have hj : j < W * H := by have := (List.getElem?_eq_some_iff.1 hx).1; omega
 unfold rsF
 rw [hS H _ (plc_row hj), hS W _ (Nat.mod_lt _ wl), plc_eq, List.getD_eq_getElem?_getD, hx]; rfl
theorem rs_valid {S : Nat → Nat → Nat → Nat} (hS : PlOk S) {W H w h : Nat} {L : List Int} (h1 : imOk W H L) (h2 : szOk w h) : imOk w h (tabI (w * h) (rsF S W H w h L)) := by
 obtain ⟨W2, H2, e1, e2, wl, wh, hl, hh, hL⟩ := im_nat h1
 obtain rfl : W = W2 := by exact_mod_cast e1
 obtain rfl : H = H2 := by exact_mod_cast e2
 refine ⟨h2, by rw [tabI_length]; push_cast; rfl, fun k x hx => ?_⟩
 have hk : k < w * h := by have := (List.getElem?_eq_some_iff.1 hx).1; rwa [tabI_length] at this
 rw [tabI_get _ _ k hk] at hx
 injection hx with hx
 have hw : 0 < w := by unfold szOk at h2; omega
 obtain ⟨a, b, z, _, _, _, _, _, hz, hF⟩ := rs_src hS hL wl hl (Nat.mod_lt k hw) (plc_row hk)
 rw [plc_eq] at hF
 rw [← hx, hF]
 exact h1.2.2 _ _ hz
end Go.Proofs.YtnndifemkichmaaGreat
namespace Go.Proofs.YtnndifemkichmaaGreat
open Go.RowKit
theorem wp_build1o {op : Oper} {a : Act} {w : World} {K : Act → World → Prop} {Q : Exit → Act → World → Prop} (d : Nat) (x : Operand) (r : Rc) (ho : op.op = .buildSlice 53 1 #[(0, x)]) (hx : a.eval x = .agg #[.int .i64 r.x, .int .i64 r.y, .int .i64 r.w, .int .i64 r.h]) (hd : op.dst = some d)
  (h : ∀ g W', Below w.heap.size w W' → W'.ownsRow w.heap.size 131 4 (.slice (some ⟨g, 0, none⟩) 1 1) 1 (rcsCells [r]) → K (a.put (some d) (.slice (some ⟨g, 0, none⟩) 1 1)) W') : op.wp Tryz.prog a w K Q := by
 have h1 := h w.heap.size (w.alloc (.cells #[.int .i64 r.x, .int .i64 r.y, .int .i64 r.w, .int .i64 r.h] 131)) (belI_box _ _) ⟨rfl, .inr ⟨w.heap.size, 1, _, rfl, Nat.le_refl _, heap_alloc_new w _, Nat.le_refl _, by unfold maxLen; omega, rfl, rfl⟩⟩
 have hz := run_build1 r w
 unfold Oper.wp execOp
 simp only [ho, List.map_toArray, List.map_cons, List.map_nil, hx, Sem.run_bind, hz, Result.andThen_ok, Sem.run_pure]
 rw [← hd] at h1
 exact h1
end Go.Proofs.YtnndifemkichmaaGreat
