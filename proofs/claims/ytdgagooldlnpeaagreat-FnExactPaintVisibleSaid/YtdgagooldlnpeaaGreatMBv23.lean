/- Texts of mine in one file: CpyB, SnM, SlU. No statement is proved here. -/
import Derived.Test.YtdgagooldlnpeaaGreatMA
import Derived.Test.YtdgagooldlnpeaaGreatMAv023
import Derived.Test.YtdgagooldlnpeaaGreatMAv23
import Derived.Test.YtdgagooldlnpeaaGreatMC
import Derived.Test.YtdgagooldlnpeaaGreatMB
import Derived.Test.YtdgagooldlnpeaaGreatProg
import Derived.WalkKit
import Derived.ProofKit
import Derived.OpenShut
import Derived.WalkLawsBesides
import Derived.WalkSpells
import Derived.ShutString
import Derived.ChangeOld
import Derived.Below
import Derived.Lib.Hide
import Derived.BigQuiet
import Derived.Deep.QuietTactic
import Derived.Maps.AppendAt
import Derived.Deep.OwnRows
import Derived.Handy
import Derived.Deep.Draws
import Derived.OwnWalk
import Derived.Deep.AppendLies
import Derived.Deep.LoopGhost
import Derived.Deep.Onto
import Derived.Laws.BitsAllLaws
import Derived.Lib.QuoteBits
import Derived.Test.YtdgagooldlnpeaaGreatShelf
import Derived.Laws.CopyOwn
import Derived.Deep.RegionLaw
import Derived.Deep.RegionHeld3
import Derived.Deep.DeepCutAuto
import Derived.Great.BuildSlice
import Derived.Deep.MidRow
import Derived.Deep.WholeRow
import Derived.Laws.AppendOwn
namespace Go.Proofs.YtdgagooldlnpeaaGreat
open Go.RowKit
theorem zeroRc (w : World) : (zeroValue 113).run Tryz.prog w = .ok (.agg #[.int .i64 0, .int .i64 0, .int .i64 0, .int .i64 0]) w := by kernel_rfl
theorem wp_alloc_rc {op : Oper} {a : Act} {w : World} {K : Act → World → Prop} {Q : Exit → Act → World → Prop} (d : Nat) (ho : op.op = .alloc 113) (hd : op.dst = some d)
  (h : ∀ b W', Below w.heap.size w W' → RcAt W' b ⟨0, 0, 0, 0⟩ → w.heap.size ≤ b → K (a.put (some d) (.pointer (some ⟨b, 0, none⟩))) W') : op.wp Tryz.prog a w K Q := by
 have h1 := h w.heap.size (w.alloc (.cells #[.int .i64 0, .int .i64 0, .int .i64 0, .int .i64 0] 113)) (belI_box _ _) (RcAt.new w ⟨0, 0, 0, 0⟩) (Nat.le_refl _)
 have hz := zeroRc w
 unfold Oper.wp execOp
 simp only [ho, Instr.alloc, Sem.run_bind, hz, Result.andThen_ok, Sem.run_pure]
 rw [← hd] at h1
 exact h1
end Go.Proofs.YtdgagooldlnpeaaGreat
namespace Go.Proofs.YtdgagooldlnpeaaGreat
open Go.RowKit
def repSn : Rep Sn where
 R := fun w s vs bs => ∃ v, vs = snCells s v ∧ repSfs.R w s.fs [v] bs
 ex := by rintro w f vs bs ⟨d, rfl, h⟩; exact repSfs.ex h
 keep := by rintro w w' f vs bs ⟨d, rfl, h⟩ hk; exact ⟨d, rfl, repSfs.keep h hk⟩
theorem r_sn {w : World} {s : Sn} {v : Value} {bs : List Nat} (h : repSn.R w s [.int .i64 s.w, .int .i64 s.h, .int .i64 s.back, v] bs) : repSfs.R w s.fs [v] bs := by
 obtain ⟨v', e, h⟩ := h
 have e2 : v = v' := by simpa [snCells] using e
 subst e2
 exact h
theorem own_sn {B : Nat} {w : World} {s : Sn} {v : Value} {bs : List Nat} (h : repSn.Own B w s [.int .i64 s.w, .int .i64 s.h, .int .i64 s.back, v] bs) : repSfs.Own B w s.fs [v] bs := ⟨r_sn h.r, h.nd, h.lo⟩
theorem own_sn' {B : Nat} {w : World} {s : Sn} {v : Value} {bs : List Nat} (h : repSfs.Own B w s.fs [v] bs) : repSn.Own B w s [.int .i64 s.w, .int .i64 s.h, .int .i64 s.back, v] bs := ⟨⟨v, rfl, h.r⟩, h.nd, h.lo⟩
theorem form_sn {w : World} {s : Sn} {v : Value} {bs : List Nat} (h : repSn.R w s [.int .i64 s.w, .int .i64 s.h, .int .i64 s.back, v] bs) : ∃ A c, v = .slice A s.fs.length c := (repSfs_form (r_sn h)).1
theorem wr_sn {w : World} {s : Sn} {v : Value} (h : wkSn.R w s [.int .i64 s.w, .int .i64 s.h, .int .i64 s.back, v]) : wkSfs.R w s.fs [v] := by
 obtain ⟨v', e, h⟩ := h
 have e2 : v = v' := by simpa [snCells] using e
 subst e2
 exact h
theorem wkSl_form {α : Type} {F : Wk α} {s : Nat} {w : World} {L : List α} {v : Value} (h : (wkSl F s).R w L [v]) : (∃ A c, v = .slice A L.length c) ∧ L.length ≤ maxLen := by
 obtain ⟨hm, A, c, e, _⟩ := h
 obtain rfl : v = .slice A L.length c := by simpa using e
 exact ⟨⟨_, _, rfl⟩, hm⟩
theorem wform_sn {w : World} {s : Sn} {v : Value} (h : wkSn.R w s [.int .i64 s.w, .int .i64 s.h, .int .i64 s.back, v]) : ∃ A c, v = .slice A s.fs.length c := (wkSl_form (wr_sn h)).1
def mkSfK (k : Nat) (f : Sf) : Sf := ⟨k, (k + 1 : Nat), (k + 2 : Nat), (k + 3 : Nat), (k + 4 : Nat), (k + 5 : Nat), (k + 6 : Nat), ((k + 7 : Nat) : Int) % 3 == 0, (k + 8 : Nat), (k + 9 : Nat), marksI (k + 10) f.data.length⟩
def mkFs (k : Nat) : List Sf → List Sf
 | [] => []
 | f :: L => mkSfK k f :: mkFs (k + 10 + f.data.length) L
def mkSn (k : Nat) (s : Sn) : Sn := { s with fs := mkFs k s.fs }
theorem mkFs_length (k : Nat) (L : List Sf) : (mkFs k L).length = L.length := by
 induction L generalizing k with
 | nil => rfl
 | cons f L ih => simp [mkFs, ih]
theorem cntFs_take {L : List Sf} {k : Nat} {f : Sf} (h : L[k]? = some f) : cntFs (L.take (k + 1)) = cntFs (L.take k) + 10 + f.data.length := by
 have hk : k < L.length := (List.getElem?_eq_some_iff.1 h).1
 unfold cntFs lenFs
 rw [List.take_add_one, h, Option.toList_some, List.map_append, List.sum_append, List.length_append]
 simp
 omega
theorem cntFs_le (L : List Sf) (k : Nat) : cntFs (L.take k) ≤ cntFs L := by
 have := lenFs_le L k; unfold cntFs; rw [List.length_take]; omega
theorem mkFs_get {L : List Sf} {k : Nat} {f : Sf} (k0 : Nat) (h : L[k]? = some f) : (mkFs k0 L)[k]? = some (mkSfK (k0 + cntFs (L.take k)) f) := by
  induction L generalizing k k0 with
  | nil => simp at h
  | cons g L ih =>
    cases k with
    | zero =>
      obtain rfl : g = f := by simpa using h
      simp [mkFs, cntFs, lenFs]
    | succ k =>
      have h1 := ih (k0 + 10 + g.data.length) (by simpa using h)
      simp only [mkFs, List.getElem?_cons_succ]
      rw [h1]
      congr 2
      simp [cntFs, lenFs]
      omega
theorem cnt_le_siz (L : List Sf) : cntFs L ≤ 10 * sizFs L := by unfold cntFs sizFs; omega
def mixG {α : Type} (M L : List α) (k : Nat) : List α := M.take k ++ L.drop k
section
variable {α : Type} {M L : List α} {k : Nat}
theorem mix_zero (M L : List α) : mixG M L 0 = L := by simp [mixG]
theorem mix_all (h : M.length = L.length) : mixG M L L.length = M := by
 unfold mixG; rw [List.drop_length, List.append_nil, List.take_of_length_le (by omega)]
theorem mix_len (h : M.length = L.length) (k : Nat) : (mixG M L k).length = L.length := by
 unfold mixG; rw [List.length_append, List.length_take, List.length_drop]; omega
theorem mix_get (h : M.length = L.length) {f : α} (hf : L[k]? = some f) : (mixG M L k)[k]? = some f := by
 have hk : k < L.length := (List.getElem?_eq_some_iff.1 hf).1
 unfold mixG
 rw [List.getElem?_append_right (by rw [List.length_take]; omega), List.length_take, show k - min k M.length = 0 by omega, List.getElem?_drop, Nat.add_zero, hf]
theorem mix_set (h : M.length = L.length) {g : α} (hg : M[k]? = some g) : (mixG M L k).set k g = mixG M L (k + 1) := by
 have hk : k < M.length := (List.getElem?_eq_some_iff.1 hg).1
 apply List.ext_getElem?
 intro j
 by_cases e : j = k
 ·subst e
  rw [List.getElem?_set_self (by rw [mix_len h]; omega)]
  unfold mixG
  rw [List.getElem?_append_left (by rw [List.length_take]; omega), List.getElem?_take_of_lt (by omega), hg]
 ·rw [List.getElem?_set_ne (Ne.symm e)]
  unfold mixG
  by_cases hj : j < k
  ·rw [List.getElem?_append_left (by rw [List.length_take]; omega), List.getElem?_append_left (by rw [List.length_take]; omega), List.getElem?_take_of_lt hj, List.getElem?_take_of_lt (by omega)]
  ·rw [List.getElem?_append_right (by rw [List.length_take]; omega), List.getElem?_append_right (by rw [List.length_take]; omega), List.length_take, List.length_take, List.getElem?_drop, List.getElem?_drop]
   congr 1
   omega
end
end Go.Proofs.YtdgagooldlnpeaaGreat
namespace Go.Proofs.YtdgagooldlnpeaaGreat
open Go.RowKit
section
variable {α : Type} {E : Rep α} {e : TypeId} {s : Nat} {w w' : World} {L : List α} {g c n : Nat} {xs : List (List Value)} {bss : List (List Nat)}
end
theorem SlU.nodup {α : Type} {E : Rep α} {e : TypeId} {s : Nat} {B : Nat} {w : World} {L : List α} {g c n : Nat} {xs : List (List Value)} {bss : List (List Nat)} (_ : SlU E e s w L g c n xs bss) {v : Value} (ho : (repSl E e s).Own B w L [v] (g :: bss.flatten)) : g ∉ bss.flatten ∧ bss.flatten.Nodup ∧ B ≤ g ∧ ∀ b ∈ bss.flatten, B ≤ b :=
 ⟨(List.nodup_cons.1 ho.nd).1, (List.nodup_cons.1 ho.nd).2, ho.lo g (by simp), fun b hb => ho.lo b (by simp [hb])⟩
end Go.Proofs.YtdgagooldlnpeaaGreat
