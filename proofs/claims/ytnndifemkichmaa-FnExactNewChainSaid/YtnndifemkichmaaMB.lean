/- Texts of mine in one file: ImC, ImN, SnM, RgK, SlU, ImD, LawS, ImE, CpyB, CrpB, SclB. No statement is proved here. -/
import Derived.Test.YtnndifemkichmaaMA
import Derived.Test.YtnndifemkichmaaProg
import Derived.WalkKit
import Derived.ProofKit
import Derived.OpenShut
import Derived.WalkLawsBesides
import Derived.WalkSpells
import Derived.ShutString
import Derived.ChangeOld
import Derived.Below
import Derived.Lib.Hide
import Derived.BigQuiet
import Derived.Deep.QuietTactic
import Derived.Maps.AppendAt
import Derived.Deep.OwnRows
import Derived.Handy
import Derived.Deep.Draws
import Derived.OwnWalk
import Derived.Deep.AppendLies
import Derived.Deep.LoopGhost
import Derived.Deep.Onto
import Derived.Test.YtnndifemkichmaaShelf
import Derived.Laws.CopyOwn
import Derived.Deep.RegionLaw
import Derived.Deep.RegionHeld3
import Derived.Deep.DeepCutAuto
import Derived.Great.BuildSlice
import Derived.Laws.BitsAllLaws
import Derived.Lib.QuoteBits
import Derived.Deep.MidRow
import Derived.Deep.WholeRow
import Derived.Laws.AppendOwn
namespace Go.Proofs.Ytnndifemkichmaa
open Go.RowKit
theorem splice_get {α : Type} (L C : List α) (off k : Nat) (h : off + C.length ≤ L.length) : (splice L off C)[k]? = if off ≤ k ∧ k < off + C.length then C[k - off]? else L[k]? := by
 unfold splice
 by_cases h1 : k < off
 ·rw [if_neg (by omega), List.getElem?_append_left (by rw [List.length_take]; omega), List.getElem?_take_of_lt h1]
 ·have ht : (L.take off).length = off := by rw [List.length_take]; omega
  rw [List.getElem?_append_right (by omega), ht]
  by_cases h2 : k < off + C.length
  ·rw [if_pos ⟨by omega, h2⟩, List.getElem?_append_left (by omega)]
  ·rw [if_neg (by omega), List.getElem?_append_right (by omega), List.getElem?_drop]
   congr 1
   omega
theorem splice_tabI (n : Nat) (f : Nat → Int) (k m : Nat) (h : Nat → Int) (hk : k + m ≤ n) :
  splice (intCells (tabI n f)) k (intCells (tabI m h)) = intCells (tabI n (fun j => if k ≤ j ∧ j < k + m then h (j - k) else f j)) := by
 apply List.ext_getElem?
 intro j
 rw [splice_get _ _ _ _ (by rw [intCells_length, intCells_length, tabI_length, tabI_length]; exact hk), intCells_length, tabI_length, intCells_get, intCells_get, intCells_get]
 by_cases hj : j < n
 ·rw [tabI_get n f j hj, tabI_get n _ j hj]
  by_cases h1 : k ≤ j ∧ j < k + m
  ·rw [if_pos h1, if_pos h1, tabI_get m h (j - k) (by omega)]
  ·rw [if_neg h1, if_neg h1]
 ·rw [if_neg (by omega), List.getElem?_eq_none (by rw [tabI_length]; omega), List.getElem?_eq_none (by rw [tabI_length]; omega)]
theorem list_take_splice {α : Type} (cur cs : List α) (off n : Nat) (h : off + cs.length ≤ n) (hn : n ≤ cur.length) : (cur.take off ++ cs ++ cur.drop (off + cs.length)).take n = splice (cur.take n) off cs := by
 have e : cur.take off ++ cs ++ cur.drop (off + cs.length) = splice cur off cs := by unfold splice; rw [List.append_assoc]
 rw [e]
 apply List.ext_getElem?
 intro j
 by_cases hj : j < n
 ·rw [List.getElem?_take_of_lt hj, splice_get _ _ _ _ (by omega), splice_get _ _ _ _ (by rw [List.length_take]; omega), List.getElem?_take_of_lt hj]
 ·rw [List.getElem?_eq_none (by rw [List.length_take]; omega), List.getElem?_eq_none (by rw [length_splice _ _ _ (by rw [List.length_take]; omega), List.length_take]; omega)]
theorem run_copy_own {P : Program} (w : World) (dT sT ty elem : TypeId) (base : Nat) (g off n cap dLen dCap : Nat) (ad : Addr) (sLen sCap : Nat) (xs cs : List Value) (m : Nat) (hcm : cs.length = m)
  (hu : P.underlying dT = some (.slice elem)) (hs : (P.info? elem).map (·.size) = some 1)
  (hown : w.ownsRow base elem 1 (.slice (some ⟨g, 0, none⟩) n cap) n xs) (hn : m = Nat.min sLen dLen)
  (hsrc : ∀ j v, cs[j]? = some v → w.cell? (ad.add j) = some v) (hfit : off + m ≤ n) (h1 : ∀ v ∈ cs, v.oneCell' = true) :
  ∃ w', (Builtin.copy_ #[dT, sT] ty #[.slice (some ⟨g, off, none⟩) dLen dCap, .slice (some ad) sLen sCap]).run P w = .ok (goInt m) w' ∧
   w'.ownsRow base elem 1 (.slice (some ⟨g, 0, none⟩) n cap) n (splice xs off cs) ∧ w.grownBy w' (some g) := by
 subst hcm
 obtain ⟨hl, h⟩ := hown
 rcases h with ⟨h, _⟩ | ⟨g', cap', cur, he, hB, hh, hnc, hcm, hcs, ht⟩
 ·cases h
 ·cases he
  refine ⟨_, run_copy_row (P := P) w dT sT ty elem g off dLen dCap ad sLen sCap cur elem cs hu hs hh hn hsrc (by rw [hcs]; omega) h1, ?_, ?_⟩
  ·have hcl : cur.toList.length = cap := by rw [Array.length_toList]; omega
   refine ⟨by rw [length_splice _ _ _ (by rw [hl]; omega)]; exact hl, .inr ⟨g, cap, _, rfl, hB, setRow_heap w g cur _ _ _ hh, hnc, hcm, ?_, ?_⟩⟩
   ·simp; omega
   ·rw [← ht]
    show List.take (n * 1) _ = splice (List.take (n * 1) cur.toList) off cs
    rw [Nat.mul_one]
    exact list_take_splice _ _ _ _ hfit (by omega)
  ·exact ⟨rfl, rfl, rfl, by simp [World.setRow], fun k _ hk => setRow_other w g k _ (fun e => hk (by rw [e]))⟩
theorem step_copy_mine {P : Program} {ops : Array Oper} {o : Oper} {a : Act} {w : World} {K : Act → World → Prop} {Q : Exit → Act → World → Prop} {E : Prop} (hgd : o.guard = none) (d s : Operand) (dT sT : TypeId)
  (ho : o.op = .call { callee := .builtin .copy, args := #[d, s], argTypes := #[dT, sT] }) (elem : TypeId) (hu : P.underlying dT = some (.slice elem)) (hsz : (P.info? elem).map (·.size) = some 1)
  (base g off n cap dLen dCap : Nat) (ad : Addr) (sLen sCap : Nat) (xs cs : List Value) (m : Nat) (hcm : cs.length = m) (hd : a.eval d = .slice (some ⟨g, off, none⟩) dLen dCap) (hs : a.eval s = .slice (some ad) sLen sCap)
  (hown : w.ownsRow base elem 1 (.slice (some ⟨g, 0, none⟩) n cap) n xs) (hn : m = Nat.min sLen dLen)
  (hsrc : ∀ j v, cs[j]? = some v → w.cell? (ad.add j) = some v) (hfit : off + m ≤ n) (h1 : ∀ v ∈ cs, v.oneCell' = true)
  (h : ∀ w', Hid (w'.ownsRow base elem 1 (.slice (some ⟨g, 0, none⟩) n cap) n (splice xs off cs)) → Hid (w.grownBy w' (some g)) → K (a.put o.dst (goInt m)) w') :
  if Region.wanted o (yielded ops a.tmps) = true then Oper.wp P o a w K Q else E := by
 have hw : Region.wanted o (yielded ops a.tmps) = true := by simp [Region.wanted, hgd]
 rw [if_pos hw]
 obtain ⟨w', hrun, h2, h3⟩ := run_copy_own (P := P) w dT sT o.type elem base g off n cap dLen dCap ad sLen sCap xs cs m hcm hu hsz hown hn hsrc hfit h1
 unfold Oper.wp
 simp [execOp, ho, resolve, invoke, builtin, hd, hs, hrun, Result.andThen]
 exact h w' h2 h3
theorem wrap_in (x : Int) (h0 : -9223372036854775808 ≤ x) (h1 : x ≤ 9223372036854775807) : IntKind.i64.wrap x = x := by
 simp [IntKind.wrap, IntKind.bits, IntKind.signed]; omega
theorem cell_new1 (w : World) (v : Value) (t : TypeId) : (w.alloc (.cells #[v] t)).cell? ⟨w.heap.size, 0, none⟩ = some v := by
 rw [cell_of_row _ _ _ _ _ _ (heap_alloc_new w _)]; rfl
theorem cell_newAt {w : World} {g : Nat} (h : w.heap.size = g) (v : Value) (t : TypeId) : (w.alloc (.cells #[v] t)).cell? ⟨g, 0, none⟩ = some v := h ▸ cell_new1 w v t
theorem szInt : (Try.prog.info? 3).map (·.size) = some 1 := by kernel_rfl
theorem mul_one' (n : Nat) (h : n ≤ 256) (w : World) :
  Calls Try.prog 111 #[.int .u64 1, .int .u64 n] w fun e w' => e = .returned (.tuple #[.int .u64 0, .int .u64 n]) ∧ w' = w := by
 have h1 := Try.bits_Mul 1 n (by omega) (by omega) w
 rw [Nat.one_mul, Nat.div_eq_of_lt (by omega), Nat.mod_eq_of_lt (by omega)] at h1
 exact h1
def fillF (p : Int) (k : Nat) : Nat → Int := fun j => if j < k then p else 0
theorem fillF_more (p : Int) (n k m : Nat) (hk : k + m ≤ n) : splice (intCells (tabI n (fillF p k))) k (intCells (tabI m (fun _ => p))) = intCells (tabI n (fillF p (k + m))) := by
 rw [splice_tabI n _ k m _ hk]
 congr 1
 refine tabI_congr n fun j _ => ?_
 unfold fillF
 by_cases h1 : k ≤ j ∧ j < k + m
 ·rw [if_pos h1, if_pos h1.2]
 ·rw [if_neg h1]
  by_cases h2 : j < k
  ·rw [if_pos h2, if_pos (by omega)]
  ·rw [if_neg h2, if_neg (by omega)]
theorem fillF_own {w : World} {B g n cap k m : Nat} {p : Int} (h : w.ownsRow B 3 1 (.slice (some ⟨g, 0, none⟩) n cap) n (intCells (tabI n (fillF p k)))) (hm : m ≤ k) (hk : m ≤ n) :
  ∀ j v, (intCells (tabI m (fun _ => p)))[j]? = some v → w.cell? ((⟨g, 0, none⟩ : Addr).add j) = some v := by
 intro j v hv
 rw [intCells_get] at hv
 obtain ⟨x, hx, rfl⟩ := Option.map_eq_some_iff.1 hv
 have hj : j < m := by have := (List.getElem?_eq_some_iff.1 hx).1; rwa [tabI_length] at this
 rw [tabI_get m _ j hj] at hx
 injection hx with hx
 subst hx
 refine h.cells (g := g) rfl j _ ?_
 rw [intCells_get, tabI_get n _ j (by omega)]
 unfold fillF
 rw [if_pos (by omega)]
 rfl
def RepAns (n : Nat) (p : Int) (w : World) (e : Ending) (w' : World) : Prop :=
 ∃ v, e = .returned v ∧ w'.ownsRow w.heap.size 3 1 v n (intCells (tabI n (fun _ => p))) ∧ Below w.heap.size w w'
set_option maxHeartbeats 600000 in
set_option maxRecDepth 10000 in
theorem repI (p : Int) (n : Nat) (h1 : 1 ≤ n) (h2 : n ≤ 256) (g : Nat) (w : World) (hc : w.cell? ⟨g, 0, none⟩ = some (.int .i64 p)) :
  Calls Try.prog 110 #[.slice (some ⟨g, 0, none⟩) 1 1, .int .i64 n] w (RepAns n p w) := by
 have hgl := World.block_lt_of_cell? w _ hc
 have hmk := fun W => run_make_row' (P := Try.prog) 23 3 (.int .i64 0) 8 Try.underlying23 infoInt rfl .i64 .i64 n (by omega) (by omega) W
 have n0 : (1 : Int) ≤ (n : Int) := by omega
 have n1 : (n : Int) ≤ 256 := by omega
 have hx0 : tabI 1 (fun _ => p) = [p] := rfl
 go_enter Try.func110, Try.ntmps110
 go_wp2_with fail
 refine (mul_one' n h2 _).mono ?_
 rintro e w' ⟨rfl, rfl⟩
 go_wp2_with fail
 have hown0 : (w'.alloc (.cells (madeCells #[.int .i64 0] n) 3)).ownsRow w'.heap.size 3 1 (.slice (some ⟨w'.heap.size, 0, none⟩) n n) n (intCells (tabI n (fillF p 0))) :=
  own_of_rowIs (World.rowIs_made _ _ _ _) (Nat.le_refl _) (by unfold maxLen; omega) (tabI_length _ _) (fun j x hx => by
   have hj : j < n := by have := (List.getElem?_eq_some_iff.1 hx).1; rwa [tabI_length] at this
   rw [tabI_get n _ j hj] at hx
   injection hx with hx
   rw [← hx]; rfl)
 obtain ⟨w2, hrun, hown2, hgr2⟩ := run_copy_own (P := Try.prog) _ 23 23 3 3 w'.heap.size w'.heap.size 0 n n n n ⟨g, 0, none⟩ 1 1 _ (intCells (tabI 1 (fun _ => p))) 1 (by rw [intCells_length, tabI_length]) Try.underlying23 szInt hown0
  (by show 1 = min 1 n; omega)
  (by
   intro j v hv
   rw [hx0] at hv
   have hj : j = 0 := by have := (List.getElem?_eq_some_iff.1 hv).1; simp [intCells] at this; exact this
   subst hj
   simp [intCells] at hv
   subst hv
   exact (World.cell?_of_block (Below.heap_alloc w' _ g hgl)).trans hc) (by omega) (intCells_one _)
 rw [fillF_more p n 0 1 (by omega)] at hown2
 have hb2 : Below w'.heap.size w' w2 := ((Below.refl _ _).alloc (Nat.le_refl _) _).grown hgr2 (by simp) (fun k hk => by injection hk with hk; omega)
 have Hown2 := Lib.hid hown2
 simp only [hrun, Result.andThen_ok]
 clear hrun hown0 hown2 hgr2 hmk hx0
 go_wp2_with fail
 go_loopw [8] (fun s wr => ∃ k : Nat, 1 ≤ k ∧ k ≤ n ∧ s = .int .i64 k ∧ Hid (wr.ownsRow w'.heap.size 3 1 (.slice (some ⟨w'.heap.size, 0, none⟩) n n) n (intCells (tabI n (fillF p k)))) ∧ Below w'.heap.size w' wr) (fun s _ => n - (intOf s).toNat)
 case atStart => exact ⟨1, Nat.le_refl _, h1, rfl, Hown2, hb2⟩
 case round =>
  clear hb2 Hown2 hc
  obtain ⟨k, hk1, hk2, rfl, Hown, hb⟩ := hrel
  by_cases hlt : k < n
  ·obtain ⟨m, hm⟩ : ∃ m, m = Nat.min k (n - k) := ⟨_, rfl⟩
   have hm2 : m = min k (n - k) := hm
   have hm3 : 1 ≤ m ∧ m ≤ k ∧ k + m ≤ n := by omega
   obtain ⟨m1, m2, m4⟩ := hm3
   have k0 : (0 : Int) ≤ (k : Int) := by omega
   have k1 : (k : Int) < (n : Int) := by omega
   have Hm := Lib.hid hm
   clear hm hm2
   go_wp2_with fail
   go_region_held3 (fun _ => True) (trivial) ((refine step_copy_mine rfl (.tmp 41) (.tmp 44) 23 23 (by rfl) 3 Try.underlying23 szInt w'.heap.size w'.heap.size k n n (n - k) (n - k) ⟨w'.heap.size, 0, none⟩ k n _ (intCells (tabI m (fun _ => p))) m (by rw [intCells_length, tabI_length]) (by simp [Act.eval]; omega) (by simp [Act.eval]) (by first | exact Hown.out | exact Hown.out.drew) Hm.out (by first | exact fillF_own Hown.out m2 (by omega) | exact fillF_own Hown.out.drew m2 (by omega)) m4 (intCells_one _) ?_; intro w3 hown3 hgr3))
   go_wp2_with fail
   have hb3 : Below w'.heap.size w' w3 := (show Below w'.heap.size w' wr.drew from hb.drew).grown hgr3.out (by have := hb.size; simpa using this) (fun k hk => by injection hk with hk; omega)
   have e : Value.int .i64 (IntKind.i64.wrap ((k : Int) + (m : Int))) = .int .i64 ((k + m : Nat) : Int) := by rw [wrap_in _ (by omega) (by omega)]; simp
   rw [e]
   refine ⟨⟨k + m, by omega, m4, rfl, ?_, hb3⟩, by simp [intOf]; omega⟩
   have h := hown3.out
   rw [fillF_more p n k m m4] at h
   exact h
  ·obtain rfl : k = n := by omega
   go_wp2_with fail
   go_ret
   refine ⟨_, rfl, ?_, hb⟩
   have h := Hown.out
   rw [tabI_congr k (g := fun _ => p) (fun j hj => by unfold fillF; rw [if_pos hj])] at h
   exact h
end Go.Proofs.Ytnndifemkichmaa
namespace Go.Proofs.Ytnndifemkichmaa
open Go.RowKit
structure Im where
 w : Int
 h : Int
 d : List Int
def zeroIm : Im := ⟨0, 0, []⟩
def flatN (W H p : Int) : List Int := tabI (W * H).toNat (fun _ => p)
open Classical in
noncomputable def newIm (W H p : Int) : Im := if szOk W H ∧ pixOk p then ⟨W, H, flatN W H p⟩ else zeroIm
theorem new_yes {W H p : Int} (h1 : szOk W H) (h2 : pixOk p) : newIm W H p = ⟨W, H, flatN W H p⟩ := if_pos ⟨h1, h2⟩
theorem new_no {W H p : Int} (h : ¬ (szOk W H ∧ pixOk p)) : newIm W H p = zeroIm := if_neg h
def AnsIm (I : Im) (w : World) (e : Ending) (w' : World) : Prop := ImAns I.w I.h I.d w e w'
theorem flat_size {W H : Int} (h : szOk W H) (p : Int) : ∃ n : Nat, 1 ≤ n ∧ n ≤ 256 ∧ (n : Int) = W * H ∧ flatN W H p = tabI n (fun _ => p) := by
 have h1 := sz_mul h
 have h2 := sz_pos h
 exact ⟨(W * H).toNat, by omega, by omega, by omega, rfl⟩
theorem zeroIm_ans {w w' : World} (hb : Below w.heap.size w w') : AnsIm zeroIm w (.returned (.agg #[.int .i64 0, .int .i64 0, .slice none 0 0])) w' :=
 ⟨_, rfl, World.ownsRow_nil _ _ _ _, hb⟩
set_option maxHeartbeats 600000 in
set_option maxRecDepth 10000 in
theorem newI (W H p : Int) (w : World) : Calls Try.prog 66 #[.int .i64 W, .int .i64 H, .int .i64 p] w (AnsIm (newIm W H p) w) := by
 have hR := ImAt.new w 58 0 0 (.slice none 0 0)
 have hw := (Below.refl w.heap.size w).alloc (Nat.le_refl _) (.cells #[.int .i64 0, .int .i64 0, .slice none 0 0] 58)
 by_cases hs : szOk W H
 ·by_cases hp : pixOk p
  ·obtain ⟨n, n1, n2, hn, hd⟩ := flat_size hs p
   have HA := Lib.hid (show newIm W H p = ⟨W, H, tabI n (fun _ => p)⟩ by rw [new_yes hs hp, hd])
   have Hs := Lib.hid hs
   have Hp := Lib.hid hp
   have hn' : W * H = (n : Int) := hn.symm
   have HR := Lib.hid hR
   have Hw := Lib.hid hw
   clear hs hp hd hn hR hw
   go_enter Try.func66, Try.ntmps66
   go_wp2_with (first | (go_at_call 90; (with_reducible refine (szI_yes _ _ Hs.out _).mono ?_); rintro e w' ⟨rfl, rfl⟩) | (go_at_call 109; (with_reducible refine (pixI_yes _ Hp.out _).mono ?_); rintro e w' ⟨rfl, rfl⟩))
   have hc : ((w.alloc (.cells #[.int .i64 0, .int .i64 0, .slice none 0 0] 58)).alloc (.cells #[.int .i64 p] 3)).cell? ⟨w.heap.size + 1, 0, none⟩ = some (.int .i64 p) := cell_newAt (by simp) _ _
   refine (repI p n n1 n2 (w.heap.size + 1) _ hc).mono ?_
   rintro e w2 ⟨v, rfl, hown, hb⟩
   have hI := (HR.out.alloc _).call hb
   have hz := hb.size
   obtain ⟨A, c, hv⟩ := ownI_shape hown
   subst hv
   obtain ⟨c0, c1, c2⟩ := hI.cells
   have f0 := hI.frozen 0
   have f1 := hI.frozen 1
   have f2 := hI.frozen 2
   have Hown := Lib.hid hown
   have Hb := Lib.hid (Hw.out.trans ((belI_call ((Below.refl _ _).alloc (Nat.le_refl _) _) hb).mono (by simp)))
   have HI := Lib.hid hI
   simp at hz
   clear hown hb hI hc
   go_wp2_with fail
   have j := HI.out.set3 W H (.slice A n c)
   obtain ⟨x0, x1, x2⟩ := j.cells
   refine bodyPost_ret (v := .agg #[.int .i64 W, .int .i64 H, .slice A n c]) (by simp [results, Try.results66, go_sem, x0, x1, x2]) rfl ?_
   rw [HA.out]
   refine ⟨_, rfl, ?_, ((Hb.out.setCell (by simp) _).setCell (by simp) _).setCell (by simp) _⟩
   have hlt := fun g hg => (Hown.out.lt g hg).1
   have h3 := ownI_far (ownI_far (ownI_far (Hown.out.mono (show w.heap.size ≤ _ by simp; omega)) (p := ⟨w.heap.size, 0, none⟩) (fun g hg => by have := hlt g hg; simp at this ⊢; omega) (.int .i64 W)) (p := ⟨w.heap.size, 1, none⟩) (fun g hg => by have := hlt g hg; simp at this ⊢; omega) (.int .i64 H)) (p := ⟨w.heap.size, 2, none⟩) (fun g hg => by have := hlt g hg; simp at this ⊢; omega) (.slice A n c)
   rw [tabI_length]
   exact h3
  ·have HA := Lib.hid (show newIm W H p = zeroIm from new_no fun h => hp h.2)
   have Hs := Lib.hid hs
   have Hp := Lib.hid hp
   obtain ⟨c0, c1, c2⟩ := hR.cells
   have f0 := hR.frozen 0
   have f1 := hR.frozen 1
   have f2 := hR.frozen 2
   clear hs hp
   go_enter Try.func66, Try.ntmps66
   go_wp2_with (first | (go_at_call 90; (with_reducible refine (szI_yes _ _ Hs.out _).mono ?_); rintro e w' ⟨rfl, rfl⟩) | (go_at_call 109; (with_reducible refine (pixI_no _ Hp.out _).mono ?_); rintro e w' ⟨rfl, rfl⟩))
   refine bodyPost_ret (v := .agg #[.int .i64 0, .int .i64 0, .slice none 0 0]) (by simp [results, Try.results66, go_sem]) rfl ?_
   rw [HA.out]
   exact zeroIm_ans (by repeat (first | exact hw | refine Below.setCell ?_ (by simp) _))
 ·have HA := Lib.hid (show newIm W H p = zeroIm from new_no fun h => hs h.1)
  have Hs := Lib.hid hs
  obtain ⟨c0, c1, c2⟩ := hR.cells
  have f0 := hR.frozen 0
  have f1 := hR.frozen 1
  have f2 := hR.frozen 2
  clear hs
  go_enter Try.func66, Try.ntmps66
  go_wp2_with (first | (go_at_call 90; (with_reducible refine (szI_no _ _ Hs.out _).mono ?_); rintro e w' ⟨rfl, rfl⟩))
  refine bodyPost_ret (v := .agg #[.int .i64 0, .int .i64 0, .slice none 0 0]) (by simp [results, Try.results66, go_sem]) rfl ?_
  rw [HA.out]
  exact zeroIm_ans (by repeat (first | exact hw | refine Below.setCell ?_ (by simp) _))
theorem tabI_snoc (k : Nat) (f : Nat → Int) : tabI (k + 1) f = tabI k f ++ [f k] := by simp [tabI, List.range_succ]
structure NiSt (w : World) (W H p : Int) (k : Nat) (v : Value) (wr : World) : Prop where
 rs : ImAt wr w.heap.size 58 0 0 (.slice none 0 0)
 im : ImAt wr (w.heap.size + 1) 58 W H v
 own : wr.ownsRow (w.heap.size + 2) 3 1 v k (intCells (tabI k (fun _ => p)))
 bw : Below w.heap.size w wr
theorem NiSt.next {w wr w2 : World} {W H p : Int} {k : Nat} {v v' : Value} {o : Obj} (h : NiSt w W H p k v wr)
  (hown : w2.ownsRow (w.heap.size + 2) 3 1 v' (k + 1) (intCells (tabI k (fun _ => p)) ++ [.int .i64 p])) (hgr : (wr.alloc o).grownBy w2 v.ownBlock) :
  NiSt w W H p (k + 1) v' (w2.setCell ⟨w.heap.size + 1, 2, none⟩ v') := by
 have hlow : ∀ b, b < w.heap.size + 2 → some b ≠ v.ownBlock := fun b hb e => by have := (h.own.lt b e.symm).1; omega
 refine ⟨(((h.rs.alloc o).grown hgr (hlow _ (by omega))).far (by simp) _), ((h.im.alloc o).grown hgr (hlow _ (by omega))).set2 v', ?_, ((h.bw.alloc h.bw.size o).grown hgr (by have := h.bw.size; simp; omega) (fun b hb => by have := (h.own.lt b hb).1; omega)).setCell (by simp) _⟩
 have h2 := ownI_far hown (p := ⟨w.heap.size + 1, 2, none⟩) (fun g hg => by have := (hown.lt g hg).1; simp; omega) v'
 rw [tabI_snoc, show intCells (tabI k (fun _ => p) ++ [p]) = intCells (tabI k (fun _ => p)) ++ [.int .i64 p] by simp [intCells]]
 exact h2
theorem NiSt.mid {w wr w2 : World} {W H p : Int} {k : Nat} {v : Value} {o : Obj} (h : NiSt w W H p k v wr) (hgr : (wr.alloc o).grownBy w2 v.ownBlock) :
  ImAt w2 (w.heap.size + 1) 58 W H v := (h.im.alloc o).grown hgr (fun e => by have := (h.own.lt _ e.symm).1; omega)
set_option maxHeartbeats 600000 in
set_option maxRecDepth 10000 in
theorem newS (W H p : Int) (w : World) : Calls Try.prog 63 #[.int .i64 W, .int .i64 H, .int .i64 p] w (AnsIm (newIm W H p) w) := by
 have hR := ImAt.new w 58 0 0 (.slice none 0 0)
 have hw := (Below.refl w.heap.size w).alloc (Nat.le_refl _) (.cells #[.int .i64 0, .int .i64 0, .slice none 0 0] 58)
 obtain ⟨i0, hi, hz0, hz1, hz2⟩ := info_parts infoInt
 by_cases hs : szOk W H
 ·have hs2 := hs
  obtain ⟨s1, s2, s3, s4⟩ := hs2
  by_cases hp : pixOk p
  ·obtain ⟨n, n1, n2, hn, hd⟩ := flat_size hs p
   have HA := Lib.hid (show newIm W H p = ⟨W, H, tabI n (fun _ => p)⟩ by rw [new_yes hs hp, hd])
   have Hp := Lib.hid hp
   have hn' : W * H = (n : Int) := hn.symm
   have hS0 : NiSt w W H p 0 (.slice none 0 0) ((w.alloc (.cells #[.int .i64 0, .int .i64 0, .slice none 0 0] 58)).alloc (.cells #[.int .i64 W, .int .i64 H, .slice none 0 0] 58)) :=
    ⟨hR.alloc _, ImAt.newAt (by simp) _ _ _ _, World.ownsRow_nil _ _ _ _, hw.alloc (by simp) _⟩
   clear hs hp hd hn hR hw
   go_enter Try.func63, Try.ntmps63
   go_wp2_with (first | (go_at_call 48; (with_reducible refine (inS_yes _ _ _ _ (by omega) (by omega)).mono ?_); rintro e w' ⟨rfl, rfl⟩) | (go_at_call 99; (with_reducible refine (pixS_yes _ Hp.out _).mono ?_); rintro e w' ⟨rfl, rfl⟩))
   go_loopw [8] (fun s wr => ∃ (k : Nat) (v : Value), k ≤ n ∧ s = .int .i64 k ∧ NiSt w W H p k v wr) (fun s _ => n - (intOf s).toNat)
   case atStart => exact ⟨0, _, Nat.zero_le _, rfl, hS0⟩
   case round =>
    clear hS0
    obtain ⟨k, v, hk, rfl, hS⟩ := hrel
    obtain ⟨A, c, hv⟩ := ownI_shape hS.own
    subst hv
    obtain ⟨c0, c1, c2⟩ := hS.im.cells
    by_cases hlt : k < n
    ·have k1 : (k : Int) < (n : Int) := by omega
     go_wp2_with (at_builtin; refine wpList_append_own _ rfl _ _ 23 rfl (w.heap.size + 2) 3 i0 (.int .i64 0) 1 8 Try.underlying23 hi hz0 hz1 hz2 rfl (by decide) _ _ _ rfl (hS.own.alloc _) ⟨_, 0, none⟩ 1 1 _ rfl rfl (World.news_of_block (cs := #[.int .i64 p]) (fr := (0, 0)) (heap_alloc_new _ _)) (by intro u hu; simp at hu; subst hu; rfl) (by unfold maxLen; omega) (by omega) (by have := hS.im.lt; simp; omega) ?_)
     intro v2 w2 hown2 hgrow _
     obtain ⟨gq, cq, hvq, _, _⟩ := hown2.form (by omega)
     subst hvq
     have hM := hS.mid hgrow
     obtain ⟨d0, d1, d2⟩ := hM.cells
     have f2 := hM.frozen 2
     have hS := hS.next hown2 hgrow
     clear hown2 hgrow c0 c1 c2 hM
     go_wp2_with fail
     go_roundw
     case rel => exact ⟨k + 1, _, by omega, by go_num, hS⟩
     case measure => simp [intOf]; omega
    ·obtain rfl : k = n := by omega
     obtain ⟨d0, d1, d2⟩ := hS.rs.cells
     have f0 := hS.rs.frozen 0
     have f1 := hS.rs.frozen 1
     have f2 := hS.rs.frozen 2
     go_wp2_with fail
     have j := hS.rs.set3 W H (.slice A k c)
     obtain ⟨x0, x1, x2⟩ := j.cells
     refine bodyPost_ret (v := .agg #[.int .i64 W, .int .i64 H, .slice A k c]) (by simp [results, Try.results63, go_sem, x0, x1, x2]) rfl ?_
     rw [HA.out]
     refine ⟨_, rfl, ?_, ((hS.bw.setCell (by simp) _).setCell (by simp) _).setCell (by simp) _⟩
     have hlt := fun g hg => (hS.own.lt g hg).1
     have h3 := ownI_far (ownI_far (ownI_far (hS.own.mono (show w.heap.size ≤ _ by omega)) (p := ⟨w.heap.size, 0, none⟩) (fun g hg => by have := hlt g hg; simp at this ⊢; omega) (.int .i64 W)) (p := ⟨w.heap.size, 1, none⟩) (fun g hg => by have := hlt g hg; simp at this ⊢; omega) (.int .i64 H)) (p := ⟨w.heap.size, 2, none⟩) (fun g hg => by have := hlt g hg; simp at this ⊢; omega) (.slice A k c)
     rw [tabI_length]
     exact h3
  ·have HA := Lib.hid (show newIm W H p = zeroIm from new_no fun h => hp h.2)
   have Hp := Lib.hid hp
   obtain ⟨c0, c1, c2⟩ := hR.cells
   have f0 := hR.frozen 0
   have f1 := hR.frozen 1
   have f2 := hR.frozen 2
   clear hs hp
   go_enter Try.func63, Try.ntmps63
   go_wp2_with (first | (go_at_call 48; (with_reducible refine (inS_yes _ _ _ _ (by omega) (by omega)).mono ?_); rintro e w' ⟨rfl, rfl⟩) | (go_at_call 99; (with_reducible refine (pixS_no _ Hp.out _).mono ?_); rintro e w' ⟨rfl, rfl⟩))
   refine bodyPost_ret (v := .agg #[.int .i64 0, .int .i64 0, .slice none 0 0]) (by simp [results, Try.results63, go_sem]) rfl ?_
   rw [HA.out]
   exact zeroIm_ans (by repeat (first | exact hw | refine Below.setCell ?_ (by simp) _))
 ·have HA := Lib.hid (show newIm W H p = zeroIm from new_no fun h => hs h.1)
  obtain ⟨c0, c1, c2⟩ := hR.cells
  have f0 := hR.frozen 0
  have f1 := hR.frozen 1
  have f2 := hR.frozen 2
  unfold szOk at hs
  by_cases h1 : 1 ≤ W ∧ W ≤ 16
  ·obtain ⟨h1, h2⟩ := h1
   have h7 : H < 1 ∨ 16 < H := by omega
   have H7 := Lib.hid h7
   clear h7 hs
   go_enter Try.func63, Try.ntmps63
   go_wp2_with (first | (go_at_call 48; (with_reducible refine (inS_yes _ _ _ _ (by omega) (by omega)).mono ?_); rintro e w' ⟨rfl, rfl⟩) | (go_at_call 48; (with_reducible refine (inS_no _ _ _ _ H7.out).mono ?_); rintro e w' ⟨rfl, rfl⟩))
   refine bodyPost_ret (v := .agg #[.int .i64 0, .int .i64 0, .slice none 0 0]) (by simp [results, Try.results63, go_sem]) rfl ?_
   rw [HA.out]
   exact zeroIm_ans (by repeat (first | exact hw | refine Below.setCell ?_ (by simp) _))
  ·have h7 : W < 1 ∨ 16 < W := by omega
   have H7 := Lib.hid h7
   clear h7 hs h1
   go_enter Try.func63, Try.ntmps63
   go_wp2_with (first | (go_at_call 48; (with_reducible refine (inS_no _ _ _ _ H7.out).mono ?_); rintro e w' ⟨rfl, rfl⟩))
   refine bodyPost_ret (v := .agg #[.int .i64 0, .int .i64 0, .slice none 0 0]) (by simp [results, Try.results63, go_sem]) rfl ?_
   rw [HA.out]
   exact zeroIm_ans (by repeat (first | exact hw | refine Below.setCell ?_ (by simp) _))
end Go.Proofs.Ytnndifemkichmaa
namespace Go.Proofs.Ytnndifemkichmaa
open Go.RowKit
def repSn : Rep Sn where
 R := fun w s vs bs => ∃ v, vs = snCells s v ∧ repSfs.R w s.fs [v] bs
 ex := by rintro w f vs bs ⟨d, rfl, h⟩; exact repSfs.ex h
 keep := by rintro w w' f vs bs ⟨d, rfl, h⟩ hk; exact ⟨d, rfl, repSfs.keep h hk⟩
def wkSn : Wk Sn where
 R := fun w s vs => ∃ v, vs = snCells s v ∧ wkSfs.R w s.fs [v]
 call := by rintro w w' f vs ⟨d, rfl, h⟩ hb; exact ⟨d, rfl, wkSfs.call h hb⟩
def wkEds : Wk (List Ed) := wkSl wkEd 7
theorem r_sn {w : World} {s : Sn} {v : Value} {bs : List Nat} (h : repSn.R w s [.int .i64 s.w, .int .i64 s.h, .int .i64 s.back, v] bs) : repSfs.R w s.fs [v] bs := by
 obtain ⟨v', e, h⟩ := h
 have e2 : v = v' := by simpa [snCells] using e
 subst e2
 exact h
theorem own_sn {B : Nat} {w : World} {s : Sn} {v : Value} {bs : List Nat} (h : repSn.Own B w s [.int .i64 s.w, .int .i64 s.h, .int .i64 s.back, v] bs) : repSfs.Own B w s.fs [v] bs := ⟨r_sn h.r, h.nd, h.lo⟩
theorem own_sn' {B : Nat} {w : World} {s : Sn} {v : Value} {bs : List Nat} (h : repSfs.Own B w s.fs [v] bs) : repSn.Own B w s [.int .i64 s.w, .int .i64 s.h, .int .i64 s.back, v] bs := ⟨⟨v, rfl, h.r⟩, h.nd, h.lo⟩
theorem form_sn {w : World} {s : Sn} {v : Value} {bs : List Nat} (h : repSn.R w s [.int .i64 s.w, .int .i64 s.h, .int .i64 s.back, v] bs) : ∃ A c, v = .slice A s.fs.length c := (repSfs_form (r_sn h)).1
theorem wr_sn {w : World} {s : Sn} {v : Value} (h : wkSn.R w s [.int .i64 s.w, .int .i64 s.h, .int .i64 s.back, v]) : wkSfs.R w s.fs [v] := by
 obtain ⟨v', e, h⟩ := h
 have e2 : v = v' := by simpa [snCells] using e
 subst e2
 exact h
theorem wkSl_form {α : Type} {F : Wk α} {s : Nat} {w : World} {L : List α} {v : Value} (h : (wkSl F s).R w L [v]) : (∃ A c, v = .slice A L.length c) ∧ L.length ≤ maxLen := by
 obtain ⟨hm, A, c, e, _⟩ := h
 obtain rfl : v = .slice A L.length c := by simpa using e
 exact ⟨⟨_, _, rfl⟩, hm⟩
theorem wform_sn {w : World} {s : Sn} {v : Value} (h : wkSn.R w s [.int .i64 s.w, .int .i64 s.h, .int .i64 s.back, v]) : ∃ A c, v = .slice A s.fs.length c := (wkSl_form (wr_sn h)).1
def lenFs (L : List Sf) : Nat := (L.map fun f => f.data.length).sum
def sizFs (L : List Sf) : Nat := L.length + lenFs L
def cntFs (L : List Sf) : Nat := L.length * 10 + lenFs L
def mkSfK (k : Nat) (f : Sf) : Sf := ⟨k, (k + 1 : Nat), (k + 2 : Nat), (k + 3 : Nat), (k + 4 : Nat), (k + 5 : Nat), (k + 6 : Nat), ((k + 7 : Nat) : Int) % 3 == 0, (k + 8 : Nat), (k + 9 : Nat), marksI (k + 10) f.data.length⟩
def mkFs (k : Nat) : List Sf → List Sf
 | [] => []
 | f :: L => mkSfK k f :: mkFs (k + 10 + f.data.length) L
def mkSn (k : Nat) (s : Sn) : Sn := { s with fs := mkFs k s.fs }
theorem mkFs_length (k : Nat) (L : List Sf) : (mkFs k L).length = L.length := by
 induction L generalizing k with
 | nil => rfl
 | cons f L ih => simp [mkFs, ih]
theorem cntFs_take {L : List Sf} {k : Nat} {f : Sf} (h : L[k]? = some f) : cntFs (L.take (k + 1)) = cntFs (L.take k) + 10 + f.data.length := by
 have hk : k < L.length := (List.getElem?_eq_some_iff.1 h).1
 unfold cntFs lenFs
 rw [List.take_add_one, h, Option.toList_some, List.map_append, List.sum_append, List.length_append]
 simp
 omega
theorem lenFs_take {L : List Sf} {k : Nat} {f : Sf} (h : L[k]? = some f) : lenFs (L.take (k + 1)) = lenFs (L.take k) + f.data.length := by
 unfold lenFs
 rw [List.take_add_one, h, Option.toList_some, List.map_append, List.sum_append]
 simp
theorem lenFs_le (L : List Sf) (k : Nat) : lenFs (L.take k) ≤ lenFs L := by
 unfold lenFs
 conv => rhs; rw [← List.take_append_drop k L, List.map_append, List.sum_append]
 omega
theorem lenFs_at {L : List Sf} {k : Nat} {f : Sf} (h : L[k]? = some f) : f.data.length ≤ lenFs L := by
 have := lenFs_le L (k + 1); rw [lenFs_take h] at this; omega
theorem cntFs_le (L : List Sf) (k : Nat) : cntFs (L.take k) ≤ cntFs L := by
 have := lenFs_le L k; unfold cntFs; rw [List.length_take]; omega
theorem mkFs_get {L : List Sf} {k : Nat} {f : Sf} (k0 : Nat) (h : L[k]? = some f) : (mkFs k0 L)[k]? = some (mkSfK (k0 + cntFs (L.take k)) f) := by
  induction L generalizing k k0 with
  | nil => simp at h
  | cons g L ih =>
    cases k with
    | zero =>
      obtain rfl : g = f := by simpa using h
      simp [mkFs, cntFs, lenFs]
    | succ k =>
      have h1 := ih (k0 + 10 + g.data.length) (by simpa using h)
      simp only [mkFs, List.getElem?_cons_succ]
      rw [h1]
      congr 2
      simp [cntFs, lenFs]
      omega
theorem cnt_le_siz (L : List Sf) : cntFs L ≤ 10 * sizFs L := by unfold cntFs sizFs; omega
def mixG {α : Type} (M L : List α) (k : Nat) : List α := M.take k ++ L.drop k
section
variable {α : Type} {M L : List α} {k : Nat}
theorem mix_zero (M L : List α) : mixG M L 0 = L := by simp [mixG]
theorem mix_all (h : M.length = L.length) : mixG M L L.length = M := by
 unfold mixG; rw [List.drop_length, List.append_nil, List.take_of_length_le (by omega)]
theorem mix_len (h : M.length = L.length) (k : Nat) : (mixG M L k).length = L.length := by
 unfold mixG; rw [List.length_append, List.length_take, List.length_drop]; omega
theorem mix_get (h : M.length = L.length) {f : α} (hf : L[k]? = some f) : (mixG M L k)[k]? = some f := by
 have hk : k < L.length := (List.getElem?_eq_some_iff.1 hf).1
 unfold mixG
 rw [List.getElem?_append_right (by rw [List.length_take]; omega), List.length_take, show k - min k M.length = 0 by omega, List.getElem?_drop, Nat.add_zero, hf]
theorem mix_set (h : M.length = L.length) {g : α} (hg : M[k]? = some g) : (mixG M L k).set k g = mixG M L (k + 1) := by
 have hk : k < M.length := (List.getElem?_eq_some_iff.1 hg).1
 apply List.ext_getElem?
 intro j
 by_cases e : j = k
 ·subst e
  rw [List.getElem?_set_self (by rw [mix_len h]; omega)]
  unfold mixG
  rw [List.getElem?_append_left (by rw [List.length_take]; omega), List.getElem?_take_of_lt (by omega), hg]
 ·rw [List.getElem?_set_ne (Ne.symm e)]
  unfold mixG
  by_cases hj : j < k
  ·rw [List.getElem?_append_left (by rw [List.length_take]; omega), List.getElem?_append_left (by rw [List.length_take]; omega), List.getElem?_take_of_lt hj, List.getElem?_take_of_lt (by omega)]
  ·rw [List.getElem?_append_right (by rw [List.length_take]; omega), List.getElem?_append_right (by rw [List.length_take]; omega), List.length_take, List.length_take, List.getElem?_drop, List.getElem?_drop]
   congr 1
   omega
end
end Go.Proofs.Ytnndifemkichmaa
namespace Go.Proofs.Ytnndifemkichmaa
open Go.RowKit
def repRg : Rep (List Rc) where
 R := fun w L vs bs => ∃ v, vs = [v] ∧ w.ownsRow 0 165 4 v L.length (rcsCells L) ∧ bs = v.ownBlock.toList
 ex := by rintro w a vs bs ⟨v, rfl, h, rfl⟩ b hb; exact (own_ltB h b hb).2
 keep := by rintro w w' a vs bs ⟨v, rfl, h, rfl⟩ hk; exact ⟨v, rfl, own_keepB h hk, rfl⟩
theorem r_rg {w : World} {L : List Rc} {d : Value} {bs : List Nat} (h : repRg.R w L [d] bs) : RdR w d L := by
 obtain ⟨v, e, ho, rfl⟩ := h
 obtain rfl : d = v := by simpa using e
 exact RdR.of_own ho
def mkRg (k : Nat) (L : List Rc) : List Rc := marksL k L.length
theorem eq_rg (f : List Rc) (d u : Value) (bs cs : List Nat) (w : World) (h1 : repRg.R w f [d] bs) (h2 : repRg.R w f [u] cs) : Calls Try.prog 105 #[.agg #[d], .agg #[u]] w fun e w' => e = .returned (.bool true) ∧ Below w.heap.size w w' := eqRg_same d u f w (r_rg h1) (r_rg h2)
end Go.Proofs.Ytnndifemkichmaa
namespace Go.Proofs.Ytnndifemkichmaa
open Go.RowKit
structure SlU {α : Type} (E : Rep α) (e : TypeId) (s : Nat) (w : World) (L : List α) (g c n : Nat) (xs : List (List Value)) (bss : List (List Nat)) : Prop where
 rr : rowsR E w L xs bss
 ls : ∀ x ∈ xs, x.length = s
 ow : w.ownsRow 0 e s (.slice (some ⟨g, 0, none⟩) n c) n xs.flatten
 hn : n = L.length
section
variable {α : Type} {E : Rep α} {e : TypeId} {s : Nat} {w w' : World} {L : List α} {g c n : Nat} {xs : List (List Value)} {bss : List (List Nat)}
theorem SlU.lt (h : SlU E e s w L g c n xs bss) : g < w.heap.size := (own_ltB h.ow g (by simp [Value.ownBlock])).2
theorem SlU.call (h : SlU E e s w L g c n xs bss) (hb : Below w.heap.size w w') : SlU E e s w' L g c n xs bss :=
 ⟨rowsR_keep h.rr fun b hb' => hb.block b (rowsR_ex h.rr b hb'), h.ls, own_keepB h.ow fun b hb' => hb.block b (own_ltB h.ow b hb').2, h.hn⟩
theorem SlU.at_ (h : SlU E e s w L g c n xs bss) {k : Nat} (hk : k < n) : ∃ a x b, L[k]? = some a ∧ xs[k]? = some x ∧ bss[k]? = some b ∧ x.length = s ∧ E.R w a x b ∧ ∀ j u, x[j]? = some u → w.cell? ⟨g, k * s + j, none⟩ = some u := by
 have hL := List.getElem?_eq_getElem (show k < L.length by rw [← h.hn]; exact hk)
 obtain ⟨x, b, hx, hb, hR⟩ := rowsR_at h.rr k _ hL
 have hl := h.ls x (List.mem_of_getElem? hx)
 refine ⟨_, x, b, hL, hx, hb, hl, hR, fun j u hu => ?_⟩
 have hj : j < s := by have := (List.getElem?_eq_some_iff.1 hu).1; omega
 exact own_cellI h.ow (by rw [flat_at h.ls k j hx hj]; exact hu)
theorem SlU.frozen (h : SlU E e s w L g c n xs bss) (j : Nat) : w.frozen? ⟨g, j, none⟩ = false := h.ow.frozenAt j
theorem SlU.rep (h : SlU E e s w L g c n xs bss) : (repSl E e s).R w L [.slice (some ⟨g, 0, none⟩) n c] (g :: bss.flatten) := ⟨_, xs, bss, rfl, h.rr, h.ls, by rw [← h.hn]; exact h.ow, by simp [Value.ownBlock]⟩
theorem SlU.of_rep {v : Value} {bs : List Nat} (h : (repSl E e s).R w L [v] bs) : (v = .slice none 0 0 ∧ L = [] ∧ bs = []) ∨ ∃ g c xs bss, v = .slice (some ⟨g, 0, none⟩) L.length c ∧ SlU E e s w L g c L.length xs bss ∧ bs = g :: bss.flatten := by
 obtain ⟨v', xs, bss, he, hr, hs, ho, rfl⟩ := h
 obtain rfl : v = v' := by simpa using he
 rcases ho.2 with ⟨rfl, h0⟩ | ⟨g, cap, cur, rfl, _⟩
 ·have hL : L = [] := List.eq_nil_of_length_eq_zero h0
  subst hL
  have := (rowsR_len hr).2
  obtain rfl : bss = [] := List.eq_nil_of_length_eq_zero this
  exact .inl ⟨rfl, rfl, rfl⟩
 ·exact .inr ⟨g, cap, xs, bss, rfl, ⟨hr, hs, ho, rfl⟩, by simp [Value.ownBlock]⟩
theorem own_setK {xs : List (List Value)} (ls : ∀ x ∈ xs, x.length = s) (ow : w.ownsRow 0 e s (.slice (some ⟨g, 0, none⟩) n c) n xs.flatten) {k j : Nat} {x : List Value} (hx : xs[k]? = some x) (hj : j < s) (v : Value) :
  (∀ y ∈ xs.set k (x.set j v), y.length = s) ∧ (w.setCell ⟨g, k * s + j, none⟩ v).ownsRow 0 e s (.slice (some ⟨g, 0, none⟩) n c) n (xs.set k (x.set j v)).flatten ∧ w.grownBy (w.setCell ⟨g, k * s + j, none⟩ v) (some g) := by
 obtain ⟨p1, p2⟩ := ow.stored (k * s + j) v
 rw [flat_set ls k j hx v hj] at p1
 refine ⟨fun y hy => ?_, p1, p2⟩
 rcases List.mem_or_eq_of_mem_set hy with h | rfl
 ·exact ls y h
 ·rw [List.length_set]; exact ls x (List.mem_of_getElem? hx)
end
structure SetK (e : TypeId) (s : Nat) (w w' : World) (g c n k : Nat) (xs : List (List Value)) (x' : List Value) : Prop where
 ls : ∀ y ∈ xs.set k x', y.length = s
 ow : w'.ownsRow 0 e s (.slice (some ⟨g, 0, none⟩) n c) n (xs.set k x').flatten
 gr : w.grownBy w' (some g)
theorem SetK.put {e : TypeId} {s : Nat} {w w' : World} {g c n k : Nat} {xs : List (List Value)} {x' y : List Value} (h : SetK e s w w' g c n k xs x') (hk : k < xs.length) (j : Nat) (hj : j < s) (v : Value) (hv : x'.set j v = y) : SetK e s w (w'.setCell ⟨g, k * s + j, none⟩ v) g c n k xs y := by
 obtain ⟨p1, p2, p3⟩ := own_setK h.ls h.ow (k := k) (j := j) (x := x') (by rw [List.getElem?_set_self hk]) hj v
 rw [List.set_set, hv] at p1 p2
 exact ⟨p1, p2, h.gr.trans p3⟩
theorem SetK.zero {α : Type} {E : Rep α} {e : TypeId} {s : Nat} {w : World} {L : List α} {g c n k : Nat} {xs : List (List Value)} {bss : List (List Nat)} {x : List Value} (h : SlU E e s w L g c n xs bss) (hx : xs[k]? = some x) : SetK e s w w g c n k xs x := by
 have hs : xs.set k x = xs := by
  apply List.ext_getElem?
  intro j
  by_cases e : j = k
  ·subst e; rw [List.getElem?_set_self (List.getElem?_eq_some_iff.1 hx).1, hx]
  ·rw [List.getElem?_set_ne (Ne.symm e)]
 exact ⟨by rw [hs]; exact h.ls, by rw [hs]; exact h.ow, World.grownBy.refl _ _⟩
theorem SlU.upd {α : Type} {E : Rep α} {e : TypeId} {s : Nat} {w w' : World} {L : List α} {g c n k : Nat} {xs : List (List Value)} {bss : List (List Nat)} {a' : α} {x' : List Value} {b' : List Nat} (h : SlU E e s w L g c n xs bss) (hk : k < n)
  (ow : w'.ownsRow 0 e s (.slice (some ⟨g, 0, none⟩) n c) n (xs.set k x').flatten) (ls : ∀ y ∈ xs.set k x', y.length = s) (hR : E.R w' a' x' b')
  (hn : ∀ (j : Nat) (d : List Nat), j ≠ k → bss[j]? = some d → ∀ b ∈ d, w'.heap[b]? = w.heap[b]?) : SlU E e s w' (L.set k a') g c n (xs.set k x') (bss.set k b') :=
 ⟨rowsR_upd h.rr k (by rw [← h.hn]; exact hk) hR hn, ls, ow, by rw [List.length_set]; exact h.hn⟩
theorem SlU.nodup {α : Type} {E : Rep α} {e : TypeId} {s : Nat} {B : Nat} {w : World} {L : List α} {g c n : Nat} {xs : List (List Value)} {bss : List (List Nat)} (_ : SlU E e s w L g c n xs bss) {v : Value} (ho : (repSl E e s).Own B w L [v] (g :: bss.flatten)) : g ∉ bss.flatten ∧ bss.flatten.Nodup ∧ B ≤ g ∧ ∀ b ∈ bss.flatten, B ≤ b :=
 ⟨(List.nodup_cons.1 ho.nd).1, (List.nodup_cons.1 ho.nd).2, ho.lo g (by simp), fun b hb => ho.lo b (by simp [hb])⟩
theorem SlU.own {α : Type} {E : Rep α} {e : TypeId} {s : Nat} {B : Nat} {w : World} {L : List α} {g c n : Nat} {xs : List (List Value)} {bss : List (List Nat)} (h : SlU E e s w L g c n xs bss) (h1 : g ∉ bss.flatten) (h2 : bss.flatten.Nodup) (h3 : B ≤ g) (h4 : ∀ b ∈ bss.flatten, B ≤ b) : (repSl E e s).Own B w L [.slice (some ⟨g, 0, none⟩) n c] (g :: bss.flatten) :=
 ⟨h.rep, List.nodup_cons.2 ⟨h1, h2⟩, fun b hb => by rcases List.mem_cons.1 hb with rfl | hb; exact h3; exact h4 b hb⟩
theorem flat_mem {bss : List (List Nat)} {k : Nat} {d : List Nat} (h : bss[k]? = some d) {b : Nat} (hb : b ∈ d) : b ∈ bss.flatten := List.mem_flatten.2 ⟨d, List.mem_of_getElem? h, hb⟩
theorem set_same {bss : List (List Nat)} {k : Nat} {d : List Nat} (h : bss[k]? = some d) : bss.set k d = bss := by
 apply List.ext_getElem?
 intro j
 by_cases e : j = k
 ·subst e; rw [List.getElem?_set_self (List.getElem?_eq_some_iff.1 h).1, h]
 ·rw [List.getElem?_set_ne (Ne.symm e)]
end Go.Proofs.Ytnndifemkichmaa
namespace Go.Proofs.Ytnndifemkichmaa
open Go.RowKit
theorem size26 : (Try.prog.info? 58).map (·.size) = some 3 := by kernel_rfl
theorem wp_store_im {op : Oper} {a : Act} {w : World} {K : Act → World → Prop} {Q : Exit → Act → World → Prop} (t : TypeId) (hsz : (Try.prog.info? t).map (·.size) = some 3) (x y : Operand) (ho : op.op = .store t x y)
  (b : Nat) (X0 Y0 : Int) (v0 : Value) (X Y : Int) (A : Option Addr) (n c : Nat) (hx : a.eval x = .pointer (some ⟨b, 0, none⟩)) (hy : a.eval y = .agg #[.int .i64 X, .int .i64 Y, .slice A n c]) (hI : ImAt w b t X0 Y0 v0)
  (h : ∀ W', ImAt W' b t X Y (.slice A n c) → w.grownBy W' (some b) → K (a.put op.dst undef) W') : op.wp Try.prog a w K Q := by
 have hs : (storeVar t ⟨b, 0, none⟩ (.agg #[.int .i64 X, .int .i64 Y, .slice A n c])).run Try.prog w = .ok () (w.setRow b #[.int .i64 X, .int .i64 Y, .slice A n c]) :=
  run_storeVar_row w b _ _ #[.int .i64 X0, .int .i64 Y0, v0] #[.int .i64 X, .int .i64 Y, .slice A n c] hI hsz rfl (by simp [Value.oneCell'])
 have h1 := h (w.setRow b #[.int .i64 X, .int .i64 Y, .slice A n c]) (setRow_heap w b _ _ t _ hI) ⟨rfl, rfl, rfl, by simp [World.setRow], fun k _ hk => setRow_other w b k _ (fun e => hk (by rw [e]))⟩
 unfold Oper.wp execOp
 simp only [ho, hx, hy, Instr.storeAt, Instr.sureAddr, Sem.run_bind, Sem.run_pure, Result.andThen_ok, hs]
 exact h1
theorem run_build0I (w : World) : (Instr.buildSlice 23 0 #[]).run Try.prog w = .ok (.slice (some ⟨w.heap.size, 0, none⟩) 0 0) (w.alloc (.cells #[] 3)) := by
 kernel_rfl
theorem wp_build0I {op : Oper} {a : Act} {w : World} {K : Act → World → Prop} {Q : Exit → Act → World → Prop} (d : Nat) (ho : op.op = .buildSlice 23 0 #[]) (hd : op.dst = some d)
  (h : ∀ v W', Below w.heap.size w W' → W'.ownsRow w.heap.size 3 1 v 0 [] → K (a.put (some d) v) W') : op.wp Try.prog a w K Q := by
 have h1 := h (.slice (some ⟨w.heap.size, 0, none⟩) 0 0) (w.alloc (.cells #[] 3)) (belI_box _ _)
  ⟨rfl, .inr ⟨w.heap.size, 0, #[], rfl, Nat.le_refl _, heap_alloc_new w _, Nat.le_refl _, by unfold maxLen; omega, rfl, rfl⟩⟩
 have hz := run_build0I w
 unfold Oper.wp execOp
 simp only [ho, List.map_toArray, List.map_nil, Sem.run_bind, hz, Result.andThen_ok, Sem.run_pure]
 rw [← hd] at h1
 exact h1
theorem run_append_noneI {P : Program} (w : World) (base : Nat) (t ty e : TypeId) (i : TypeInfo) (size : Nat) (ht : P.underlying t = some (.slice e)) (hi : P.info? e = some i)
  (v : Value) (n : Nat) (xs : List Value) (hown : w.ownsRow base e size v n xs) :
  (Builtin.append_ #[t, t] ty #[v, .slice none 0 0]).run P w = .ok v w := by
 rcases hown.2 with ⟨rfl, rfl⟩ | ⟨g, cap, cur, rfl, _, _, hn, _, _, _⟩
 ·simp [Builtin.append_, run_underlying ht, sizeOf, typeInfo, hi, Builtin.lenOf, Builtin.firstCells]
 ·simp [Builtin.append_, run_underlying ht, sizeOf, typeInfo, hi, Builtin.lenOf, Builtin.firstCells, loadCells, storeCells, hn]
theorem wp_appendI {o : Oper} {a : Act} {w : World} {K : Act → World → Prop} {Q : Exit → Act → World → Prop} (s x : Operand)
  (ho : o.op = .call { callee := .builtin .append, args := #[s, x], argTypes := #[23, 23] })
  (base : Nat) (v : Value) (n : Nat) (xs : List Value) (hs : a.eval s = v) (hown : w.ownsRow base 3 1 v n xs)
  (u : Value) (L : List Int) (hx : a.eval x = u) (hu : RdI w u L) (h63 : n + L.length ≤ 17592186044416) (hbase : base ≤ w.heap.size)
  (h : ∀ v' w', w'.ownsRow base 3 1 v' (n + L.length) (xs ++ intCells L) → w.grownBy w' v.ownBlock → (v'.ownBlock = v.ownBlock ∨ v'.ownBlock = some w.heap.size) → K (a.put o.dst v') w') : o.wp Try.prog a w K Q := by
 obtain ⟨i0, hi, hz0, hz1, hz2⟩ := info_parts infoInt
 rcases hu with ⟨rfl, rfl⟩ | ⟨g, c, rfl, hm, hlc, hc⟩
 ·have hr := run_append_noneI w base 23 o.type 3 i0 1 Try.underlying23 hi v n xs hown
  unfold Oper.wp execOp
  simp only [ho, resolve, invoke, builtin, Sem.run_bind, Sem.run_pure, Result.andThen_ok, List.map_toArray, List.map_cons, List.map_nil, hs, hx, hr]
  exact h v w (by simpa [intCells] using hown) ⟨rfl, rfl, rfl, Nat.le_refl _, fun _ _ _ => rfl⟩ (.inl rfl)
 ·obtain ⟨v', w', hr, h2, h3, _, h5⟩ := run_append_own_at (P := Try.prog) w base 23 o.type 3 i0 (.int .i64 0) 1 8 Try.underlying23 hi hz0 hz1 hz2 rfl (by decide) v n xs hown ⟨g, 0, none⟩ L.length c (intCells L) (by rw [intCells_length, Nat.mul_one])
   (fun j w' hj => by
    rw [intCells_get] at hj
    obtain ⟨y, hy, rfl⟩ := Option.map_eq_some_iff.1 hj
    rw [addr_add]
    exact hc j y hy) (intCells_one _) (by unfold maxLen; omega) (by omega) hbase
  unfold Oper.wp execOp
  simp only [ho, resolve, invoke, builtin, Sem.run_bind, Sem.run_pure, Result.andThen_ok, List.map_toArray, List.map_cons, List.map_nil, hs, hx, hr]
  exact h v' w' h2 h3 h5
def CloneAns (L : List Int) (w : World) (e : Ending) (w' : World) : Prop := ∃ u, e = .returned u ∧ w'.ownsRow w.heap.size 3 1 u L.length (intCells L) ∧ Below w.heap.size w w'
theorem cloneI (v : Value) (L : List Int) (w : World) (hm : L.length ≤ 2097152) (hv : RdI w v L) : Calls Try.prog 136 #[v] w (CloneAns L w) := by
 rcases hv with ⟨rfl, rfl⟩ | ⟨g, c, rfl, hml, hlc, hc⟩
 ·refine (Try.slices_Clone_int_nil 0 0 w).mono ?_
  rintro e w' ⟨rfl, rfl⟩
  exact ⟨_, rfl, World.ownsRow_nil _ _ _ _, Below.refl _ _⟩
 ·refine (Try.slices_Clone_int g 0 L.length c L w (Nat.le_refl _) (by omega) (fun j hj => ?_)).mono ?_
  ·rw [Nat.zero_add, List.getD_eq_getElem?_getD, List.getElem?_eq_getElem hj]
   exact hc j _ (List.getElem?_eq_getElem hj)
  ·rintro e w' ⟨u, rfl, hown, _, hb⟩
   rw [List.take_length] at hown
   exact ⟨u, rfl, hown, hb⟩
set_option maxHeartbeats 600000 in
set_option maxRecDepth 10000 in
theorem copiedI (X Y : Int) (v : Value) (L : List Int) (w : World) (hm : L.length ≤ 2097152) (hv : RdI w v L) :
  Calls Try.prog 113 #[.agg #[.int .i64 X, .int .i64 Y, v]] w (ImAns X Y L w) := by
 have hv2 := (hv.alloc (.cells #[.int .i64 X, .int .i64 Y, v] 146)).alloc (.cells #[.int .i64 0, .int .i64 0, .slice none 0 0] 146)
 have hC := (ImAt.new w 146 X Y v).alloc (.cells #[.int .i64 0, .int .i64 0, .slice none 0 0] 146)
 have hR : ImAt ((w.alloc (.cells #[.int .i64 X, .int .i64 Y, v] 146)).alloc (.cells #[.int .i64 0, .int .i64 0, .slice none 0 0] 146)) (w.heap.size + 1) 146 0 0 (.slice none 0 0) := ImAt.newAt (by simp) _ _ _ _
 have hw := ((Below.refl w.heap.size w).alloc (Nat.le_refl _) (.cells #[.int .i64 X, .int .i64 Y, v] 146)).alloc (by simp) (.cells #[.int .i64 0, .int .i64 0, .slice none 0 0] 146)
 obtain ⟨A, c, rfl⟩ := hv.form
 obtain ⟨n, hn⟩ : ∃ n, n = L.length := ⟨_, rfl⟩
 rw [← hn] at hv2 hC hR hw ⊢
 have Hn := Lib.hid hn
 have Hm := Lib.hid hm
 clear hv hn hm
 obtain ⟨c0, c1, c2⟩ := hC.cells
 go_enter Try.func113, Try.ntmps113
 go_wp2_with fail
 refine (cloneI _ L _ Hm.out hv2).mono ?_
 rintro e w2 ⟨u, rfl, hown, hb⟩
 obtain ⟨Au, cu, hu⟩ := ownI_shape hown
 subst hu
 have hz := hb.size
 simp at hz
 have hC := hC.call hb
 have hR := hR.call hb
 have hlt := fun g hg => (hown.lt g hg).1
 have Hown := Lib.hid hown
 have Hw := Lib.hid (hw.trans (hb.mono hw.size))
 have Hlt := Lib.hid hlt
 clear hown hb hw hv2 c0 c1 c2 hlt
 obtain ⟨c0, c1, c2⟩ := hC.cells
 obtain ⟨r0, r1, r2⟩ := hR.cells
 have cf := hC.frozen 2
 have f0 := hR.frozen 0
 have f1 := hR.frozen 1
 have f2 := hR.frozen 2
 go_wp2_with fail
 have j := (hR.far (p := ⟨w.heap.size, 2, none⟩) (by simp) (.slice Au L.length cu)).set3 X Y (.slice Au L.length cu)
 obtain ⟨x0, x1, x2⟩ := j.cells
 refine bodyPost_ret (v := .agg #[.int .i64 X, .int .i64 Y, .slice Au L.length cu]) (by simp [results, Try.results113, go_sem, x0, x1, x2]) rfl ⟨_, rfl, ?_, (((Hw.out.setCell (by simp) _).setCell (by simp) _).setCell (by simp) _).setCell (by simp) _⟩
 exact ownI_far (ownI_far (ownI_far (ownI_far (Hown.out.mono (by simp; omega)) (fun g hg => by have := Hlt.out g hg; simp at this ⊢; omega) _) (fun g hg => by have := Hlt.out g hg; simp at this ⊢; omega) _) (fun g hg => by have := Hlt.out g hg; simp at this ⊢; omega) _) (fun g hg => by have := Hlt.out g hg; simp at this ⊢; omega) _
end Go.Proofs.Ytnndifemkichmaa
namespace Go.Proofs.Ytnndifemkichmaa
open Go.RowKit
theorem eqIS_own (v u : Value) (L : List Int) (w : World) (hv : RdI w v L) (hu : RdI w u L) :
  Calls Try.prog 59 #[v, u] w fun e w' => e = .returned (.bool true) ∧ Below w.heap.size w w' :=
 (eqIS_same v u L w hv.rd hu.rd).mono fun e w' h => ⟨h.1, by obtain ⟨k, rfl⟩ := h.2; exact below_drewN (Below.refl _ _) k⟩
end Go.Proofs.Ytnndifemkichmaa
namespace Go.Proofs.Ytnndifemkichmaa
open Go.RowKit
theorem ownI_ne {v : Value} {b : Nat} (h : ∀ g, v.ownBlock = some g → g ≠ b) : v.ownBlock = none ∨ v.ownBlock ≠ some b := by
 by_cases hv : v.ownBlock = none
 ·exact .inl hv
 ·exact .inr fun e => h b e rfl
theorem l05_end {w W : World} {X Y : Int} {A : Option Addr} {c B : Nat} {L : List Int} (h : W.ownsRow B 3 1 (.slice A (0 + L.length) c) (0 + L.length) ([] ++ intCells L)) (hB : w.heap.size ≤ B) (K : Below w.heap.size w W) :
  ImAns X Y L w (.returned (.agg #[.int .i64 X, .int .i64 Y, .slice A (0 + L.length) c])) W := by
 rw [Nat.zero_add, List.nil_append] at h
 rw [Nat.zero_add]
 exact ⟨_, rfl, h.mono hB, K⟩
set_option maxHeartbeats 600000 in
set_option maxRecDepth 10000 in
theorem l05Copy_any (X Y : Int) (v : Value) (L : List Int) (w : World) (hm : L.length ≤ 2097152) (hv : RdI w v L) :
  Calls Try.prog 81 #[.agg #[.int .i64 X, .int .i64 Y, v]] w (ImAns X Y L w) := by
 obtain ⟨A, c, rfl⟩ := hv.form
 have Hm := Lib.hid hm
 obtain ⟨w0, hw0⟩ : ∃ w0, w0 = w.alloc (.cells #[.int .i64 X, .int .i64 Y, .slice A L.length c] 58) := ⟨_, rfl⟩
 have hz : w0.heap.size = w.heap.size + 1 := by rw [hw0]; simp
 have hb0 : Below w.heap.size w w0 := by rw [hw0]; exact belI_box _ _
 have hv2 : RdI w0 (.slice A L.length c) L := by rw [hw0]; exact hv.alloc _
 have hC : ImAt w0 w.heap.size 58 X Y (.slice A L.length c) := by rw [hw0]; exact ImAt.new _ _ _ _ _
 have hR : ImAt (w0.alloc (.cells #[.int .i64 0, .int .i64 0, .slice none 0 0] 58)).drew (w.heap.size + 1) 58 0 0 (.slice none 0 0) := ImAt.newAt hz _ _ _ _
 have hst : Below w0.heap.size w0 (w0.alloc (.cells #[.int .i64 0, .int .i64 0, .slice none 0 0] 58)).drew := (belI_box _ _).drew
 rw [hw0] at hst hR
 clear hm hv
 go_enter Try.func81, Try.ntmps81
 go_upto_region 1 with fail
 rw [← hw0] at *
 refine wp_region_held_drew (S := fun W => Below w0.heap.size w0 W) (by kernel_rfl) hst (fun hS => ?_)
 refine tcH (i := 0) (v := .pointer (some ⟨w.heap.size, 0, none⟩)) rfl (by intro w' hSw; (try dsimp only at hSw); (obtain ⟨c0, c1, c2⟩ := (hC.call hSw).cells); go_simp) ?_
 refine tcH (i := 1) (v := .int .i64 X) rfl (by intro w' hSw; (try dsimp only at hSw); (obtain ⟨c0, c1, c2⟩ := (hC.call hSw).cells); go_simp) ?_
 refine tcH (i := 2) (v := .pointer (some ⟨w.heap.size, 1, none⟩)) rfl (by intro w' hSw; (try dsimp only at hSw); (obtain ⟨c0, c1, c2⟩ := (hC.call hSw).cells); go_simp) ?_
 refine tcH (i := 3) (v := .int .i64 Y) rfl (by intro w' hSw; (try dsimp only at hSw); (obtain ⟨c0, c1, c2⟩ := (hC.call hSw).cells); go_simp) ?_
 refine tcH (i := 5) (v := .pointer (some ⟨w.heap.size, 2, none⟩)) rfl (by intro w' hSw; (try dsimp only at hSw); (obtain ⟨c0, c1, c2⟩ := (hC.call hSw).cells); go_simp) ?_
 refine tcH (i := 6) (v := .slice A L.length c) rfl (by intro w' hSw; (try dsimp only at hSw); (obtain ⟨c0, c1, c2⟩ := (hC.call hSw).cells); go_simp) ?_
 (try simp only [Act.put]); (try simp only [zPa]); (try simp only [zPb, zPc])
 refine wpAnyH_ready (rs := [4]) (by kernel_rfl) (by simp) ?_
 refine (AllReadyH.cons rfl (fun K hK => ?_) AllReadyH.nil)
 ·rw [if_pos (by kernel_rfl)]
  (try simp only [zGa]); (try simp only [zGb]); (try simp only [zGc])
  have hRl := hR.lt
  refine wp_build0I 7 rfl rfl ?_
  intro v0 W' hb own0
  have hR := hR.call hb
  refine hK.out _ _ (belI_call hS hb) (fun hS => ?_)
  clear hK
  (try simp only [Act.put]); (try simp only [zPa]); (try simp only [zPb, zPc])
  refine wpAnyH_ready (rs := [7]) (by kernel_rfl) (by simp) ?_
  refine (AllReadyH.cons rfl (fun K hK => ?_) AllReadyH.nil)
  ·rw [if_pos (by kernel_rfl)]
   (try simp only [zGa]); (try simp only [zGb]); (try simp only [zGc])
   refine wp_appendI (.tmp 7) (.tmp 9) rfl _ v0 0 [] rfl own0 (.slice A L.length c) L rfl (hv2.call hS) (by have := Hm.out; omega) hb.size ?_
   intro v1 W2 hown hg hat
   obtain ⟨Au, cu, hu⟩ := ownI_shape hown
   subst hu
   have hR := hR.grown hg (fun e => by have := (own0.lt _ e.symm).1; omega)
   refine hK.out _ _ (hS.grown hg hS.size (fun k hk => by have := (own0.lt k hk).1; omega)) (fun hS => ?_)
   clear hK
   (try simp only [Act.put]); (try simp only [zPa]); (try simp only [zPb, zPc])
   refine tcH (i := 8) (v := .agg #[.int .i64 X, .int .i64 Y, .slice Au (0 + L.length) cu]) rfl (by intro w' hSw; (try dsimp only at hSw); (obtain ⟨c0, c1, c2⟩ := (hC.call hSw).cells); go_simp) ?_
   (try simp only [Act.put]); (try simp only [zPa]); (try simp only [zPb, zPc])
   refine wpAnyH_ready (rs := [9]) (by kernel_rfl) (by simp) ?_
   refine (AllReadyH.cons rfl (fun K hK => ?_) AllReadyH.nil)
   ·rw [if_pos (by kernel_rfl)]
    (try simp only [zGa]); (try simp only [zGb]); (try simp only [zGc])
    refine wp_store_im 58 size26 (.tmp 2) (.tmp 11) rfl (w.heap.size + 1) 0 0 (.slice none 0 0) X Y Au (0 + L.length) cu rfl rfl hR ?_
    intro W3 hI hg3
    skip
    refine hK.out _ _ (hS.grown hg3 hS.size (fun k hk => by injection hk with hk; omega)) (fun hS => ?_)
    clear hK
    (try simp only [Act.put]); (try simp only [zPa]); (try simp only [zPb, zPc])
    refine wpAnyH_done (by kernel_rfl) ?_ _
    have hlt := fun g hg => (hown.lt g hg).1
    have hown3 := hown.kept hg3 (ownI_ne (fun g hg => by have := hlt g hg; omega))
    have K := hb0.trans (hS.mono (by omega))
    obtain ⟨x0, x1, x2⟩ := hI.cells
    clear hR hC hv2 hS hb own0 hg hg3 hown hst
    go_wp2_with fail
    exact bodyPost_ret (v := .agg #[.int .i64 X, .int .i64 Y, .slice Au (0 + L.length) cu]) (by simp [results, Try.results81, go_sem, x0, x1, x2]) rfl (l05_end hown3 (by omega) K)
end Go.Proofs.Ytnndifemkichmaa
namespace Go.Proofs.Ytnndifemkichmaa
open Go.RowKit
theorem wp_copy_mine {P : Program} {o : Oper} {a : Act} {w : World} {K : Act → World → Prop} {Q : Exit → Act → World → Prop} (d s : Operand) (dT sT : TypeId)
  (ho : o.op = .call { callee := .builtin .copy, args := #[d, s], argTypes := #[dT, sT] }) (elem : TypeId) (hu : P.underlying dT = some (.slice elem)) (hsz : (P.info? elem).map (·.size) = some 1)
  (base g off n cap dLen dCap : Nat) (ad : Addr) (sLen sCap : Nat) (xs cs : List Value) (m : Nat) (hcm : cs.length = m) (hd : a.eval d = .slice (some ⟨g, off, none⟩) dLen dCap) (hs : a.eval s = .slice (some ad) sLen sCap)
  (hown : w.ownsRow base elem 1 (.slice (some ⟨g, 0, none⟩) n cap) n xs) (hn : m = Nat.min sLen dLen)
  (hsrc : ∀ j v, cs[j]? = some v → w.cell? (ad.add j) = some v) (hfit : off + m ≤ n) (h1 : ∀ v ∈ cs, v.oneCell' = true)
  (h : ∀ w', Hid (w'.ownsRow base elem 1 (.slice (some ⟨g, 0, none⟩) n cap) n (splice xs off cs)) → Hid (w.grownBy w' (some g)) → K (a.put o.dst (goInt m)) w') : o.wp P a w K Q := by
 obtain ⟨w', hrun, h2, h3⟩ := run_copy_own (P := P) w dT sT o.type elem base g off n cap dLen dCap ad sLen sCap xs cs m hcm hu hsz hown hn hsrc hfit h1
 unfold Oper.wp
 simp [execOp, ho, resolve, invoke, builtin, hd, hs, hrun, Result.andThen]
 exact h w' h2 h3
theorem grown_drewI (w : World) (row : Option Nat) : w.grownBy w.drew row := ⟨rfl, rfl, rfl, Nat.le_refl _, fun _ _ _ => rfl⟩
end Go.Proofs.Ytnndifemkichmaa
namespace Go.Proofs.Ytnndifemkichmaa
open Go.RowKit
theorem intCells_append (L M : List Int) : intCells (L ++ M) = intCells L ++ intCells M := by simp [intCells]
end Go.Proofs.Ytnndifemkichmaa
namespace Go.Proofs.Ytnndifemkichmaa
open Go.RowKit
theorem tabI_succ (n : Nat) (f : Nat → Int) : tabI (n + 1) f = tabI n f ++ [f n] := by simp [tabI, List.range_succ]
theorem RdI.cell {w : World} {g n c k : Nat} {L : List Int} {x : Int} (h : RdI w (.slice (some ⟨g, 0, none⟩) n c) L) (hx : L[k]? = some x) : w.cell? ⟨g, k, none⟩ = some (.int .i64 x) := by
 have hk : k < L.length := (List.getElem?_eq_some_iff.1 hx).1
 rcases h with ⟨_, rfl⟩ | ⟨g', c', he, hm, hlc, hc⟩
 ·simp at hk
 ·injection he with e1 e2 e3
  injection e1 with e1
  injection e1 with e1
  subst e1
  exact hc k x hx
end Go.Proofs.Ytnndifemkichmaa
