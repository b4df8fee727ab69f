/- Texts of mine in one file: ImC, ImN, ColM, CmB, ImM, ImD, CpyB, CmF, CmP, CpyJ, CrpB, OrdB, OrdS, OrdI, OrdA, SclB, CmJ, SclI, FilS, Thr. No statement is proved here. -/
import Derived.Test.YtnndifemkichmaaGreatMB
import Derived.Test.YtnndifemkichmaaGreatMAv0
import Derived.Test.YtnndifemkichmaaGreatMA
import Derived.Test.YtnndifemkichmaaGreatProg
import Derived.WalkKit
import Derived.ProofKit
import Derived.OpenShut
import Derived.WalkLawsBesides
import Derived.WalkSpells
import Derived.ShutString
import Derived.ChangeOld
import Derived.Below
import Derived.Lib.Hide
import Derived.BigQuiet
import Derived.Deep.QuietTactic
import Derived.Maps.AppendAt
import Derived.Deep.OwnRows
import Derived.Handy
import Derived.Deep.Draws
import Derived.OwnWalk
import Derived.Deep.AppendLies
import Derived.Deep.LoopGhost
import Derived.Deep.Onto
import Derived.Test.YtnndifemkichmaaGreatShelf
import Derived.Laws.CopyOwn
import Derived.Deep.RegionLaw
import Derived.Deep.RegionHeld3
import Derived.Deep.DeepCutAuto
import Derived.Great.BuildSlice
import Derived.Laws.BitsAllLaws
import Derived.Lib.QuoteBits
import Derived.Deep.MidRow
import Derived.Deep.WholeRow
import Derived.Laws.AppendOwn
import Derived.ChangeKeysEq
import Derived.Carry
import Derived.Maps.Own
namespace Go.Proofs.YtnndifemkichmaaGreat
open Go.RowKit
theorem splice_get {α : Type} (L C : List α) (off k : Nat) (h : off + C.length ≤ L.length) : (splice L off C)[k]? = if off ≤ k ∧ k < off + C.length then C[k - off]? else L[k]? := by
 unfold splice
 by_cases h1 : k < off
 ·rw [if_neg (by omega), List.getElem?_append_left (by rw [List.length_take]; omega), List.getElem?_take_of_lt h1]
 ·have ht : (L.take off).length = off := by rw [List.length_take]; omega
  rw [List.getElem?_append_right (by omega), ht]
  by_cases h2 : k < off + C.length
  ·rw [if_pos ⟨by omega, h2⟩, List.getElem?_append_left (by omega)]
  ·rw [if_neg (by omega), List.getElem?_append_right (by omega), List.getElem?_drop]
   congr 1
   omega
theorem splice_tabI (n : Nat) (f : Nat → Int) (k m : Nat) (h : Nat → Int) (hk : k + m ≤ n) :
  splice (intCells (tabI n f)) k (intCells (tabI m h)) = intCells (tabI n (fun j => if k ≤ j ∧ j < k + m then h (j - k) else f j)) := by
 apply List.ext_getElem?
 intro j
 rw [splice_get _ _ _ _ (by rw [intCells_length, intCells_length, tabI_length, tabI_length]; exact hk), intCells_length, tabI_length, intCells_get, intCells_get, intCells_get]
 by_cases hj : j < n
 ·rw [tabI_get n f j hj, tabI_get n _ j hj]
  by_cases h1 : k ≤ j ∧ j < k + m
  ·rw [if_pos h1, if_pos h1, tabI_get m h (j - k) (by omega)]
  ·rw [if_neg h1, if_neg h1]
 ·rw [if_neg (by omega), List.getElem?_eq_none (by rw [tabI_length]; omega), List.getElem?_eq_none (by rw [tabI_length]; omega)]
theorem list_take_splice {α : Type} (cur cs : List α) (off n : Nat) (h : off + cs.length ≤ n) (hn : n ≤ cur.length) : (cur.take off ++ cs ++ cur.drop (off + cs.length)).take n = splice (cur.take n) off cs := by
 have e : cur.take off ++ cs ++ cur.drop (off + cs.length) = splice cur off cs := by unfold splice; rw [List.append_assoc]
 rw [e]
 apply List.ext_getElem?
 intro j
 by_cases hj : j < n
 ·rw [List.getElem?_take_of_lt hj, splice_get _ _ _ _ (by omega), splice_get _ _ _ _ (by rw [List.length_take]; omega), List.getElem?_take_of_lt hj]
 ·rw [List.getElem?_eq_none (by rw [List.length_take]; omega), List.getElem?_eq_none (by rw [length_splice _ _ _ (by rw [List.length_take]; omega), List.length_take]; omega)]
theorem run_copy_own {P : Program} (w : World) (dT sT ty elem : TypeId) (base : Nat) (g off n cap dLen dCap : Nat) (ad : Addr) (sLen sCap : Nat) (xs cs : List Value) (m : Nat) (hcm : cs.length = m)
  (hu : P.underlying dT = some (.slice elem)) (hs : (P.info? elem).map (·.size) = some 1)
  (hown : w.ownsRow base elem 1 (.slice (some ⟨g, 0, none⟩) n cap) n xs) (hn : m = Nat.min sLen dLen)
  (hsrc : ∀ j v, cs[j]? = some v → w.cell? (ad.add j) = some v) (hfit : off + m ≤ n) (h1 : ∀ v ∈ cs, v.oneCell' = true) :
  ∃ w', (Builtin.copy_ #[dT, sT] ty #[.slice (some ⟨g, off, none⟩) dLen dCap, .slice (some ad) sLen sCap]).run P w = .ok (goInt m) w' ∧
   w'.ownsRow base elem 1 (.slice (some ⟨g, 0, none⟩) n cap) n (splice xs off cs) ∧ w.grownBy w' (some g) := by
 subst hcm
 obtain ⟨hl, h⟩ := hown
 rcases h with ⟨h, _⟩ | ⟨g', cap', cur, he, hB, hh, hnc, hcm, hcs, ht⟩
 ·cases h
 ·cases he
  refine ⟨_, run_copy_row (P := P) w dT sT ty elem g off dLen dCap ad sLen sCap cur elem cs hu hs hh hn hsrc (by rw [hcs]; omega) h1, ?_, ?_⟩
  ·have hcl : cur.toList.length = cap := by rw [Array.length_toList]; omega
   refine ⟨by rw [length_splice _ _ _ (by rw [hl]; omega)]; exact hl, .inr ⟨g, cap, _, rfl, hB, setRow_heap w g cur _ _ _ hh, hnc, hcm, ?_, ?_⟩⟩
   ·simp; omega
   ·rw [← ht]
    show List.take (n * 1) _ = splice (List.take (n * 1) cur.toList) off cs
    rw [Nat.mul_one]
    exact list_take_splice _ _ _ _ hfit (by omega)
  ·exact ⟨rfl, rfl, rfl, by simp [World.setRow], fun k _ hk => setRow_other w g k _ (fun e => hk (by rw [e]))⟩
theorem step_copy_mine {P : Program} {ops : Array Oper} {o : Oper} {a : Act} {w : World} {K : Act → World → Prop} {Q : Exit → Act → World → Prop} {E : Prop} (hgd : o.guard = none) (d s : Operand) (dT sT : TypeId)
  (ho : o.op = .call { callee := .builtin .copy, args := #[d, s], argTypes := #[dT, sT] }) (elem : TypeId) (hu : P.underlying dT = some (.slice elem)) (hsz : (P.info? elem).map (·.size) = some 1)
  (base g off n cap dLen dCap : Nat) (ad : Addr) (sLen sCap : Nat) (xs cs : List Value) (m : Nat) (hcm : cs.length = m) (hd : a.eval d = .slice (some ⟨g, off, none⟩) dLen dCap) (hs : a.eval s = .slice (some ad) sLen sCap)
  (hown : w.ownsRow base elem 1 (.slice (some ⟨g, 0, none⟩) n cap) n xs) (hn : m = Nat.min sLen dLen)
  (hsrc : ∀ j v, cs[j]? = some v → w.cell? (ad.add j) = some v) (hfit : off + m ≤ n) (h1 : ∀ v ∈ cs, v.oneCell' = true)
  (h : ∀ w', Hid (w'.ownsRow base elem 1 (.slice (some ⟨g, 0, none⟩) n cap) n (splice xs off cs)) → Hid (w.grownBy w' (some g)) → K (a.put o.dst (goInt m)) w') :
  if Region.wanted o (yielded ops a.tmps) = true then Oper.wp P o a w K Q else E := by
 have hw : Region.wanted o (yielded ops a.tmps) = true := by simp [Region.wanted, hgd]
 rw [if_pos hw]
 obtain ⟨w', hrun, h2, h3⟩ := run_copy_own (P := P) w dT sT o.type elem base g off n cap dLen dCap ad sLen sCap xs cs m hcm hu hsz hown hn hsrc hfit h1
 unfold Oper.wp
 simp [execOp, ho, resolve, invoke, builtin, hd, hs, hrun, Result.andThen]
 exact h w' h2 h3
theorem cell_new1 (w : World) (v : Value) (t : TypeId) : (w.alloc (.cells #[v] t)).cell? ⟨w.heap.size, 0, none⟩ = some v := by
 rw [cell_of_row _ _ _ _ _ _ (heap_alloc_new w _)]; rfl
theorem cell_newAt {w : World} {g : Nat} (h : w.heap.size = g) (v : Value) (t : TypeId) : (w.alloc (.cells #[v] t)).cell? ⟨g, 0, none⟩ = some v := h ▸ cell_new1 w v t
theorem szInt : (Tryz.prog.info? 3).map (·.size) = some 1 := by kernel_rfl
theorem mul_one' (n : Nat) (h : n ≤ 256) (w : World) :
  Calls Tryz.prog 142 #[.int .u64 1, .int .u64 n] w fun e w' => e = .returned (.tuple #[.int .u64 0, .int .u64 n]) ∧ w' = w := by
 have h1 := Tryz.bits_Mul 1 n (by omega) (by omega) w
 rw [Nat.one_mul, Nat.div_eq_of_lt (by omega), Nat.mod_eq_of_lt (by omega)] at h1
 exact h1
def fillF (p : Int) (k : Nat) : Nat → Int := fun j => if j < k then p else 0
theorem fillF_more (p : Int) (n k m : Nat) (hk : k + m ≤ n) : splice (intCells (tabI n (fillF p k))) k (intCells (tabI m (fun _ => p))) = intCells (tabI n (fillF p (k + m))) := by
 rw [splice_tabI n _ k m _ hk]
 congr 1
 refine tabI_congr n fun j _ => ?_
 unfold fillF
 by_cases h1 : k ≤ j ∧ j < k + m
 ·rw [if_pos h1, if_pos h1.2]
 ·rw [if_neg h1]
  by_cases h2 : j < k
  ·rw [if_pos h2, if_pos (by omega)]
  ·rw [if_neg h2, if_neg (by omega)]
theorem fillF_own {w : World} {B g n cap k m : Nat} {p : Int} (h : w.ownsRow B 3 1 (.slice (some ⟨g, 0, none⟩) n cap) n (intCells (tabI n (fillF p k)))) (hm : m ≤ k) (hk : m ≤ n) :
  ∀ j v, (intCells (tabI m (fun _ => p)))[j]? = some v → w.cell? ((⟨g, 0, none⟩ : Addr).add j) = some v := by
 intro j v hv
 rw [intCells_get] at hv
 obtain ⟨x, hx, rfl⟩ := Option.map_eq_some_iff.1 hv
 have hj : j < m := by have := (List.getElem?_eq_some_iff.1 hx).1; rwa [tabI_length] at this
 rw [tabI_get m _ j hj] at hx
 injection hx with hx
 subst hx
 refine h.cells (g := g) rfl j _ ?_
 rw [intCells_get, tabI_get n _ j (by omega)]
 unfold fillF
 rw [if_pos (by omega)]
 rfl
def RepAns (n : Nat) (p : Int) (w : World) (e : Ending) (w' : World) : Prop :=
 ∃ v, e = .returned v ∧ w'.ownsRow w.heap.size 3 1 v n (intCells (tabI n (fun _ => p))) ∧ Below w.heap.size w w'
set_option maxHeartbeats 600000 in
set_option maxRecDepth 10000 in
theorem repI (p : Int) (n : Nat) (h1 : 1 ≤ n) (h2 : n ≤ 256) (g : Nat) (w : World) (hc : w.cell? ⟨g, 0, none⟩ = some (.int .i64 p)) :
  Calls Tryz.prog 141 #[.slice (some ⟨g, 0, none⟩) 1 1, .int .i64 n] w (RepAns n p w) := by
 have hgl := World.block_lt_of_cell? w _ hc
 have hmk := fun W => run_make_row' (P := Tryz.prog) 31 3 (.int .i64 0) 8 Tryz.underlying31 infoInt rfl .i64 .i64 n (by omega) (by omega) W
 have n0 : (1 : Int) ≤ (n : Int) := by omega
 have n1 : (n : Int) ≤ 256 := by omega
 have hx0 : tabI 1 (fun _ => p) = [p] := rfl
 go_enter Tryz.func141, Tryz.ntmps141
 go_wp2_with fail
 refine (mul_one' n h2 _).mono ?_
 rintro e w' ⟨rfl, rfl⟩
 go_wp2_with fail
 have hown0 : (w'.alloc (.cells (madeCells #[.int .i64 0] n) 3)).ownsRow w'.heap.size 3 1 (.slice (some ⟨w'.heap.size, 0, none⟩) n n) n (intCells (tabI n (fillF p 0))) :=
  own_of_rowIs (World.rowIs_made _ _ _ _) (Nat.le_refl _) (by unfold maxLen; omega) (tabI_length _ _) (fun j x hx => by
   have hj : j < n := by have := (List.getElem?_eq_some_iff.1 hx).1; rwa [tabI_length] at this
   rw [tabI_get n _ j hj] at hx
   injection hx with hx
   rw [← hx]; rfl)
 obtain ⟨w2, hrun, hown2, hgr2⟩ := run_copy_own (P := Tryz.prog) _ 31 31 3 3 w'.heap.size w'.heap.size 0 n n n n ⟨g, 0, none⟩ 1 1 _ (intCells (tabI 1 (fun _ => p))) 1 (by rw [intCells_length, tabI_length]) Tryz.underlying31 szInt hown0
  (by show 1 = min 1 n; omega)
  (by
   intro j v hv
   rw [hx0] at hv
   have hj : j = 0 := by have := (List.getElem?_eq_some_iff.1 hv).1; simp [intCells] at this; exact this
   subst hj
   simp [intCells] at hv
   subst hv
   exact (World.cell?_of_block (Below.heap_alloc w' _ g hgl)).trans hc) (by omega) (intCells_one _)
 rw [fillF_more p n 0 1 (by omega)] at hown2
 have hb2 : Below w'.heap.size w' w2 := ((Below.refl _ _).alloc (Nat.le_refl _) _).grown hgr2 (by simp) (fun k hk => by injection hk with hk; omega)
 have Hown2 := Lib.hid hown2
 simp only [hrun, Result.andThen_ok]
 clear hrun hown0 hown2 hgr2 hmk hx0
 go_wp2_with fail
 go_loopw [8] (fun s wr => ∃ k : Nat, 1 ≤ k ∧ k ≤ n ∧ s = .int .i64 k ∧ Hid (wr.ownsRow w'.heap.size 3 1 (.slice (some ⟨w'.heap.size, 0, none⟩) n n) n (intCells (tabI n (fillF p k)))) ∧ Below w'.heap.size w' wr) (fun s _ => n - (intOf s).toNat)
 case atStart => exact ⟨1, Nat.le_refl _, h1, rfl, Hown2, hb2⟩
 case round =>
  clear hb2 Hown2 hc
  obtain ⟨k, hk1, hk2, rfl, Hown, hb⟩ := hrel
  by_cases hlt : k < n
  ·obtain ⟨m, hm⟩ : ∃ m, m = Nat.min k (n - k) := ⟨_, rfl⟩
   have hm2 : m = min k (n - k) := hm
   have hm3 : 1 ≤ m ∧ m ≤ k ∧ k + m ≤ n := by omega
   obtain ⟨m1, m2, m4⟩ := hm3
   have k0 : (0 : Int) ≤ (k : Int) := by omega
   have k1 : (k : Int) < (n : Int) := by omega
   have Hm := Lib.hid hm
   clear hm hm2
   go_wp2_with fail
   go_region_held3 (fun _ => True) (trivial) ((refine step_copy_mine rfl (.tmp 41) (.tmp 44) 31 31 (by rfl) 3 Tryz.underlying31 szInt w'.heap.size w'.heap.size k n n (n - k) (n - k) ⟨w'.heap.size, 0, none⟩ k n _ (intCells (tabI m (fun _ => p))) m (by rw [intCells_length, tabI_length]) (by simp [Act.eval]; omega) (by simp [Act.eval]) (by first | exact Hown.out | exact Hown.out.drew) Hm.out (by first | exact fillF_own Hown.out m2 (by omega) | exact fillF_own Hown.out.drew m2 (by omega)) m4 (intCells_one _) ?_; intro w3 hown3 hgr3))
   go_wp2_with fail
   have hb3 : Below w'.heap.size w' w3 := (show Below w'.heap.size w' wr.drew from hb.drew).grown hgr3.out (by have := hb.size; simpa using this) (fun k hk => by injection hk with hk; omega)
   have e : Value.int .i64 (IntKind.i64.wrap ((k : Int) + (m : Int))) = .int .i64 ((k + m : Nat) : Int) := by rw [wrap_in _ (by omega) (by omega)]; simp
   rw [e]
   refine ⟨⟨k + m, by omega, m4, rfl, ?_, hb3⟩, by simp [intOf]; omega⟩
   have h := hown3.out
   rw [fillF_more p n k m m4] at h
   exact h
  ·obtain rfl : k = n := by omega
   go_wp2_with fail
   go_ret
   refine ⟨_, rfl, ?_, hb⟩
   have h := Hown.out
   rw [tabI_congr k (g := fun _ => p) (fun j hj => by unfold fillF; rw [if_pos hj])] at h
   exact h
end Go.Proofs.YtnndifemkichmaaGreat
namespace Go.Proofs.YtnndifemkichmaaGreat
open Go.RowKit
def flatN (W H p : Int) : List Int := tabI (W * H).toNat (fun _ => p)
open Classical in
noncomputable def newIm (W H p : Int) : Im := if szOk W H ∧ pixOk p then ⟨W, H, flatN W H p⟩ else zeroIm
theorem new_yes {W H p : Int} (h1 : szOk W H) (h2 : pixOk p) : newIm W H p = ⟨W, H, flatN W H p⟩ := if_pos ⟨h1, h2⟩
theorem new_no {W H p : Int} (h : ¬ (szOk W H ∧ pixOk p)) : newIm W H p = zeroIm := if_neg h
def AnsIm (I : Im) (w : World) (e : Ending) (w' : World) : Prop := ImAns I.w I.h I.d w e w'
theorem flat_size {W H : Int} (h : szOk W H) (p : Int) : ∃ n : Nat, 1 ≤ n ∧ n ≤ 256 ∧ (n : Int) = W * H ∧ flatN W H p = tabI n (fun _ => p) := by
 have h1 := sz_mul h
 have h2 := sz_pos h
 exact ⟨(W * H).toNat, by omega, by omega, by omega, rfl⟩
theorem zeroIm_ans {w w' : World} (hb : Below w.heap.size w w') : AnsIm zeroIm w (.returned (.agg #[.int .i64 0, .int .i64 0, .slice none 0 0])) w' :=
 ⟨_, rfl, World.ownsRow_nil _ _ _ _, hb⟩
set_option maxHeartbeats 600000 in
set_option maxRecDepth 10000 in
theorem newI (W H p : Int) (w : World) : Calls Tryz.prog 63 #[.int .i64 W, .int .i64 H, .int .i64 p] w (AnsIm (newIm W H p) w) := by
 have hR := ImAt.new w 70 0 0 (.slice none 0 0)
 have hw := (Below.refl w.heap.size w).alloc (Nat.le_refl _) (.cells #[.int .i64 0, .int .i64 0, .slice none 0 0] 70)
 by_cases hs : szOk W H
 ·by_cases hp : pixOk p
  ·obtain ⟨n, n1, n2, hn, hd⟩ := flat_size hs p
   have HA := Lib.hid (show newIm W H p = ⟨W, H, tabI n (fun _ => p)⟩ by rw [new_yes hs hp, hd])
   have Hs := Lib.hid hs
   have Hp := Lib.hid hp
   have hn' : W * H = (n : Int) := hn.symm
   have HR := Lib.hid hR
   have Hw := Lib.hid hw
   clear hs hp hd hn hR hw
   go_enter Tryz.func63, Tryz.ntmps63
   go_wp2_with (first | (go_at_call 136; (with_reducible refine (szI_yes _ _ Hs.out _).mono ?_); rintro e w' ⟨rfl, rfl⟩) | (go_at_call 140; (with_reducible refine (pixI_yes _ Hp.out _).mono ?_); rintro e w' ⟨rfl, rfl⟩))
   have hc : ((w.alloc (.cells #[.int .i64 0, .int .i64 0, .slice none 0 0] 70)).alloc (.cells #[.int .i64 p] 3)).cell? ⟨w.heap.size + 1, 0, none⟩ = some (.int .i64 p) := cell_newAt (by simp) _ _
   refine (repI p n n1 n2 (w.heap.size + 1) _ hc).mono ?_
   rintro e w2 ⟨v, rfl, hown, hb⟩
   have hI := (HR.out.alloc _).call hb
   have hz := hb.size
   obtain ⟨A, c, hv⟩ := ownI_shape hown
   subst hv
   obtain ⟨c0, c1, c2⟩ := hI.cells
   have f0 := hI.frozen 0
   have f1 := hI.frozen 1
   have f2 := hI.frozen 2
   have Hown := Lib.hid hown
   have Hb := Lib.hid (Hw.out.trans ((belI_call ((Below.refl _ _).alloc (Nat.le_refl _) _) hb).mono (by simp)))
   have HI := Lib.hid hI
   simp at hz
   clear hown hb hI hc
   go_wp2_with fail
   have j := HI.out.set3 W H (.slice A n c)
   obtain ⟨x0, x1, x2⟩ := j.cells
   refine bodyPost_ret (v := .agg #[.int .i64 W, .int .i64 H, .slice A n c]) (by simp [results, Tryz.results63, go_sem, x0, x1, x2]) rfl ?_
   rw [HA.out]
   refine ⟨_, rfl, ?_, ((Hb.out.setCell (by simp) _).setCell (by simp) _).setCell (by simp) _⟩
   have hlt := fun g hg => (Hown.out.lt g hg).1
   have h3 := ownI_far (ownI_far (ownI_far (Hown.out.mono (show w.heap.size ≤ _ by simp; omega)) (p := ⟨w.heap.size, 0, none⟩) (fun g hg => by have := hlt g hg; simp at this ⊢; omega) (.int .i64 W)) (p := ⟨w.heap.size, 1, none⟩) (fun g hg => by have := hlt g hg; simp at this ⊢; omega) (.int .i64 H)) (p := ⟨w.heap.size, 2, none⟩) (fun g hg => by have := hlt g hg; simp at this ⊢; omega) (.slice A n c)
   rw [tabI_length]
   exact h3
  ·have HA := Lib.hid (show newIm W H p = zeroIm from new_no fun h => hp h.2)
   have Hs := Lib.hid hs
   have Hp := Lib.hid hp
   obtain ⟨c0, c1, c2⟩ := hR.cells
   have f0 := hR.frozen 0
   have f1 := hR.frozen 1
   have f2 := hR.frozen 2
   clear hs hp
   go_enter Tryz.func63, Tryz.ntmps63
   go_wp2_with (first | (go_at_call 136; (with_reducible refine (szI_yes _ _ Hs.out _).mono ?_); rintro e w' ⟨rfl, rfl⟩) | (go_at_call 140; (with_reducible refine (pixI_no _ Hp.out _).mono ?_); rintro e w' ⟨rfl, rfl⟩))
   refine bodyPost_ret (v := .agg #[.int .i64 0, .int .i64 0, .slice none 0 0]) (by simp [results, Tryz.results63, go_sem]) rfl ?_
   rw [HA.out]
   exact zeroIm_ans (by repeat (first | exact hw | refine Below.setCell ?_ (by simp) _))
 ·have HA := Lib.hid (show newIm W H p = zeroIm from new_no fun h => hs h.1)
  have Hs := Lib.hid hs
  obtain ⟨c0, c1, c2⟩ := hR.cells
  have f0 := hR.frozen 0
  have f1 := hR.frozen 1
  have f2 := hR.frozen 2
  clear hs
  go_enter Tryz.func63, Tryz.ntmps63
  go_wp2_with (first | (go_at_call 136; (with_reducible refine (szI_no _ _ Hs.out _).mono ?_); rintro e w' ⟨rfl, rfl⟩))
  refine bodyPost_ret (v := .agg #[.int .i64 0, .int .i64 0, .slice none 0 0]) (by simp [results, Tryz.results63, go_sem]) rfl ?_
  rw [HA.out]
  exact zeroIm_ans (by repeat (first | exact hw | refine Below.setCell ?_ (by simp) _))
theorem tabI_snoc (k : Nat) (f : Nat → Int) : tabI (k + 1) f = tabI k f ++ [f k] := by simp [tabI, List.range_succ]
structure NiSt (w : World) (W H p : Int) (k : Nat) (v : Value) (wr : World) : Prop where
 rs : ImAt wr w.heap.size 70 0 0 (.slice none 0 0)
 im : ImAt wr (w.heap.size + 1) 70 W H v
 own : wr.ownsRow (w.heap.size + 2) 3 1 v k (intCells (tabI k (fun _ => p)))
 bw : Below w.heap.size w wr
theorem NiSt.next {w wr w2 : World} {W H p : Int} {k : Nat} {v v' : Value} {o : Obj} (h : NiSt w W H p k v wr)
  (hown : w2.ownsRow (w.heap.size + 2) 3 1 v' (k + 1) (intCells (tabI k (fun _ => p)) ++ [.int .i64 p])) (hgr : (wr.alloc o).grownBy w2 v.ownBlock) :
  NiSt w W H p (k + 1) v' (w2.setCell ⟨w.heap.size + 1, 2, none⟩ v') := by
 have hlow : ∀ b, b < w.heap.size + 2 → some b ≠ v.ownBlock := fun b hb e => by have := (h.own.lt b e.symm).1; omega
 refine ⟨(((h.rs.alloc o).grown hgr (hlow _ (by omega))).far (by simp) _), ((h.im.alloc o).grown hgr (hlow _ (by omega))).set2 v', ?_, ((h.bw.alloc h.bw.size o).grown hgr (by have := h.bw.size; simp; omega) (fun b hb => by have := (h.own.lt b hb).1; omega)).setCell (by simp) _⟩
 have h2 := ownI_far hown (p := ⟨w.heap.size + 1, 2, none⟩) (fun g hg => by have := (hown.lt g hg).1; simp; omega) v'
 rw [tabI_snoc, show intCells (tabI k (fun _ => p) ++ [p]) = intCells (tabI k (fun _ => p)) ++ [.int .i64 p] by simp [intCells]]
 exact h2
theorem NiSt.mid {w wr w2 : World} {W H p : Int} {k : Nat} {v : Value} {o : Obj} (h : NiSt w W H p k v wr) (hgr : (wr.alloc o).grownBy w2 v.ownBlock) :
  ImAt w2 (w.heap.size + 1) 70 W H v := (h.im.alloc o).grown hgr (fun e => by have := (h.own.lt _ e.symm).1; omega)
set_option maxHeartbeats 600000 in
set_option maxRecDepth 10000 in
theorem newS (W H p : Int) (w : World) : Calls Tryz.prog 176 #[.int .i64 W, .int .i64 H, .int .i64 p] w (AnsIm (newIm W H p) w) := by
 have hR := ImAt.new w 70 0 0 (.slice none 0 0)
 have hw := (Below.refl w.heap.size w).alloc (Nat.le_refl _) (.cells #[.int .i64 0, .int .i64 0, .slice none 0 0] 70)
 obtain ⟨i0, hi, hz0, hz1, hz2⟩ := info_parts infoInt
 by_cases hs : szOk W H
 ·have hs2 := hs
  obtain ⟨s1, s2, s3, s4⟩ := hs2
  by_cases hp : pixOk p
  ·obtain ⟨n, n1, n2, hn, hd⟩ := flat_size hs p
   have HA := Lib.hid (show newIm W H p = ⟨W, H, tabI n (fun _ => p)⟩ by rw [new_yes hs hp, hd])
   have Hp := Lib.hid hp
   have hn' : W * H = (n : Int) := hn.symm
   have hS0 : NiSt w W H p 0 (.slice none 0 0) ((w.alloc (.cells #[.int .i64 0, .int .i64 0, .slice none 0 0] 70)).alloc (.cells #[.int .i64 W, .int .i64 H, .slice none 0 0] 70)) :=
    ⟨hR.alloc _, ImAt.newAt (by simp) _ _ _ _, World.ownsRow_nil _ _ _ _, hw.alloc (by simp) _⟩
   clear hs hp hd hn hR hw
   go_enter Tryz.func176, Tryz.ntmps176
   go_wp2_with (first | (go_at_call 147; (with_reducible refine (inS_yes _ _ _ _ (by omega) (by omega)).mono ?_); rintro e w' ⟨rfl, rfl⟩) | (go_at_call 209; (with_reducible refine (pixS_yes _ Hp.out _).mono ?_); rintro e w' ⟨rfl, rfl⟩))
   go_loopw [8] (fun s wr => ∃ (k : Nat) (v : Value), k ≤ n ∧ s = .int .i64 k ∧ NiSt w W H p k v wr) (fun s _ => n - (intOf s).toNat)
   case atStart => exact ⟨0, _, Nat.zero_le _, rfl, hS0⟩
   case round =>
    clear hS0
    obtain ⟨k, v, hk, rfl, hS⟩ := hrel
    obtain ⟨A, c, hv⟩ := ownI_shape hS.own
    subst hv
    obtain ⟨c0, c1, c2⟩ := hS.im.cells
    by_cases hlt : k < n
    ·have k1 : (k : Int) < (n : Int) := by omega
     go_wp2_with (at_builtin; refine wpList_append_own _ rfl _ _ 31 rfl (w.heap.size + 2) 3 i0 (.int .i64 0) 1 8 Tryz.underlying31 hi hz0 hz1 hz2 rfl (by decide) _ _ _ rfl (hS.own.alloc _) ⟨_, 0, none⟩ 1 1 _ rfl rfl (World.news_of_block (cs := #[.int .i64 p]) (fr := (0, 0)) (heap_alloc_new _ _)) (by intro u hu; simp at hu; subst hu; rfl) (by unfold maxLen; omega) (by omega) (by have := hS.im.lt; simp; omega) ?_)
     intro v2 w2 hown2 hgrow _
     obtain ⟨gq, cq, hvq, _, _⟩ := hown2.form (by omega)
     subst hvq
     have hM := hS.mid hgrow
     obtain ⟨d0, d1, d2⟩ := hM.cells
     have f2 := hM.frozen 2
     have hS := hS.next hown2 hgrow
     clear hown2 hgrow c0 c1 c2 hM
     go_wp2_with fail
     go_roundw
     case rel => exact ⟨k + 1, _, by omega, by go_num, hS⟩
     case measure => simp [intOf]; omega
    ·obtain rfl : k = n := by omega
     obtain ⟨d0, d1, d2⟩ := hS.rs.cells
     have f0 := hS.rs.frozen 0
     have f1 := hS.rs.frozen 1
     have f2 := hS.rs.frozen 2
     go_wp2_with fail
     have j := hS.rs.set3 W H (.slice A k c)
     obtain ⟨x0, x1, x2⟩ := j.cells
     refine bodyPost_ret (v := .agg #[.int .i64 W, .int .i64 H, .slice A k c]) (by simp [results, Tryz.results176, go_sem, x0, x1, x2]) rfl ?_
     rw [HA.out]
     refine ⟨_, rfl, ?_, ((hS.bw.setCell (by simp) _).setCell (by simp) _).setCell (by simp) _⟩
     have hlt := fun g hg => (hS.own.lt g hg).1
     have h3 := ownI_far (ownI_far (ownI_far (hS.own.mono (show w.heap.size ≤ _ by omega)) (p := ⟨w.heap.size, 0, none⟩) (fun g hg => by have := hlt g hg; simp at this ⊢; omega) (.int .i64 W)) (p := ⟨w.heap.size, 1, none⟩) (fun g hg => by have := hlt g hg; simp at this ⊢; omega) (.int .i64 H)) (p := ⟨w.heap.size, 2, none⟩) (fun g hg => by have := hlt g hg; simp at this ⊢; omega) (.slice A k c)
     rw [tabI_length]
     exact h3
  ·have HA := Lib.hid (show newIm W H p = zeroIm from new_no fun h => hp h.2)
   have Hp := Lib.hid hp
   obtain ⟨c0, c1, c2⟩ := hR.cells
   have f0 := hR.frozen 0
   have f1 := hR.frozen 1
   have f2 := hR.frozen 2
   clear hs hp
   go_enter Tryz.func176, Tryz.ntmps176
   go_wp2_with (first | (go_at_call 147; (with_reducible refine (inS_yes _ _ _ _ (by omega) (by omega)).mono ?_); rintro e w' ⟨rfl, rfl⟩) | (go_at_call 209; (with_reducible refine (pixS_no _ Hp.out _).mono ?_); rintro e w' ⟨rfl, rfl⟩))
   refine bodyPost_ret (v := .agg #[.int .i64 0, .int .i64 0, .slice none 0 0]) (by simp [results, Tryz.results176, go_sem]) rfl ?_
   rw [HA.out]
   exact zeroIm_ans (by repeat (first | exact hw | refine Below.setCell ?_ (by simp) _))
 ·have HA := Lib.hid (show newIm W H p = zeroIm from new_no fun h => hs h.1)
  obtain ⟨c0, c1, c2⟩ := hR.cells
  have f0 := hR.frozen 0
  have f1 := hR.frozen 1
  have f2 := hR.frozen 2
  unfold szOk at hs
  by_cases h1 : 1 ≤ W ∧ W ≤ 16
  ·obtain ⟨h1, h2⟩ := h1
   have h7 : H < 1 ∨ 16 < H := by omega
   have H7 := Lib.hid h7
   clear h7 hs
   go_enter Tryz.func176, Tryz.ntmps176
   go_wp2_with (first | (go_at_call 147; (with_reducible refine (inS_yes _ _ _ _ (by omega) (by omega)).mono ?_); rintro e w' ⟨rfl, rfl⟩) | (go_at_call 147; (with_reducible refine (inS_no _ _ _ _ H7.out).mono ?_); rintro e w' ⟨rfl, rfl⟩))
   refine bodyPost_ret (v := .agg #[.int .i64 0, .int .i64 0, .slice none 0 0]) (by simp [results, Tryz.results176, go_sem]) rfl ?_
   rw [HA.out]
   exact zeroIm_ans (by repeat (first | exact hw | refine Below.setCell ?_ (by simp) _))
  ·have h7 : W < 1 ∨ 16 < W := by omega
   have H7 := Lib.hid h7
   clear h7 hs h1
   go_enter Tryz.func176, Tryz.ntmps176
   go_wp2_with (first | (go_at_call 147; (with_reducible refine (inS_no _ _ _ _ H7.out).mono ?_); rintro e w' ⟨rfl, rfl⟩))
   refine bodyPost_ret (v := .agg #[.int .i64 0, .int .i64 0, .slice none 0 0]) (by simp [results, Tryz.results176, go_sem]) rfl ?_
   rw [HA.out]
   exact zeroIm_ans (by repeat (first | exact hw | refine Below.setCell ?_ (by simp) _))
end Go.Proofs.YtnndifemkichmaaGreat
namespace Go.Proofs.YtnndifemkichmaaGreat
open Go.RowKit
def colOk (M C : List Int) : Prop := M.length = 9 ∧ C.length = 17 ∧ allIn M (-1024) 1024 ∧ allIn C 0 256
noncomputable def colB (M C : List Int) : Bool := @decide (colOk M C) (Classical.propDecidable _)
theorem colB_yes {M C : List Int} (h : colOk M C) : colB M C = true := by unfold colB; simp [h]
theorem colB_no {M C : List Int} (h : ¬ colOk M C) : colB M C = false := by unfold colB; simp [h]
def mixV (M : List Int) (row : Nat) (r g b : Int) : Int :=
 max 0 (min 255 ((M.getD (3 * row) 0 * r + M.getD (3 * row + 1) 0 * g + M.getD (3 * row + 2) 0 * b + 128) / 256))
def curL (a b t : Int) : Int := (16 * a + (b - a) * t) / 16
def curV (C : List Int) (v : Nat) : Int := min 255 (curL (C.getD (v / 16) 0) (C.getD (v / 16 + 1) 0) (v % 16 : Nat))
theorem mix_ch (M : List Int) (row : Nat) (r g b : Int) : chOk (mixV M row r g b) := by unfold mixV chOk; omega
theorem wt_bd {x c : Int} (h0 : -1024 ≤ x) (h1 : x ≤ 1024) (hc : chOk c) : -261120 ≤ x * c ∧ x * c ≤ 261120 := by
 obtain ⟨c0, c1⟩ := hc
 have e1 : -1024 * c ≤ x * c := Int.mul_le_mul_of_nonneg_right h0 c0
 have e2 : x * c ≤ 1024 * c := Int.mul_le_mul_of_nonneg_right h1 c0
 omega
theorem cur_bd {a b t : Int} (a0 : 0 ≤ a) (a1 : a ≤ 256) (b0 : 0 ≤ b) (b1 : b ≤ 256) (t0 : 0 ≤ t) (t1 : t ≤ 16) : 0 ≤ 16 * a + (b - a) * t ∧ 16 * a + (b - a) * t ≤ 4096 := by
 have e : 16 * a + (b - a) * t = a * (16 - t) + b * t := by rw [Int.sub_mul, Int.mul_sub]; omega
 have p1 : 0 ≤ a * (16 - t) := Int.mul_nonneg a0 (by omega)
 have p2 : 0 ≤ b * t := Int.mul_nonneg b0 t0
 have p3 : a * (16 - t) ≤ 256 * (16 - t) := Int.mul_le_mul_of_nonneg_right a1 (by omega)
 have p4 : b * t ≤ 256 * t := Int.mul_le_mul_of_nonneg_right b1 t0
 rw [e]; omega
theorem cur_pt {M C : List Int} (h : colOk M C) {k : Nat} (hk : k ≤ 16) : 0 ≤ C.getD k 0 ∧ C.getD k 0 ≤ 256 := allIn_get h.2.2.2 k (by rw [h.2.1]; omega)
theorem mat_pt {M C : List Int} (h : colOk M C) {k : Nat} (hk : k ≤ 8) : -1024 ≤ M.getD k 0 ∧ M.getD k 0 ≤ 1024 := allIn_get h.2.2.1 k (by rw [h.1]; omega)
theorem cur_ch {M C : List Int} (h : colOk M C) {v : Nat} (hv : v ≤ 255) : chOk (curV C v) := by
 have p := cur_pt h (k := v / 16) (by omega)
 have q := cur_pt h (k := v / 16 + 1) (by omega)
 have := cur_bd p.1 p.2 q.1 q.2 (t := (v % 16 : Nat)) (by omega) (by omega)
 unfold curV curL chOk
 omega
theorem cur_alt (a b t : Int) : curL a b t = a + ((b - a) * t) / 16 := by
 unfold curL; generalize (b - a) * t = z; omega
noncomputable def mixA (M C : List Int) (row r g b : Int) : Int := @ite _ (colOk M C ∧ 0 ≤ row ∧ row ≤ 2 ∧ chOk r ∧ chOk g ∧ chOk b) (Classical.propDecidable _) (mixV M row.toNat r g b) (-1)
noncomputable def curA (M C : List Int) (v : Int) : Int := @ite _ (colOk M C ∧ chOk v) (Classical.propDecidable _) (curV C v.toNat) (-1)
theorem mixA_yes {M C : List Int} {r g b : Int} {row : Nat} (h : colOk M C) (h1 : row ≤ 2) (hr : chOk r) (hg : chOk g) (hb : chOk b) : mixA M C row r g b = mixV M row r g b := by
 unfold mixA; rw [if_pos ⟨h, by omega, by omega, hr, hg, hb⟩]; rfl
theorem mixA_no {M C : List Int} {row r g b : Int} (h : ¬ (colOk M C ∧ 0 ≤ row ∧ row ≤ 2 ∧ chOk r ∧ chOk g ∧ chOk b)) : mixA M C row r g b = -1 := if_neg h
theorem curA_yes {M C : List Int} {v : Nat} (h : colOk M C) (hv : v ≤ 255) : curA M C v = curV C v := by
 unfold curA; rw [if_pos ⟨h, by unfold chOk; omega⟩]; rfl
theorem curA_no {M C : List Int} {v : Int} (h : ¬ (colOk M C ∧ chOk v)) : curA M C v = -1 := if_neg h
def corC (M C : List Int) (row : Nat) (p : Int) : Int := curV C (mixV M row (p / 65536 % 256) (p / 256 % 256) (p % 256)).toNat
def corK (M C : List Int) (p : Int) : Int := pack4 (p / 16777216) (corC M C 0 p) (corC M C 1 p) (corC M C 2 p)
noncomputable def corA (M C : List Int) (p : Int) : Int := @ite _ (colOk M C ∧ pixOk p) (Classical.propDecidable _) (corK M C p) (-1)
theorem corA_yes {M C : List Int} {p : Int} (h : colOk M C) (hp : pixOk p) : corA M C p = corK M C p := if_pos ⟨h, hp⟩
theorem corA_no {M C : List Int} {p : Int} (h : ¬ (colOk M C ∧ pixOk p)) : corA M C p = -1 := if_neg h
open Classical in
noncomputable def corIm (M C : List Int) (X Y : Int) (L : List Int) : Im := if colOk M C ∧ imOk X Y L then ⟨X, Y, L.map (corK M C)⟩ else zeroIm
theorem corIm_yes {M C L : List Int} {X Y : Int} (h : colOk M C) (hi : imOk X Y L) : corIm M C X Y L = ⟨X, Y, L.map (corK M C)⟩ := if_pos ⟨h, hi⟩
theorem corIm_no {M C L : List Int} {X Y : Int} (h : ¬ (colOk M C ∧ imOk X Y L)) : corIm M C X Y L = zeroIm := if_neg h
end Go.Proofs.YtnndifemkichmaaGreat
namespace Go.Proofs.YtnndifemkichmaaGreat
open Go.RowKit
structure CmB (b : Nat) (u v : Value) (M C : List Int) (W : World) : Prop where
 at_ : BkAt W b 91 #[u, v]
 rm : RdI W u M
 rc : RdI W v C
theorem CmB.call {b : Nat} {u v : Value} {M C : List Int} {W W' : World} (h : CmB b u v M C W) (hb : Below W.heap.size W W') : CmB b u v M C W' := ⟨h.at_.call hb, h.rm.call hb, h.rc.call hb⟩
theorem CmB.drew {b : Nat} {u v : Value} {M C : List Int} {W : World} (h : CmB b u v M C W) : CmB b u v M C W.drew := h.call (belI_drew _)
theorem CmB.cells {b : Nat} {u v : Value} {M C : List Int} {W : World} (h : CmB b u v M C W) : W.cell? ⟨b, 0, none⟩ = some u ∧ W.cell? ⟨b, 1, none⟩ = some v := ⟨h.at_.cell 0 rfl, h.at_.cell 1 rfl⟩
theorem CmB.lt {b : Nat} {u v : Value} {M C : List Int} {W : World} (h : CmB b u v M C W) : b < W.heap.size := h.at_.lt
theorem CmB.born {w : World} {u v : Value} {M C : List Int} (hu : RdI w u M) (hv : RdI w v C) : CmB w.heap.size u v M C (w.alloc (.cells #[u, v] 91)) :=
 ⟨BkAt.new _ _ _, hu.alloc _, hv.alloc _⟩
theorem CmB.bornAt {w : World} {b : Nat} {u v : Value} {M C : List Int} (hb : w.heap.size = b) (hu : RdI w u M) (hv : RdI w v C) : CmB b u v M C (w.alloc (.cells #[u, v] 91)) := hb ▸ CmB.born hu hv
set_option maxHeartbeats 600000 in
set_option maxRecDepth 10000 in
theorem colI (u v : Value) (M C : List Int) (w : World) (hu : RdI w u M) (hv : RdI w v C) :
  Calls Tryz.prog 191 #[.agg #[u, v]] w fun e w' => e = .returned (.bool (colB M C)) ∧ Below w.heap.size w w' := by
 have hB := CmB.born hu hv
 have K := belI_box w (.cells #[u, v] 91)
 obtain ⟨A, c, rfl⟩ := hu.form
 obtain ⟨A', c', rfl⟩ := hv.form
 have hm1 : M.length ≤ 9223372036854775807 := by have := hu.len; unfold maxLen at this; omega
 have hc1 : C.length ≤ 9223372036854775807 := by have := hv.len; unfold maxLen at this; omega
 have H1 := Lib.hid (allI _ M (-1024) 1024 _ hB.rm)
 have H2 := Lib.hid (allI _ C 0 256 _ hB.rc)
 have HM := Lib.hid hB
 have Hd : Hid (colOk M C ↔ M.length = 9 ∧ C.length = 17 ∧ allIn M (-1024) 1024 ∧ allIn C 0 256) := Lib.hid Iff.rfl
 obtain ⟨n, hn⟩ : ∃ n, n = M.length := ⟨_, rfl⟩
 obtain ⟨m, hm⟩ : ∃ m, m = C.length := ⟨_, rfl⟩
 rw [← hn] at hm1 H1 hB K HM ⊢
 rw [← hn, ← hm] at H2
 rw [← hm] at hc1 hB K H1 HM ⊢
 rw [← hn, ← hm] at Hd
 have HK := Lib.hid K
 obtain ⟨b0, b1⟩ := hB.cells
 clear hu hv hn hm hB K HM
 by_cases h1 : n = 9
 ·by_cases h3 : allIn M (-1024) 1024
  ·rw [allB_yes h3] at H1
   by_cases h2 : m = 17
   ·obtain ⟨q, hq⟩ : ∃ q, q = allB C 0 256 := ⟨_, rfl⟩
    have hqi : colB M C = q := by
     rw [hq]
     by_cases ha : allIn C 0 256
     ·rw [allB_yes ha]; exact colB_yes (Hd.out.2 ⟨h1, h2, h3, ha⟩)
     ·rw [allB_no ha]; exact colB_no fun h => ha (Hd.out.1 h).2.2.2
    have Hqi := Lib.hid hqi
    rw [← hq] at H2
    clear hq hqi h3 Hd
    subst h1
    subst h2
    go_enter Tryz.func191, Tryz.ntmps191
    go_wp2_with fail
    refine H1.out.mono ?_
    rintro e w' ⟨rfl, rfl⟩
    go_wp2_with fail
    refine H2.out.mono ?_
    rintro e w' ⟨rfl, rfl⟩
    go_wp2_with fail
    go_ret
    exact ⟨ret_bool Hqi.out.symm, HK.out⟩
   ·have Hno := Lib.hid (colB_no (M := M) (C := C) fun h => h2 (Hd.out.1 h).2.1)
    have h2' : ¬ (m : Int) = 17 := by omega
    clear h3 Hd
    subst h1
    go_enter Tryz.func191, Tryz.ntmps191
    go_wp2_with fail
    refine H1.out.mono ?_
    rintro e w' ⟨rfl, rfl⟩
    go_wp2_with fail
    go_ret
    exact ⟨ret_bool Hno.out.symm, HK.out⟩
  ·have Hno := Lib.hid (colB_no (M := M) (C := C) fun h => h3 (Hd.out.1 h).2.2.1)
   rw [allB_no h3] at H1
   clear h3 Hd
   subst h1
   go_enter Tryz.func191, Tryz.ntmps191
   go_wp2_with fail
   refine H1.out.mono ?_
   rintro e w' ⟨rfl, rfl⟩
   go_wp2_with fail
   go_ret
   exact ⟨ret_bool Hno.out.symm, HK.out⟩
 ·have Hno := Lib.hid (colB_no (M := M) (C := C) fun h => h1 (Hd.out.1 h).1)
  have h1' : ¬ (n : Int) = 9 := by omega
  go_enter Tryz.func191, Tryz.ntmps191
  go_wp2_with fail
  go_ret
  exact ⟨ret_bool Hno.out.symm, HK.out⟩
set_option maxHeartbeats 1000000 in
set_option maxRecDepth 10000 in
theorem colS (u v : Value) (M C : List Int) (w : World) (hu : RdI w u M) (hv : RdI w v C) :
  Calls Tryz.prog 126 #[.agg #[u, v]] w fun e w' => e = .returned (.bool (colB M C)) ∧ Below w.heap.size w w' := by
 have hB := CmB.born hu hv
 have K := belI_box w (.cells #[u, v] 91)
 obtain ⟨A, c, rfl⟩ := hu.form
 obtain ⟨A', c', rfl⟩ := hv.form
 have hm1 : M.length ≤ 9223372036854775807 := by have := hu.len; unfold maxLen at this; omega
 have hc1 : C.length ≤ 9223372036854775807 := by have := hv.len; unfold maxLen at this; omega
 have Hd : Hid (colOk M C ↔ M.length = 9 ∧ C.length = 17 ∧ allIn M (-1024) 1024 ∧ allIn C 0 256) := Lib.hid Iff.rfl
 obtain ⟨n, hn⟩ : ∃ n, n = M.length := ⟨_, rfl⟩
 obtain ⟨m, hm⟩ : ∃ m, m = C.length := ⟨_, rfl⟩
 rw [← hn] at hm1 hB K ⊢
 rw [← hm] at hc1 hB K ⊢
 have HM := Lib.hid hB.rm
 have HC := Lib.hid hB.rc
 have HK := Lib.hid K
 obtain ⟨b0, b1⟩ := hB.cells
 have Hn := Lib.hid hn
 have Hm := Lib.hid hm
 clear hu hv hn hm hB K
 by_cases h1 : n = 9
 ·by_cases h2 : m = 17
  ·subst h1
   subst h2
   go_enter Tryz.func126, Tryz.ntmps126
   go_wp2_with fail
   go_loopw [3] (fun i wr => ∃ k : Nat, k ≤ 9 ∧ i = .int .i64 k ∧ Hid (∀ (j : Nat) (x : Int), j < k → M[j]? = some x → -1024 ≤ x ∧ x ≤ 1024) ∧ wr = w.alloc (.cells #[.slice A 9 c, .slice A' 17 c'] 91)) (fun i _ => 9 - (intOf i).toNat)
   case atStart => exact ⟨0, Nat.zero_le _, rfl, Lib.hid (fun j x h => by omega), rfl⟩
   case round =>
    obtain ⟨k, hk, rfl, Hall, rfl⟩ := hrel
    by_cases hlt : k < 9
    ·obtain ⟨g, x, rfl, hx, hc⟩ := HM.out.at_ (k := k) (by rw [← Hn.out]; exact hlt)
     have Hx := Lib.hid hx
     have k0 : (0 : Int) ≤ (k : Int) := by omega
     have k9 : (k : Int) < 9 := by omega
     clear hx
     by_cases hp : -1024 ≤ x ∧ x ≤ 1024
     ·have Hp := Lib.hid hp
      clear hp
      go_wp2_with ((go_at_call 147; (with_reducible refine (inS_yes _ _ _ _ Hp.out.1 Hp.out.2).mono ?_); rintro e w' ⟨rfl, rfl⟩))
      go_roundw
      case rel =>
       refine ⟨k + 1, by omega, by go_num, Lib.hid (fun j y hj hy => ?_), by first | rfl | trivial⟩
       by_cases e : j < k
       ·exact Hall.out j y e hy
       ·obtain rfl : j = k := by omega
        rw [Hx.out] at hy
        rw [← Option.some.inj hy]
        exact Hp.out
      case measure => simp [intOf]; omega
     ·have hp2 : x < -1024 ∨ 1024 < x := by omega
      have Hp := Lib.hid hp2
      have Hno := Lib.hid (colB_no (M := M) (C := C) fun h => hp ((Hd.out.1 h).2.2.1 k x Hx.out))
      clear hp hp2
      go_wp2_with ((go_at_call 147; (with_reducible refine (inS_no _ _ _ _ Hp.out).mono ?_); rintro e w' ⟨rfl, rfl⟩))
      go_ret
      exact ⟨ret_bool Hno.out.symm, HK.out⟩
    ·have k9 : ¬ (k : Int) < 9 := by omega
     have HallM : Hid (allIn M (-1024) 1024) := Lib.hid fun j x hx => Hall.out j x (by have := (List.getElem?_eq_some_iff.1 hx).1; have := Hn.out; omega) hx
     clear hk hlt
     go_wp2_with fail
     go_loopw [4] (fun i wr => ∃ j : Nat, j ≤ 17 ∧ i = .int .i64 j ∧ Hid (∀ (y : Nat) (x : Int), y < j → C[y]? = some x → 0 ≤ x ∧ x ≤ 256) ∧ wr = w.alloc (.cells #[.slice A 9 c, .slice A' 17 c'] 91)) (fun i _ => 17 - (intOf i).toNat)
     case atStart => exact ⟨0, Nat.zero_le _, rfl, Lib.hid (fun j x h => by omega), rfl⟩
     case round =>
      obtain ⟨j, hj, rfl, Hal2, rfl⟩ := hrel
      by_cases hlt2 : j < 17
      ·obtain ⟨g, x, rfl, hx, hc⟩ := HC.out.at_ (k := j) (by rw [← Hm.out]; exact hlt2)
       have Hx := Lib.hid hx
       have k0 : (0 : Int) ≤ (j : Int) := by omega
       have k17 : (j : Int) < 17 := by omega
       clear hx
       by_cases hp : 0 ≤ x ∧ x ≤ 256
       ·have Hp := Lib.hid hp
        clear hp
        go_wp2_with ((go_at_call 147; (with_reducible refine (inS_yes _ _ _ _ Hp.out.1 Hp.out.2).mono ?_); rintro e w' ⟨rfl, rfl⟩))
        go_roundw
        case rel =>
         refine ⟨j + 1, by omega, by go_num, Lib.hid (fun y z hy hz => ?_), by first | rfl | trivial⟩
         by_cases e : y < j
         ·exact Hal2.out y z e hz
         ·obtain rfl : y = j := by omega
          rw [Hx.out] at hz
          rw [← Option.some.inj hz]
          exact Hp.out
        case measure => simp [intOf]; omega
       ·have hp2 : x < 0 ∨ 256 < x := by omega
        have Hp := Lib.hid hp2
        have Hno := Lib.hid (colB_no (M := M) (C := C) fun h => hp ((Hd.out.1 h).2.2.2 j x Hx.out))
        clear hp hp2
        go_wp2_with ((go_at_call 147; (with_reducible refine (inS_no _ _ _ _ Hp.out).mono ?_); rintro e w' ⟨rfl, rfl⟩))
        go_ret
        exact ⟨ret_bool Hno.out.symm, HK.out⟩
      ·obtain rfl : j = 17 := by omega
       have Hyes := Lib.hid (colB_yes (M := M) (C := C) (Hd.out.2 ⟨Hn.out.symm, Hm.out.symm, HallM.out, fun y x hx => Hal2.out y x (by have := (List.getElem?_eq_some_iff.1 hx).1; have := Hm.out; omega) hx⟩))
       go_wp2_with fail
       go_ret
       exact ⟨ret_bool Hyes.out.symm, HK.out⟩
  ·have Hno := Lib.hid (colB_no (M := M) (C := C) fun h => h2 (Hm.out.trans (Hd.out.1 h).2.1))
   have h2' : ¬ (m : Int) = 17 := by omega
   subst h1
   go_enter Tryz.func126, Tryz.ntmps126
   go_wp2_with fail
   go_ret
   exact ⟨ret_bool Hno.out.symm, HK.out⟩
 ·have Hno := Lib.hid (colB_no (M := M) (C := C) fun h => h1 (Hn.out.trans (Hd.out.1 h).1))
  have h1' : ¬ (n : Int) = 9 := by omega
  go_enter Tryz.func126, Tryz.ntmps126
  go_wp2_with fail
  go_ret
  exact ⟨ret_bool Hno.out.symm, HK.out⟩
end Go.Proofs.YtnndifemkichmaaGreat
namespace Go.Proofs.YtnndifemkichmaaGreat
open Go.RowKit
theorem plc_div {W x : Nat} (y : Nat) (hx : x < W) : (y * W + x) / W = y := by
 rw [Nat.mul_comm, Nat.mul_add_div (by omega), Nat.div_eq_of_lt hx, Nat.add_zero]
theorem plc_mod {W x : Nat} (y : Nat) (hx : x < W) : (y * W + x) % W = x := by
 rw [Nat.mul_comm, Nat.mul_add_mod, Nat.mod_eq_of_lt hx]
theorem plc_iff {W x : Nat} (y k : Nat) (hx : x < W) : k = y * W + x ↔ k / W = y ∧ k % W = x := by
 constructor
 ·rintro rfl; exact ⟨plc_div y hx, plc_mod y hx⟩
 ·rintro ⟨rfl, rfl⟩; exact (plc_eq k W).symm
theorem plc_pos {W H k : Nat} (h : k < W * H) : 0 < W := by
 rcases Nat.eq_zero_or_pos W with rfl | h0
 ·simp at h
 ·exact h0
theorem mul_256 {W H : Nat} (h1 : W ≤ 16) (h2 : H ≤ 16) : W * H ≤ 256 := Nat.mul_le_mul h1 h2
end Go.Proofs.YtnndifemkichmaaGreat
namespace Go.Proofs.YtnndifemkichmaaGreat
open Go.RowKit
theorem run_append_noneI {P : Program} (w : World) (base : Nat) (t ty e : TypeId) (i : TypeInfo) (size : Nat) (ht : P.underlying t = some (.slice e)) (hi : P.info? e = some i)
  (v : Value) (n : Nat) (xs : List Value) (hown : w.ownsRow base e size v n xs) :
  (Builtin.append_ #[t, t] ty #[v, .slice none 0 0]).run P w = .ok v w := by
 rcases hown.2 with ⟨rfl, rfl⟩ | ⟨g, cap, cur, rfl, _, _, hn, _, _, _⟩
 ·simp [Builtin.append_, run_underlying ht, sizeOf, typeInfo, hi, Builtin.lenOf, Builtin.firstCells]
 ·simp [Builtin.append_, run_underlying ht, sizeOf, typeInfo, hi, Builtin.lenOf, Builtin.firstCells, loadCells, storeCells, hn]
theorem wp_appendI {o : Oper} {a : Act} {w : World} {K : Act → World → Prop} {Q : Exit → Act → World → Prop} (s x : Operand)
  (ho : o.op = .call { callee := .builtin .append, args := #[s, x], argTypes := #[31, 31] })
  (base : Nat) (v : Value) (n : Nat) (xs : List Value) (hs : a.eval s = v) (hown : w.ownsRow base 3 1 v n xs)
  (u : Value) (L : List Int) (hx : a.eval x = u) (hu : RdI w u L) (h63 : n + L.length ≤ 17592186044416) (hbase : base ≤ w.heap.size)
  (h : ∀ v' w', w'.ownsRow base 3 1 v' (n + L.length) (xs ++ intCells L) → w.grownBy w' v.ownBlock → (v'.ownBlock = v.ownBlock ∨ v'.ownBlock = some w.heap.size) → K (a.put o.dst v') w') : o.wp Tryz.prog a w K Q := by
 obtain ⟨i0, hi, hz0, hz1, hz2⟩ := info_parts infoInt
 rcases hu with ⟨rfl, rfl⟩ | ⟨g, c, rfl, hm, hlc, hc⟩
 ·have hr := run_append_noneI w base 31 o.type 3 i0 1 Tryz.underlying31 hi v n xs hown
  unfold Oper.wp execOp
  simp only [ho, resolve, invoke, builtin, Sem.run_bind, Sem.run_pure, Result.andThen_ok, List.map_toArray, List.map_cons, List.map_nil, hs, hx, hr]
  exact h v w (by simpa [intCells] using hown) ⟨rfl, rfl, rfl, Nat.le_refl _, fun _ _ _ => rfl⟩ (.inl rfl)
 ·obtain ⟨v', w', hr, h2, h3, _, h5⟩ := run_append_own_at (P := Tryz.prog) w base 31 o.type 3 i0 (.int .i64 0) 1 8 Tryz.underlying31 hi hz0 hz1 hz2 rfl (by decide) v n xs hown ⟨g, 0, none⟩ L.length c (intCells L) (by rw [intCells_length, Nat.mul_one])
   (fun j w' hj => by
    rw [intCells_get] at hj
    obtain ⟨y, hy, rfl⟩ := Option.map_eq_some_iff.1 hj
    rw [addr_add]
    exact hc j y hy) (intCells_one _) (by unfold maxLen; omega) (by omega) hbase
  unfold Oper.wp execOp
  simp only [ho, resolve, invoke, builtin, Sem.run_bind, Sem.run_pure, Result.andThen_ok, List.map_toArray, List.map_cons, List.map_nil, hs, hx, hr]
  exact h v' w' h2 h3 h5
def CloneAns (L : List Int) (w : World) (e : Ending) (w' : World) : Prop := ∃ u, e = .returned u ∧ w'.ownsRow w.heap.size 3 1 u L.length (intCells L) ∧ Below w.heap.size w w'
theorem cloneI (v : Value) (L : List Int) (w : World) (hm : L.length ≤ 2097152) (hv : RdI w v L) : Calls Tryz.prog 150 #[v] w (CloneAns L w) := by
 rcases hv with ⟨rfl, rfl⟩ | ⟨g, c, rfl, hml, hlc, hc⟩
 ·refine (Tryz.slices_Clone_int_nil 0 0 w).mono ?_
  rintro e w' ⟨rfl, rfl⟩
  exact ⟨_, rfl, World.ownsRow_nil _ _ _ _, Below.refl _ _⟩
 ·refine (Tryz.slices_Clone_int g 0 L.length c L w (Nat.le_refl _) (by omega) (fun j hj => ?_)).mono ?_
  ·rw [Nat.zero_add, List.getD_eq_getElem?_getD, List.getElem?_eq_getElem hj]
   exact hc j _ (List.getElem?_eq_getElem hj)
  ·rintro e w' ⟨u, rfl, hown, _, hb⟩
   rw [List.take_length] at hown
   exact ⟨u, rfl, hown, hb⟩
set_option maxHeartbeats 600000 in
set_option maxRecDepth 10000 in
theorem copiedI (X Y : Int) (v : Value) (L : List Int) (w : World) (hm : L.length ≤ 2097152) (hv : RdI w v L) :
  Calls Tryz.prog 144 #[.agg #[.int .i64 X, .int .i64 Y, v]] w (ImAns X Y L w) := by
 have hv2 := (hv.alloc (.cells #[.int .i64 X, .int .i64 Y, v] 149)).alloc (.cells #[.int .i64 0, .int .i64 0, .slice none 0 0] 149)
 have hC := (ImAt.new w 149 X Y v).alloc (.cells #[.int .i64 0, .int .i64 0, .slice none 0 0] 149)
 have hR : ImAt ((w.alloc (.cells #[.int .i64 X, .int .i64 Y, v] 149)).alloc (.cells #[.int .i64 0, .int .i64 0, .slice none 0 0] 149)) (w.heap.size + 1) 149 0 0 (.slice none 0 0) := ImAt.newAt (by simp) _ _ _ _
 have hw := ((Below.refl w.heap.size w).alloc (Nat.le_refl _) (.cells #[.int .i64 X, .int .i64 Y, v] 149)).alloc (by simp) (.cells #[.int .i64 0, .int .i64 0, .slice none 0 0] 149)
 obtain ⟨A, c, rfl⟩ := hv.form
 obtain ⟨n, hn⟩ : ∃ n, n = L.length := ⟨_, rfl⟩
 rw [← hn] at hv2 hC hR hw ⊢
 have Hn := Lib.hid hn
 have Hm := Lib.hid hm
 clear hv hn hm
 obtain ⟨c0, c1, c2⟩ := hC.cells
 go_enter Tryz.func144, Tryz.ntmps144
 go_wp2_with fail
 refine (cloneI _ L _ Hm.out hv2).mono ?_
 rintro e w2 ⟨u, rfl, hown, hb⟩
 obtain ⟨Au, cu, hu⟩ := ownI_shape hown
 subst hu
 have hz := hb.size
 simp at hz
 have hC := hC.call hb
 have hR := hR.call hb
 have hlt := fun g hg => (hown.lt g hg).1
 have Hown := Lib.hid hown
 have Hw := Lib.hid (hw.trans (hb.mono hw.size))
 have Hlt := Lib.hid hlt
 clear hown hb hw hv2 c0 c1 c2 hlt
 obtain ⟨c0, c1, c2⟩ := hC.cells
 obtain ⟨r0, r1, r2⟩ := hR.cells
 have cf := hC.frozen 2
 have f0 := hR.frozen 0
 have f1 := hR.frozen 1
 have f2 := hR.frozen 2
 go_wp2_with fail
 have j := (hR.far (p := ⟨w.heap.size, 2, none⟩) (by simp) (.slice Au L.length cu)).set3 X Y (.slice Au L.length cu)
 obtain ⟨x0, x1, x2⟩ := j.cells
 refine bodyPost_ret (v := .agg #[.int .i64 X, .int .i64 Y, .slice Au L.length cu]) (by simp [results, Tryz.results144, go_sem, x0, x1, x2]) rfl ⟨_, rfl, ?_, (((Hw.out.setCell (by simp) _).setCell (by simp) _).setCell (by simp) _).setCell (by simp) _⟩
 exact ownI_far (ownI_far (ownI_far (ownI_far (Hown.out.mono (by simp; omega)) (fun g hg => by have := Hlt.out g hg; simp at this ⊢; omega) _) (fun g hg => by have := Hlt.out g hg; simp at this ⊢; omega) _) (fun g hg => by have := Hlt.out g hg; simp at this ⊢; omega) _) (fun g hg => by have := Hlt.out g hg; simp at this ⊢; omega) _
end Go.Proofs.YtnndifemkichmaaGreat
namespace Go.Proofs.YtnndifemkichmaaGreat
open Go.RowKit
theorem ans_set {w W : World} {lo b n : Nat} {X Y : Int} {A : Option Addr} {c : Nat} {L : List Int} (h : W.ownsRow lo 3 1 (.slice A n c) n (intCells L)) (hn : L.length = n) (hb1 : w.heap.size ≤ b) (hb2 : b < lo) (K : Below w.heap.size w W) :
  ImAns X Y L w (.returned (.agg #[.int .i64 X, .int .i64 Y, .slice A n c])) (((W.setCell ⟨b, 0, none⟩ (.int .i64 X)).setCell ⟨b, 1, none⟩ (.int .i64 Y)).setCell ⟨b, 2, none⟩ (.slice A n c)) := by
 subst hn
 have hlt := fun g hg => (h.lt g hg).1
 exact ⟨_, rfl, ownI_far (ownI_far (ownI_far (h.mono (by omega)) (fun g hg => by have := hlt g hg; dsimp only; omega) _) (fun g hg => by have := hlt g hg; dsimp only; omega) _) (fun g hg => by have := hlt g hg; dsimp only; omega) _, ((K.setCell hb1 _).setCell hb1 _).setCell hb1 _⟩
theorem cell_grown {W V : World} {g o : Nat} {v : Value} {row : Option Nat} (h : W.cell? ⟨g, o, none⟩ = some v) (hg : W.grownBy V row) (hr : some g ≠ row) : V.cell? ⟨g, o, none⟩ = some v :=
 (World.cell?_of_block (hg.block g (World.block_lt_of_cell? W _ h) hr)).trans h
theorem grown_setI (w : World) (g o : Nat) (v : Value) : w.grownBy (w.setCell ⟨g, o, none⟩ v) (some g) :=
 ⟨rfl, rfl, rfl, by simp, fun k _ hk => Below.heap_setCell w ⟨g, o, none⟩ v k (fun e => hk (by rw [e]))⟩
theorem rd_block {w : World} {u : Value} {F : List Int} (h : RdI w u F) (h0 : 0 < F.length) : ∃ g c, u = .slice (some ⟨g, 0, none⟩) F.length c ∧ g < w.heap.size ∧ F.length ≤ c := by
 rcases h with ⟨_, rfl⟩ | ⟨g, c, rfl, hm, hlc, hc⟩
 ·simp at h0
 ·exact ⟨g, c, rfl, World.block_lt_of_cell? w _ (hc 0 _ (List.getElem?_eq_getElem h0)), hlc⟩
end Go.Proofs.YtnndifemkichmaaGreat
namespace Go.Proofs.YtnndifemkichmaaGreat
open Go.RowKit
theorem tdiv_clamp (s : Int) : clamp (s.tdiv 256) 0 255 = max 0 (min 255 (s / 256)) := by
 unfold clamp
 by_cases h : 0 ≤ s
 ·rw [Int.tdiv_eq_ediv_of_nonneg h]; omega
 ·have e : s.tdiv 256 = -((-s) / 256) := by
   rw [← Int.tdiv_eq_ediv_of_nonneg (by omega), Int.neg_tdiv, Int.neg_neg]
  rw [e]; omega
theorem tdiv_bd {s : Int} (h1 : -1000000 ≤ s) (h2 : s ≤ 1000000) : -1000000 ≤ s.tdiv 256 ∧ s.tdiv 256 ≤ 1000000 := by
 by_cases h : 0 ≤ s
 ·rw [Int.tdiv_eq_ediv_of_nonneg h]; omega
 ·have e : s.tdiv 256 = -((-s) / 256) := by
   rw [← Int.tdiv_eq_ediv_of_nonneg (by omega), Int.neg_tdiv, Int.neg_neg]
  rw [e]; omega
theorem rd_cell {W : World} {g n c k : Nat} {L : List Int} (h : RdI W (.slice (some ⟨g, 0, none⟩) n c) L) (hk : k < L.length) : W.cell? ⟨g, k, none⟩ = some (.int .i64 (L.getD k 0)) := by
 obtain ⟨g', x, e, hx, hc⟩ := h.at_ hk
 injection e with e
 injection e with e1
 subst e1
 rw [List.getD_eq_getElem?_getD, hx]
 exact hc
set_option maxHeartbeats 1000000 in
set_option maxRecDepth 10000 in
theorem mixedI (u v : Value) (M C : List Int) (row : Nat) (c0 r g b : Int) (w : World) (hok : colOk M C) (hrow : row ≤ 2) (h1 : chOk r) (h2 : chOk g) (h3 : chOk b) (hu : RdI w u M) :
  Calls Tryz.prog 236 #[.agg #[u, v], .int .i64 row, .agg #[.int .i64 c0, .int .i64 r, .int .i64 g, .int .i64 b]] w fun e w' => e = .returned (.int .i64 (mixV M row r g b)) ∧ Below w.heap.size w w' := by
 have hl := hok.1
 obtain ⟨gm, c, rfl, hgl, hcl⟩ := rd_block hu (by omega)
 obtain ⟨m0, hm0⟩ : ∃ x, x = M.getD (3 * row) 0 := ⟨_, rfl⟩
 obtain ⟨m1, hm1⟩ : ∃ x, x = M.getD (3 * row + 1) 0 := ⟨_, rfl⟩
 obtain ⟨m2, hm2⟩ : ∃ x, x = M.getD (3 * row + 2) 0 := ⟨_, rfl⟩
 have b0 := mat_pt hok (k := 3 * row) (by omega)
 have b1 := mat_pt hok (k := 3 * row + 1) (by omega)
 have b2 := mat_pt hok (k := 3 * row + 2) (by omega)
 have HV : Hid (mixV M row r g b = max 0 (min 255 ((m0 * r + m1 * g + m2 * b + 128) / 256))) := by rw [hm0, hm1, hm2]; exact rfl
 rw [← hm0] at b0
 rw [← hm1] at b1
 rw [← hm2] at b2
 obtain ⟨p0, p0'⟩ := wt_bd b0.1 b0.2 h1
 obtain ⟨p1, p1'⟩ := wt_bd b1.1 b1.2 h2
 obtain ⟨p2, p2'⟩ := wt_bd b2.1 b2.2 h3
 rw [hl] at hcl hu ⊢
 obtain ⟨w0, hw0⟩ : ∃ w0, w0 = (w.alloc (.cells #[.slice (some ⟨gm, 0, none⟩) 9 c, v] 91)).alloc (.cells #[.int .i64 c0, .int .i64 r, .int .i64 g, .int .i64 b] 240) := ⟨_, rfl⟩
 have hrd : RdI w0 (.slice (some ⟨gm, 0, none⟩) 9 c) M := by rw [hw0]; exact (hu.alloc _).alloc _
 have hB : BkAt w0 w.heap.size 91 #[.slice (some ⟨gm, 0, none⟩) 9 c, v] := by rw [hw0]; exact (BkAt.new _ _ _).alloc _
 have hG : ChAt w0 (w.heap.size + 1) c0 r g b := by rw [hw0]; exact ChAt.newAt (by simp) _ _ _ _
 have K : Below w.heap.size w w0 := by rw [hw0]; exact belI_call (belI_box _ _) (belI_box _ _)
 have k0 : w0.cell? ⟨gm, 3 * row, none⟩ = some (.int .i64 m0) := by rw [hm0]; exact rd_cell hrd (by omega)
 have k1 : w0.cell? ⟨gm, 3 * row + 1, none⟩ = some (.int .i64 m1) := by rw [hm1]; exact rd_cell hrd (by omega)
 have k2 : w0.cell? ⟨gm, 3 * row + 2, none⟩ = some (.int .i64 m2) := by rw [hm2]; exact rd_cell hrd (by omega)
 have HW := Lib.hid hw0
 have HK := Lib.hid K
 have d0 := hB.cell 0 rfl
 have d1 := hB.cell 1 rfl
 obtain ⟨e0, e1, e2, e3⟩ := hG.cells
 have HS := Lib.hid (tdiv_bd (s := 128 + m0 * r + m1 * g + m2 * b) (by omega) (by omega))
 clear hm0 hm1 hm2 b0 b1 b2 hl hok hu hrd hB hG K h1 h2 h3 hgl
 rw [hw0] at d0 d1 e0 e1 e2 e3 k0 k1 k2
 clear hw0
 obtain rfl | rfl | rfl : row = 0 ∨ row = 1 ∨ row = 2 := by omega
 all_goals
  go_enter Tryz.func236, Tryz.ntmps236
  go_wp2_with fail
  rw [← HW.out] at d0 d1 e0 e1 e2 e3 k0 k1 k2 ⊢
  go_loopw [7, 19] (fun s i wr => ∃ (k : Nat) (t : Int), k ≤ 3 ∧ i = .int .i64 k ∧ s = .int .i64 t ∧ Hid (t = 128 + (if 0 < k then m0 * r else 0) + (if 1 < k then m1 * g else 0) + (if 2 < k then m2 * b else 0)) ∧ wr = w0) (fun _ i _ => 3 - (intOf i).toNat)
  case atStart => exact ⟨0, 128, by omega, rfl, rfl, Lib.hid rfl, rfl⟩
  case round =>
   obtain ⟨k, t, hk, rfl, rfl, Ht, rfl⟩ := hrel
   obtain rfl | rfl | rfl | rfl : k = 0 ∨ k = 1 ∨ k = 2 ∨ k = 3 := by omega
   ·obtain rfl : t = 128 := by simpa using Ht.out
    go_wp2_with fail
    go_roundw
    case rel => exact ⟨1, _, by omega, rfl, rfl, Lib.hid (by simp), by first | rfl | trivial⟩
    case measure => simp [intOf]
   ·obtain rfl : t = 128 + m0 * r := by simpa using Ht.out
    go_wp2_with fail
    go_roundw
    case rel => exact ⟨2, _, by omega, rfl, rfl, Lib.hid (by simp), by first | rfl | trivial⟩
    case measure => simp [intOf]
   ·obtain rfl : t = 128 + m0 * r + m1 * g := by simpa using Ht.out
    go_wp2_with fail
    go_roundw
    case rel => exact ⟨3, _, by omega, rfl, rfl, Lib.hid (by simp), by first | rfl | trivial⟩
    case measure => simp [intOf]
   ·obtain rfl : t = 128 + m0 * r + m1 * g + m2 * b := by simpa using Ht.out
    go_wp2_with fail
    refine (clampI _ 0 255 _).mono ?_
    rintro e w' ⟨rfl, rfl⟩
    go_wp2_with fail
    go_ret
    exact ⟨ret_int (by rw [tdiv_clamp, HV.out, show 128 + m0 * r + m1 * g + m2 * b = m0 * r + m1 * g + m2 * b + 128 by omega]), HK.out⟩
set_option maxHeartbeats 1000000 in
set_option maxRecDepth 10000 in
theorem curvedI (u v : Value) (M C : List Int) (x : Nat) (w : World) (hok : colOk M C) (hx : x ≤ 255) (hv : RdI w v C) :
  Calls Tryz.prog 235 #[.agg #[u, v], .int .i64 x] w fun e w' => e = .returned (.int .i64 (curV C x)) ∧ Below w.heap.size w w' := by
 have hl := hok.2.1
 obtain ⟨gm, c, rfl, hgl, hcl⟩ := rd_block hv (by omega)
 obtain ⟨k, hk⟩ : ∃ k, k = x / 16 := ⟨_, rfl⟩
 obtain ⟨t, ht⟩ : ∃ t, t = x % 16 := ⟨_, rfl⟩
 have k16 : k ≤ 15 := by omega
 have t16 : t ≤ 15 := by omega
 obtain ⟨a, ha⟩ : ∃ a, a = C.getD k 0 := ⟨_, rfl⟩
 obtain ⟨b, hb⟩ : ∃ b, b = C.getD (k + 1) 0 := ⟨_, rfl⟩
 have p := cur_pt hok (k := k) (by omega)
 have q := cur_pt hok (k := k + 1) (by omega)
 rw [← ha] at p
 rw [← hb] at q
 obtain ⟨s0, s1⟩ := cur_bd p.1 p.2 q.1 q.2 (t := (t : Int)) (by omega) (by omega)
 have HV : Hid (curV C x = min 255 (curL a b t)) := by unfold curV; rw [← hk, ← ht, ← ha, ← hb]; exact rfl
 obtain ⟨p0, p1⟩ := p
 obtain ⟨q0, q1⟩ := q
 rw [hl] at hcl hv ⊢
 obtain ⟨w0, hw0⟩ : ∃ w0, w0 = w.alloc (.cells #[u, .slice (some ⟨gm, 0, none⟩) 17 c] 91) := ⟨_, rfl⟩
 have hrd : RdI w0 (.slice (some ⟨gm, 0, none⟩) 17 c) C := by rw [hw0]; exact hv.alloc _
 have hB : BkAt w0 w.heap.size 91 #[u, .slice (some ⟨gm, 0, none⟩) 17 c] := by rw [hw0]; exact BkAt.new _ _ _
 have K : Below w.heap.size w w0 := by rw [hw0]; exact belI_box _ _
 have k0 : w0.cell? ⟨gm, k, none⟩ = some (.int .i64 a) := by rw [ha]; exact rd_cell hrd (by omega)
 have k1 : w0.cell? ⟨gm, k + 1, none⟩ = some (.int .i64 b) := by rw [hb]; exact rd_cell hrd (by omega)
 have d1 : w0.cell? ⟨w.heap.size, 1, none⟩ = some (.slice (some ⟨gm, 0, none⟩) 17 c) := hB.cell 1 rfl
 have HW := Lib.hid hw0
 have HK := Lib.hid K
 have Hk := Lib.hid hk
 have Ht := Lib.hid ht
 clear ha hb hl hok hv hrd hB K hgl hk ht
 rw [hw0] at d1 k0 k1
 clear hw0
 go_enter Tryz.func235, Tryz.ntmps235
 go_upto_region 2 with fail
 rw [show (x : Int) / 16 = (k : Int) from by have := Hk.out; omega, show (x : Int) % 16 = (t : Int) from by have := Ht.out; omega]
 rw [← HW.out] at d1 k0 k1 ⊢
 have k1' : (k : Int) + 1 ≤ 16 := by omega
 have k0' : (0 : Int) ≤ (k : Int) := by omega
 have kt : ((k : Int) + 1).toNat = k + 1 := by omega
 go_quiet (fail)
 go_wp2_with fail
 go_ret
 exact ⟨ret_int (by rw [HV.out]; unfold curL; omega), below_drewN HK.out _⟩
end Go.Proofs.YtnndifemkichmaaGreat
namespace Go.Proofs.YtnndifemkichmaaGreat
open Go.RowKit
theorem CmB.grown {b : Nat} {u v : Value} {M C : List Int} {W W' : World} {row : Option Nat} (h : CmB b u v M C W) (hg : W.grownBy W' row) (h1 : some b ≠ row) (h2 : ∀ k, u.ownBlock = some k → some k ≠ row) (h3 : ∀ k, v.ownBlock = some k → some k ≠ row) : CmB b u v M C W' :=
 ⟨h.at_.grown hg h1, h.rm.grown hg h2, h.rc.grown hg h3⟩
theorem rd_lt {w : World} {u : Value} {L : List Int} (h : RdI w u L) (h0 : 0 < L.length) : ∀ k, u.ownBlock = some k → k < w.heap.size := by
 obtain ⟨gm, c, rfl, hl, _⟩ := rd_block h h0
 intro k hk
 have e : gm = k := by simpa [Value.ownBlock] using hk
 omega
structure CoS (w : World) (b g : Nat) (u v : Value) (M C : List Int) (c0 c1 c2 c3 : Int) (V : World) : Prop where
 cm : CmB b u v M C V
 un : ChAt V g c0 c1 c2 c3
 bw : Below w.heap.size w V
theorem CoS.call {w : World} {b g : Nat} {u v : Value} {M C : List Int} {c0 c1 c2 c3 : Int} {V V' : World} (h : CoS w b g u v M C c0 c1 c2 c3 V) (hb : Below V.heap.size V V') : CoS w b g u v M C c0 c1 c2 c3 V' := ⟨h.cm.call hb, h.un.call hb, belI_call h.bw hb⟩
theorem CoS.drew {w : World} {b g : Nat} {u v : Value} {M C : List Int} {c0 c1 c2 c3 : Int} {V : World} (h : CoS w b g u v M C c0 c1 c2 c3 V) : CoS w b g u v M C c0 c1 c2 c3 V.drew := h.call (belI_drew _)
theorem CoS.set {w : World} {b g : Nat} {u v : Value} {M C : List Int} {c0 c1 c2 c3 : Int} {V V' : World} (h : CoS w b g u v M C c0 c1 c2 c3 V) (hn : w.heap.size ≤ g ∧ b < g ∧ (∀ k, u.ownBlock = some k → k < g) ∧ ∀ k, v.ownBlock = some k → k < g) (hg : V.grownBy V' (some (g + 1))) : CoS w b g u v M C c0 c1 c2 c3 V' :=
 ⟨h.cm.grown hg (fun e => by injection e with e; omega) (fun k hk e => by have := hn.2.2.1 k hk; injection e with e; omega) (fun k hk e => by have := hn.2.2.2 k hk; injection e with e; omega), (hg.block _ h.un.lt (fun e => by injection e with e; omega)).trans h.un, h.bw.grown hg h.bw.size (fun k hk => by injection hk with hk; omega)⟩
theorem corrI (u v : Value) (w : World) :
  Calls Tryz.prog 192 #[.agg #[u, v]] w fun e w' => e = .returned (.func (.func 234) #[] #[.pointer (some ⟨w.heap.size, 0, none⟩)]) ∧ w' = w.alloc (.cells #[u, v] 91) := by
 have hmf : ∀ (fn : Fn) (first cap : Array Value) (w : World), (Instr.makeFunc fn first cap).run Tryz.prog w = .ok (.func fn first cap) w := fun _ _ _ _ => rfl
 go_enter Tryz.func192, Tryz.ntmps192
 go_wp2_with fail
 go_ret
 exact ⟨rfl, rfl⟩
set_option maxHeartbeats 2000000 in
set_option maxRecDepth 10000 in
theorem cloI (b : Nat) (u v : Value) (M C : List Int) (p : Int) (w : World) (hok : colOk M C) (hp : pixOk p) (hB : CmB b u v M C w) :
  Calls Tryz.prog 234 #[.int .i64 p, .pointer (some ⟨b, 0, none⟩)] w fun e w' => e = .returned (.int .i64 (corK M C p)) ∧ Below w.heap.size w w' := by
 obtain ⟨c0, h0⟩ : ∃ x, x = p / 16777216 := ⟨_, rfl⟩
 obtain ⟨c1, h1⟩ : ∃ x, x = p / 65536 % 256 := ⟨_, rfl⟩
 obtain ⟨c2, h2⟩ : ∃ x, x = p / 256 % 256 := ⟨_, rfl⟩
 obtain ⟨c3, h3⟩ : ∃ x, x = p % 256 := ⟨_, rfl⟩
 have HU := Lib.hid (unpackedI p hp)
 have k0 : chOk c0 := by rw [h0]; exact ch_0 hp
 have k1 : chOk c1 := by rw [h1]; exact ch_1 p
 have k2 : chOk c2 := by rw [h2]; exact ch_2 p
 have k3 : chOk c3 := by rw [h3]; exact ch_3 p
 have HK : Hid (corK M C p = pack4 c0 (curV C (mixV M 0 c1 c2 c3).toNat) (curV C (mixV M 1 c1 c2 c3).toNat) (curV C (mixV M 2 c1 c2 c3).toNat)) := by unfold corK corC; rw [← h0, ← h1, ← h2, ← h3]; exact rfl
 rw [← h0, ← h1, ← h2, ← h3] at HU
 obtain ⟨m0, hm0⟩ : ∃ m : Nat, m = (mixV M 0 c1 c2 c3).toNat := ⟨_, rfl⟩
 have hx0 := mix_ch M 0 c1 c2 c3
 have hy0 : m0 ≤ 255 ∧ mixV M 0 c1 c2 c3 = (m0 : Int) := by unfold chOk at hx0; omega
 have HM0 := fun (W : World) (h : RdI W u M) => mixedI u v M C 0 c0 c1 c2 c3 W hok (by omega) k1 k2 k3 h
 have HC0 := fun (W : World) (h : RdI W v C) => curvedI u v M C m0 W hok hy0.1 h
 have kq0 := cur_ch hok hy0.1
 obtain ⟨q0, hq0⟩ : ∃ q, q = curV C m0 := ⟨_, rfl⟩
 rw [hy0.2, show ((0 : Nat) : Int) = 0 from rfl] at HM0
 rw [← hq0] at HC0 kq0
 rw [← hm0, ← hq0] at HK
 replace HM0 := Lib.hid HM0
 replace HC0 := Lib.hid HC0
 have Hq0 := Lib.hid kq0
 obtain ⟨m1, hm1⟩ : ∃ m : Nat, m = (mixV M 1 c1 c2 c3).toNat := ⟨_, rfl⟩
 have hx1 := mix_ch M 1 c1 c2 c3
 have hy1 : m1 ≤ 255 ∧ mixV M 1 c1 c2 c3 = (m1 : Int) := by unfold chOk at hx1; omega
 have HM1 := fun (W : World) (h : RdI W u M) => mixedI u v M C 1 c0 c1 c2 c3 W hok (by omega) k1 k2 k3 h
 have HC1 := fun (W : World) (h : RdI W v C) => curvedI u v M C m1 W hok hy1.1 h
 have kq1 := cur_ch hok hy1.1
 obtain ⟨q1, hq1⟩ : ∃ q, q = curV C m1 := ⟨_, rfl⟩
 rw [hy1.2, show ((1 : Nat) : Int) = 1 from rfl] at HM1
 rw [← hq1] at HC1 kq1
 rw [← hm1, ← hq1] at HK
 replace HM1 := Lib.hid HM1
 replace HC1 := Lib.hid HC1
 have Hq1 := Lib.hid kq1
 obtain ⟨m2, hm2⟩ : ∃ m : Nat, m = (mixV M 2 c1 c2 c3).toNat := ⟨_, rfl⟩
 have hx2 := mix_ch M 2 c1 c2 c3
 have hy2 : m2 ≤ 255 ∧ mixV M 2 c1 c2 c3 = (m2 : Int) := by unfold chOk at hx2; omega
 have HM2 := fun (W : World) (h : RdI W u M) => mixedI u v M C 2 c0 c1 c2 c3 W hok (by omega) k1 k2 k3 h
 have HC2 := fun (W : World) (h : RdI W v C) => curvedI u v M C m2 W hok hy2.1 h
 have kq2 := cur_ch hok hy2.1
 obtain ⟨q2, hq2⟩ : ∃ q, q = curV C m2 := ⟨_, rfl⟩
 rw [hy2.2, show ((2 : Nat) : Int) = 2 from rfl] at HM2
 rw [← hq2] at HC2 kq2
 rw [← hm2, ← hq2] at HK
 replace HM2 := Lib.hid HM2
 replace HC2 := Lib.hid HC2
 have Hq2 := Lib.hid kq2
 have Hk0 := Lib.hid k0
 have hsep0 := Lib.hid (show (∀ k, u.ownBlock = some k → k < w.heap.size) ∧ ∀ k, v.ownBlock = some k → k < w.heap.size from ⟨rd_lt hB.rm (by rw [hok.1]; decide), rd_lt hB.rc (by rw [hok.2.1]; decide)⟩)
 have hbl := hB.lt
 clear h0 h1 h2 h3 k0 k1 k2 k3 hm0 hm1 hm2 hx0 hx1 hx2 hy0 hy1 hy2 hq0 hq1 hq2 kq0 kq1 kq2 hok hp
 go_enter Tryz.func234, Tryz.ntmps234
 go_wp2_with fail
 refine (HU.out _).mono ?_
 rintro e w1 ⟨rfl, hb⟩
 have HB := Lib.hid (hB.call hb)
 have Hb := Lib.hid hb
 clear hB hb
 obtain ⟨g, hg⟩ : ∃ g, g = w1.heap.size := ⟨_, rfl⟩
 have Hg := Lib.hid hg
 have hsep : w.heap.size ≤ g ∧ b < g ∧ (∀ k, u.ownBlock = some k → k < g) ∧ ∀ k, v.ownBlock = some k → k < g := by
  rw [hg]
  exact ⟨Hb.out.size, Nat.lt_of_lt_of_le hbl Hb.out.size, fun k hk => Nat.lt_of_lt_of_le (hsep0.out.1 k hk) Hb.out.size, fun k hk => Nat.lt_of_lt_of_le (hsep0.out.2 k hk) Hb.out.size⟩
 have Hsep := Lib.hid hsep
 go_wp2_with fail
 rw [← hg]
 clear hsep hbl hsep0
 go_loopw [10] (fun i wr => ∃ (k : Nat) (x1 x2 x3 : Int), k ≤ 3 ∧ i = .int .i64 k ∧ Hid (x1 = (if 0 < k then q0 else c1) ∧ x2 = (if 1 < k then q1 else c2) ∧ x3 = (if 2 < k then q2 else c3)) ∧
  ChAt wr g c0 c1 c2 c3 ∧ ChAt wr (g + 1) c0 x1 x2 x3 ∧ CmB b u v M C wr ∧ Below w.heap.size w wr) (fun i _ => 3 - (intOf i).toNat)
 case atStart => exact ⟨0, c1, c2, c3, by omega, rfl, ⟨rfl, rfl, rfl⟩, (ChAt.newAt hg.symm c0 c1 c2 c3).alloc _, ChAt.newAt (by simp [hg]) c0 c1 c2 c3, (HB.out.call (belI_box _ _)).call (belI_box _ _), belI_call (belI_call Hb.out (belI_box _ _)) (belI_box _ _)⟩
 case round =>
  obtain ⟨k, x1, x2, x3, hk, rfl, Hc, hun, hcor, hcm, hbw⟩ := hrel
  have hsep := Hsep.out
  have hT : CoS w b g u v M C c0 c1 c2 c3 wr := ⟨hcm, hun, hbw⟩
  clear hg
  obtain rfl | rfl | rfl | rfl : k = 0 ∨ k = 1 ∨ k = 2 ∨ k = 3 := by omega
  ·obtain ⟨y1, y2, y3⟩ : x1 = c1 ∧ x2 = c2 ∧ x3 = c3 := by simpa using Hc.out
   subst x1 x2 x3
   go_upto_region 6 with fail
   clear hun hcm hbw Hc
   have wk1 : IntKind.i64.wrap 1 = 1 := by rfl
   refine wp_region_held_drew (S := fun V => CoS w b g u v M C c0 c1 c2 c3 V) (by kernel_rfl) hT.drew (fun hS => ?_)
   replace hcor := hcor.drew
   refine tcH (i := 0) (v := .int .i64 0) rfl (by intro w' hSw; (try dsimp only at hSw); (obtain ⟨a0, a1⟩ := hSw.cm.cells); (obtain ⟨o0, o1, o2, o3⟩ := hSw.un.cells); go_simp) ?_
   refine tcH (i := 1) (v := .int .i64 1) rfl (by intro w' hSw; (try dsimp only at hSw); (obtain ⟨a0, a1⟩ := hSw.cm.cells); (obtain ⟨o0, o1, o2, o3⟩ := hSw.un.cells); go_simp) ?_
   refine tcH (i := 2) (v := .agg #[u, v]) rfl (by intro w' hSw; (try dsimp only at hSw); (obtain ⟨a0, a1⟩ := hSw.cm.cells); (obtain ⟨o0, o1, o2, o3⟩ := hSw.un.cells); go_simp) ?_
   refine tcH (i := 3) (v := .agg #[u, v]) rfl (by intro w' hSw; (try dsimp only at hSw); (obtain ⟨a0, a1⟩ := hSw.cm.cells); (obtain ⟨o0, o1, o2, o3⟩ := hSw.un.cells); go_simp) ?_
   refine tcH (i := 4) (v := .int .i64 0) rfl (by intro w' hSw; (try dsimp only at hSw); (obtain ⟨a0, a1⟩ := hSw.cm.cells); (obtain ⟨o0, o1, o2, o3⟩ := hSw.un.cells); go_simp) ?_
   refine tcH (i := 5) (v := .agg #[.int .i64 c0, .int .i64 c1, .int .i64 c2, .int .i64 c3]) rfl (by intro w' hSw; (try dsimp only at hSw); (obtain ⟨a0, a1⟩ := hSw.cm.cells); (obtain ⟨o0, o1, o2, o3⟩ := hSw.un.cells); go_simp) ?_
   (try simp only [Act.put]); (try simp only [zPa]); (try simp only [zPb, zPc])
   refine wpAnyH_ready (rs := [6]) (by kernel_rfl) (by simp) ?_
   refine (AllReadyH.cons rfl (fun K hK => ?_) AllReadyH.nil)
   ·rw [if_pos (by kernel_rfl)]
    (try simp only [zGa]); (try simp only [zGb]); (try simp only [zGc])
    go_simp
    with_reducible refine (HM0.out _ hS.cm.rm).mono ?_
    rintro e W' ⟨rfl, hb⟩
    dsimp only
    have hcor := hcor.call hb
    refine hK.out _ _ (hS.call hb) (fun hS => ?_)
    clear hK
    (try simp only [Act.put]); (try simp only [zPa]); (try simp only [zPb, zPc])
    refine wpAnyH_ready (rs := [7]) (by kernel_rfl) (by simp) ?_
    refine (AllReadyH.cons rfl (fun K hK => ?_) AllReadyH.nil)
    ·rw [if_pos (by kernel_rfl)]
     (try simp only [zGa]); (try simp only [zGb]); (try simp only [zGc])
     go_simp
     with_reducible refine (HC0.out _ hS.cm.rc).mono ?_
     rintro e W' ⟨rfl, hb⟩
     dsimp only
     have cS := (hcor.call hb).cells.2.1
     have fS := (hcor.call hb).frozen 1
     have hcor := hcor.call hb
     refine hK.out _ _ (hS.call hb) (fun hS => ?_)
     clear hK
     (try simp only [Act.put]); (try simp only [zPa]); (try simp only [zPb, zPc])
     refine tcH (i := 8) (v := .pointer (some ⟨g + 1, 1, none⟩)) rfl (by intro w' hSw; (try dsimp only at hSw); (obtain ⟨a0, a1⟩ := hSw.cm.cells); (obtain ⟨o0, o1, o2, o3⟩ := hSw.un.cells); go_simp) ?_
     (try simp only [Act.put]); (try simp only [zPa]); (try simp only [zPb, zPc])
     refine wpAnyH_ready (rs := [9]) (by kernel_rfl) (by simp) ?_
     refine (AllReadyH.cons rfl (fun K hK => ?_) AllReadyH.nil)
     ·rw [if_pos (by kernel_rfl)]
      (try simp only [zGa]); (try simp only [zGb]); (try simp only [zGc])
      go_simp
      skip
      refine hK.out _ _ (hS.set hsep (grown_setI _ (g + 1) 1 _)) (fun hS => ?_)
      clear hK
      (try simp only [Act.put]); (try simp only [zPa]); (try simp only [zPb, zPc])
      refine wpAnyH_done (by kernel_rfl) ?_ _
      go_wp2_with fail
      go_roundw
      case rel => exact ⟨1, _, _, _, by omega, rfl, Lib.hid ⟨rfl, rfl, rfl⟩, hS.un, hcor.set1 _, hS.cm, hS.bw⟩
      case measure => simp [intOf]
  ·obtain ⟨y1, y2, y3⟩ : x1 = q0 ∧ x2 = c2 ∧ x3 = c3 := by simpa using Hc.out
   subst x1 x2 x3
   go_upto_region 6 with fail
   clear hun hcm hbw Hc
   have wk1 : IntKind.i64.wrap 2 = 2 := by rfl
   refine wp_region_held_drew (S := fun V => CoS w b g u v M C c0 c1 c2 c3 V) (by kernel_rfl) hT.drew (fun hS => ?_)
   replace hcor := hcor.drew
   refine tcH (i := 0) (v := .int .i64 1) rfl (by intro w' hSw; (try dsimp only at hSw); (obtain ⟨a0, a1⟩ := hSw.cm.cells); (obtain ⟨o0, o1, o2, o3⟩ := hSw.un.cells); go_simp) ?_
   refine tcH (i := 1) (v := .int .i64 2) rfl (by intro w' hSw; (try dsimp only at hSw); (obtain ⟨a0, a1⟩ := hSw.cm.cells); (obtain ⟨o0, o1, o2, o3⟩ := hSw.un.cells); go_simp) ?_
   refine tcH (i := 2) (v := .agg #[u, v]) rfl (by intro w' hSw; (try dsimp only at hSw); (obtain ⟨a0, a1⟩ := hSw.cm.cells); (obtain ⟨o0, o1, o2, o3⟩ := hSw.un.cells); go_simp) ?_
   refine tcH (i := 3) (v := .agg #[u, v]) rfl (by intro w' hSw; (try dsimp only at hSw); (obtain ⟨a0, a1⟩ := hSw.cm.cells); (obtain ⟨o0, o1, o2, o3⟩ := hSw.un.cells); go_simp) ?_
   refine tcH (i := 4) (v := .int .i64 1) rfl (by intro w' hSw; (try dsimp only at hSw); (obtain ⟨a0, a1⟩ := hSw.cm.cells); (obtain ⟨o0, o1, o2, o3⟩ := hSw.un.cells); go_simp) ?_
   refine tcH (i := 5) (v := .agg #[.int .i64 c0, .int .i64 c1, .int .i64 c2, .int .i64 c3]) rfl (by intro w' hSw; (try dsimp only at hSw); (obtain ⟨a0, a1⟩ := hSw.cm.cells); (obtain ⟨o0, o1, o2, o3⟩ := hSw.un.cells); go_simp) ?_
   (try simp only [Act.put]); (try simp only [zPa]); (try simp only [zPb, zPc])
   refine wpAnyH_ready (rs := [6]) (by kernel_rfl) (by simp) ?_
   refine (AllReadyH.cons rfl (fun K hK => ?_) AllReadyH.nil)
   ·rw [if_pos (by kernel_rfl)]
    (try simp only [zGa]); (try simp only [zGb]); (try simp only [zGc])
    go_simp
    with_reducible refine (HM1.out _ hS.cm.rm).mono ?_
    rintro e W' ⟨rfl, hb⟩
    dsimp only
    have hcor := hcor.call hb
    refine hK.out _ _ (hS.call hb) (fun hS => ?_)
    clear hK
    (try simp only [Act.put]); (try simp only [zPa]); (try simp only [zPb, zPc])
    refine wpAnyH_ready (rs := [7]) (by kernel_rfl) (by simp) ?_
    refine (AllReadyH.cons rfl (fun K hK => ?_) AllReadyH.nil)
    ·rw [if_pos (by kernel_rfl)]
     (try simp only [zGa]); (try simp only [zGb]); (try simp only [zGc])
     go_simp
     with_reducible refine (HC1.out _ hS.cm.rc).mono ?_
     rintro e W' ⟨rfl, hb⟩
     dsimp only
     have cS := (hcor.call hb).cells.2.2.1
     have fS := (hcor.call hb).frozen 2
     have hcor := hcor.call hb
     refine hK.out _ _ (hS.call hb) (fun hS => ?_)
     clear hK
     (try simp only [Act.put]); (try simp only [zPa]); (try simp only [zPb, zPc])
     refine tcH (i := 8) (v := .pointer (some ⟨g + 1, 2, none⟩)) rfl (by intro w' hSw; (try dsimp only at hSw); (obtain ⟨a0, a1⟩ := hSw.cm.cells); (obtain ⟨o0, o1, o2, o3⟩ := hSw.un.cells); go_simp) ?_
     (try simp only [Act.put]); (try simp only [zPa]); (try simp only [zPb, zPc])
     refine wpAnyH_ready (rs := [9]) (by kernel_rfl) (by simp) ?_
     refine (AllReadyH.cons rfl (fun K hK => ?_) AllReadyH.nil)
     ·rw [if_pos (by kernel_rfl)]
      (try simp only [zGa]); (try simp only [zGb]); (try simp only [zGc])
      go_simp
      skip
      refine hK.out _ _ (hS.set hsep (grown_setI _ (g + 1) 2 _)) (fun hS => ?_)
      clear hK
      (try simp only [Act.put]); (try simp only [zPa]); (try simp only [zPb, zPc])
      refine wpAnyH_done (by kernel_rfl) ?_ _
      go_wp2_with fail
      go_roundw
      case rel => exact ⟨2, _, _, _, by omega, rfl, Lib.hid ⟨rfl, rfl, rfl⟩, hS.un, hcor.set2 _, hS.cm, hS.bw⟩
      case measure => simp [intOf]
  ·obtain ⟨y1, y2, y3⟩ : x1 = q0 ∧ x2 = q1 ∧ x3 = c3 := by simpa using Hc.out
   subst x1 x2 x3
   go_upto_region 6 with fail
   clear hun hcm hbw Hc
   have wk1 : IntKind.i64.wrap 3 = 3 := by rfl
   refine wp_region_held_drew (S := fun V => CoS w b g u v M C c0 c1 c2 c3 V) (by kernel_rfl) hT.drew (fun hS => ?_)
   replace hcor := hcor.drew
   refine tcH (i := 0) (v := .int .i64 2) rfl (by intro w' hSw; (try dsimp only at hSw); (obtain ⟨a0, a1⟩ := hSw.cm.cells); (obtain ⟨o0, o1, o2, o3⟩ := hSw.un.cells); go_simp) ?_
   refine tcH (i := 1) (v := .int .i64 3) rfl (by intro w' hSw; (try dsimp only at hSw); (obtain ⟨a0, a1⟩ := hSw.cm.cells); (obtain ⟨o0, o1, o2, o3⟩ := hSw.un.cells); go_simp) ?_
   refine tcH (i := 2) (v := .agg #[u, v]) rfl (by intro w' hSw; (try dsimp only at hSw); (obtain ⟨a0, a1⟩ := hSw.cm.cells); (obtain ⟨o0, o1, o2, o3⟩ := hSw.un.cells); go_simp) ?_
   refine tcH (i := 3) (v := .agg #[u, v]) rfl (by intro w' hSw; (try dsimp only at hSw); (obtain ⟨a0, a1⟩ := hSw.cm.cells); (obtain ⟨o0, o1, o2, o3⟩ := hSw.un.cells); go_simp) ?_
   refine tcH (i := 4) (v := .int .i64 2) rfl (by intro w' hSw; (try dsimp only at hSw); (obtain ⟨a0, a1⟩ := hSw.cm.cells); (obtain ⟨o0, o1, o2, o3⟩ := hSw.un.cells); go_simp) ?_
   refine tcH (i := 5) (v := .agg #[.int .i64 c0, .int .i64 c1, .int .i64 c2, .int .i64 c3]) rfl (by intro w' hSw; (try dsimp only at hSw); (obtain ⟨a0, a1⟩ := hSw.cm.cells); (obtain ⟨o0, o1, o2, o3⟩ := hSw.un.cells); go_simp) ?_
   (try simp only [Act.put]); (try simp only [zPa]); (try simp only [zPb, zPc])
   refine wpAnyH_ready (rs := [6]) (by kernel_rfl) (by simp) ?_
   refine (AllReadyH.cons rfl (fun K hK => ?_) AllReadyH.nil)
   ·rw [if_pos (by kernel_rfl)]
    (try simp only [zGa]); (try simp only [zGb]); (try simp only [zGc])
    go_simp
    with_reducible refine (HM2.out _ hS.cm.rm).mono ?_
    rintro e W' ⟨rfl, hb⟩
    dsimp only
    have hcor := hcor.call hb
    refine hK.out _ _ (hS.call hb) (fun hS => ?_)
    clear hK
    (try simp only [Act.put]); (try simp only [zPa]); (try simp only [zPb, zPc])
    refine wpAnyH_ready (rs := [7]) (by kernel_rfl) (by simp) ?_
    refine (AllReadyH.cons rfl (fun K hK => ?_) AllReadyH.nil)
    ·rw [if_pos (by kernel_rfl)]
     (try simp only [zGa]); (try simp only [zGb]); (try simp only [zGc])
     go_simp
     with_reducible refine (HC2.out _ hS.cm.rc).mono ?_
     rintro e W' ⟨rfl, hb⟩
     dsimp only
     have cS := (hcor.call hb).cells.2.2.2
     have fS := (hcor.call hb).frozen 3
     have hcor := hcor.call hb
     refine hK.out _ _ (hS.call hb) (fun hS => ?_)
     clear hK
     (try simp only [Act.put]); (try simp only [zPa]); (try simp only [zPb, zPc])
     refine tcH (i := 8) (v := .pointer (some ⟨g + 1, 3, none⟩)) rfl (by intro w' hSw; (try dsimp only at hSw); (obtain ⟨a0, a1⟩ := hSw.cm.cells); (obtain ⟨o0, o1, o2, o3⟩ := hSw.un.cells); go_simp) ?_
     (try simp only [Act.put]); (try simp only [zPa]); (try simp only [zPb, zPc])
     refine wpAnyH_ready (rs := [9]) (by kernel_rfl) (by simp) ?_
     refine (AllReadyH.cons rfl (fun K hK => ?_) AllReadyH.nil)
     ·rw [if_pos (by kernel_rfl)]
      (try simp only [zGa]); (try simp only [zGb]); (try simp only [zGc])
      go_simp
      skip
      refine hK.out _ _ (hS.set hsep (grown_setI _ (g + 1) 3 _)) (fun hS => ?_)
      clear hK
      (try simp only [Act.put]); (try simp only [zPa]); (try simp only [zPb, zPc])
      refine wpAnyH_done (by kernel_rfl) ?_ _
      go_wp2_with fail
      go_roundw
      case rel => exact ⟨3, _, _, _, by omega, rfl, Lib.hid ⟨rfl, rfl, rfl⟩, hS.un, hcor.set3 _, hS.cm, hS.bw⟩
      case measure => simp [intOf]
  ·obtain ⟨y1, y2, y3⟩ : x1 = q0 ∧ x2 = q1 ∧ x3 = q2 := by simpa using Hc.out
   subst x1 x2 x3
   obtain ⟨o0, o1, o2, o3⟩ := hcor.cells
   have HW := Lib.hid hbw
   clear hun hcm hbw Hc hT hcor
   go_wp2_with fail
   refine (packedI c0 q0 q1 q2 Hk0.out Hq0.out Hq1.out Hq2.out _).mono ?_
   rintro e w2 ⟨rfl, hb⟩
   go_wp2_with fail
   go_ret
   exact ⟨ret_int HK.out.symm, belI_call HW.out hb⟩
end Go.Proofs.YtnndifemkichmaaGreat
namespace Go.Proofs.YtnndifemkichmaaGreat
open Go.RowKit
theorem part_nat (r : Rc) (M2 M : Nat) (a1 : 1 ≤ M2) (a2 : M2 ≤ 16) (b1 : 1 ≤ M) (b2 : M ≤ 16) :
  ∃ X Y n h : Nat, isect r ⟨0, 0, M2, M⟩ = ⟨X, Y, n, h⟩ ∧ X + n ≤ M2 ∧ Y + h ≤ M ∧ (h = 0 ∨ 1 ≤ n) ∧ ∀ p q : Nat, ((X ≤ p ∧ p < X + n ∧ Y ≤ q ∧ q < Y + h) ↔ (hasB r p q = true ∧ p < M2 ∧ q < M)) := by
 have hf : (⟨0, 0, M2, M⟩ : Rc).ok := by unfold Rc.ok; dsimp only; omega
 by_cases ho : r.ok
 ·rcases isect_cases r _ ho hf with ⟨hi, e⟩ | ⟨hi, e⟩
  ·rw [e]
   unfold isectRaw
   unfold isectIn at hi
   dsimp only at hi ⊢
   obtain ⟨X, hX⟩ := Int.eq_ofNat_of_zero_le (show 0 ≤ max r.x 0 by omega)
   obtain ⟨Y, hY⟩ := Int.eq_ofNat_of_zero_le (show 0 ≤ max r.y 0 by omega)
   obtain ⟨n, hn⟩ := Int.eq_ofNat_of_zero_le (show 0 ≤ min (r.x + r.w) (0 + (M2 : Int)) - max r.x 0 by omega)
   obtain ⟨h, hh⟩ := Int.eq_ofNat_of_zero_le (show 0 ≤ min (r.y + r.h) (0 + (M : Int)) - max r.y 0 by omega)
   refine ⟨X, Y, n, h, by rw [hn, hh, hX, hY], by omega, by omega, by omega, fun p q => ?_⟩
   unfold hasB
   rw [decide_eq_true_iff]
   constructor
   ·intro k; exact ⟨⟨ho, by omega⟩, by omega, by omega⟩
   ·rintro ⟨⟨_, k⟩, k1, k2⟩; omega
  ·refine ⟨0, 0, 0, 0, e, by omega, by omega, .inl rfl, fun p q => ?_⟩
   unfold hasB
   rw [decide_eq_true_iff]
   unfold isectIn at hi
   dsimp only at hi
   constructor
   ·intro k; omega
   ·rintro ⟨⟨_, k⟩, k1, k2⟩; omega
 ·refine ⟨0, 0, 0, 0, isect_no fun h => ho h.1, by omega, by omega, .inl rfl, fun p q => ?_⟩
  unfold hasB
  rw [decide_eq_true_iff]
  constructor
  ·intro k; omega
  ·rintro ⟨⟨k, _⟩, _⟩; exact absurd k ho
end Go.Proofs.YtnndifemkichmaaGreat
namespace Go.Proofs.YtnndifemkichmaaGreat
open Go.RowKit
theorem intCells_append (L M : List Int) : intCells (L ++ M) = intCells L ++ intCells M := by simp [intCells]
end Go.Proofs.YtnndifemkichmaaGreat
namespace Go.Proofs.YtnndifemkichmaaGreat
open Go.RowKit
def plcN (W H : Nat) (o : Int) (x y : Nat) : Nat := (Pp.ori o (ptN W H x y)).y.toNat * orWn W H o + (Pp.ori o (ptN W H x y)).x.toNat
theorem plc_is {W H x y a b : Nat} {o : Int} (h : Pp.ori o (ptN W H x y) = ptN (orWn W H o) (orHn W H o) a b) : plcN W H o x y = b * orWn W H o + a := by
 unfold plcN; rw [h]; simp [ptN]
theorem pt_inj {W H x y a b : Nat} (h : ptN W H x y = ptN W H a b) : x = a ∧ y = b := by
 unfold ptN at h; injection h with _ _ h1 h2; omega
theorem src_iff {W H j x y : Nat} {o : Int} (h : 1 ≤ W ∧ W ≤ 16 ∧ 1 ≤ H ∧ H ≤ 16) (ho : orOk o) (hj : j < W * H) (hx : x < W) (hy : y < H) : srcN W H o j = y * W + x ↔ j = plcN W H o x y := by
 obtain ⟨c, d, e, hc, hd, hs⟩ := src_is h ho hj
 obtain ⟨a, b, e2, ha, hb⟩ := or_pt (x := x) (y := y) h ho hx hy
 rw [hs, plc_is e2]
 constructor
 ·intro h1
  have q1 := idx_div (y := d) hc
  have q2 := idx_div (y := y) hx
  rw [h1] at q1
  obtain rfl : d = y := q1.1.symm.trans q2.1
  obtain rfl : c = x := q1.2.symm.trans q2.2
  rw [← e, undo_undo ho] at e2
  obtain ⟨r1, r2⟩ := pt_inj e2
  rw [← r1, ← r2]
  exact (plc_eq j _).symm
 ·rintro rfl
  have q := idx_div (y := b) ha
  rw [q.1, q.2, ← e2, ori_undo ho] at e
  obtain ⟨r1, r2⟩ := pt_inj e
  rw [r1, r2]
def orF (W H : Nat) (L : List Int) (o : Int) (k : Nat) : Nat → Int := fun j => if srcN W H o j < k then L.getD (srcN W H o j) 0 else 0
theorem orF_end {W H : Nat} {L : List Int} {o : Int} (h : 1 ≤ W ∧ W ≤ 16 ∧ 1 ≤ H ∧ H ≤ 16) (ho : orOk o) : tabI (W * H) (orF W H L o (H * W)) = orL W H L o :=
 tabI_congr _ fun j hj => by unfold orF; rw [if_pos (by rw [Nat.mul_comm H W]; exact src_lt h ho hj)]
theorem orF_set {W H x y : Nat} {L : List Int} {o z : Int} (h : 1 ≤ W ∧ W ≤ 16 ∧ 1 ≤ H ∧ H ≤ 16) (ho : orOk o) (hx : x < W) (hy : y < H) (hz : L.getD (y * W + x) 0 = z) :
  (tabI (W * H) (orF W H L o (y * W + x))).set (plcN W H o x y) z = tabI (W * H) (orF W H L o (y * W + (x + 1))) := by
 rw [tabI_set]
 refine tabI_congr _ fun j hj => ?_
 have e := src_iff h ho hj hx hy
 unfold orF
 by_cases h1 : j = plcN W H o x y
 ·rw [if_pos h1, if_pos (by have := e.2 h1; omega), e.2 h1, hz]
 ·rw [if_neg h1]
  have h2 : srcN W H o j ≠ y * W + x := fun h => h1 (e.1 h)
  by_cases h3 : srcN W H o j < y * W + x
  ·rw [if_pos h3, if_pos (by omega)]
  ·rw [if_neg h3, if_neg (by omega)]
theorem orIm_no {X Y : Int} {L : List Int} {o : Int} (h : ¬ (imOk X Y L ∧ orOk o)) : orIm X Y L o = zeroIm := if_neg h
structure OrA (w : World) (X Y : Int) (v : Value) (L : List Int) (W : World) : Prop where
 a : ImAt W w.heap.size 70 X Y v
 r : ImAt W (w.heap.size + 1) 70 0 0 (.slice none 0 0)
 rd : RdI W v L
 bw : Below w.heap.size w W
theorem OrA.call {w : World} {X Y : Int} {v : Value} {L : List Int} {W W' : World} (h : OrA w X Y v L W) (k : Below W.heap.size W W') : OrA w X Y v L W' := ⟨h.a.call k, h.r.call k, h.rd.call k, h.bw.trans (k.mono h.bw.size)⟩
end Go.Proofs.YtnndifemkichmaaGreat
namespace Go.Proofs.YtnndifemkichmaaGreat
open Go.RowKit
theorem own_at_put {w : World} {B gq n cap j : Nat} {e : TypeId} {L : List Int} (h : w.ownsRow B e 1 (.slice (some ⟨gq, 0, none⟩) n cap) n (intCells L)) (hj : j < n) (hl : L.length = n) : w.cell? ⟨gq, j, none⟩ = some (.int .i64 (L.getD j 0)) ∧ w.frozen? ⟨gq, j, none⟩ = false := by
 refine ⟨?_, h.frozenAt j⟩
 have h2 := h.cellAt j (by omega)
 rw [h2, intCells_get, List.getD_eq_getElem?_getD, List.getElem?_eq_getElem (by omega)]
 rfl
theorem grown_dr (w : World) (row : Option Nat) : w.grownBy w.drew row := ⟨rfl, rfl, rfl, Nat.le_refl _, fun _ _ _ => rfl⟩
structure OrS (w : World) (W H gi n c P Q bo gq k : Nat) (z : Int) (V : World) : Prop where
 a : ImAt V w.heap.size 70 W H (.slice (some ⟨gi, 0, none⟩) n c)
 o : ImAt V bo 70 P Q (.slice (some ⟨gq, 0, none⟩) n n)
 z : V.cell? ⟨gi, k, none⟩ = some (.int .i64 z)
theorem OrS.drew {w : World} {W H gi n c P Q bo gq k : Nat} {z : Int} {V : World} (h : OrS w W H gi n c P Q bo gq k z V) : OrS w W H gi n c P Q bo gq k z V.drew := ⟨h.a, h.o, h.z⟩
theorem OrS.set {w : World} {W H gi n c P Q bo gq k : Nat} {z : Int} {V V' : World} (h : OrS w W H gi n c P Q bo gq k z V) (hn : w.heap.size ≠ gq ∧ bo ≠ gq ∧ gi ≠ gq) (hg : V.grownBy V' (some gq)) : OrS w W H gi n c P Q bo gq k z V' :=
 ⟨h.a.grown hg (fun e => hn.1 (Option.some.inj e)), h.o.grown hg (fun e => hn.2.1 (Option.some.inj e)), cell_grown h.z hg (fun e => hn.2.2 (Option.some.inj e))⟩
set_option maxHeartbeats 2000000 in
set_option maxRecDepth 10000 in
theorem ordS_ok (W H : Nat) (v : Value) (L : List Int) (o : Int) (w : World) (h1 : imOk W H L) (ho : orOk o) (hv : RdI w v L) :
  Calls Tryz.prog 219 #[.agg #[.int .i64 W, .int .i64 H, v], .int .i64 o] w (AnsIm (orIm W H L o) w) := by
 have HA := Lib.hid (orIm_yes h1 ho)
 obtain ⟨W2, H2, e1, e2, wl, wh, hl, hh, hL⟩ := im_nat h1
 obtain rfl : W = W2 := by exact_mod_cast e1
 obtain rfl : H = H2 := by exact_mod_cast e2
 have hsm : 1 ≤ W ∧ W ≤ 16 ∧ 1 ≤ H ∧ H ≤ 16 := ⟨wl, wh, hl, hh⟩
 have hor := or_small o hsm
 have har := or_area W H o
 have SZ := fun W0 => osS W H o W0
 unfold TwoAns at SZ
 rw [os_yes (by unfold szOk; omega) ho, orW_nat, orH_nat] at SZ
 dsimp only at SZ
 obtain ⟨P, hP⟩ : ∃ P, P = orWn W H o := ⟨_, rfl⟩
 obtain ⟨Q, hQ⟩ : ∃ Q, Q = orHn W H o := ⟨_, rfl⟩
 obtain ⟨n, hn⟩ : ∃ n, n = W * H := ⟨_, rfl⟩
 rw [← hP, ← hQ] at hor har SZ
 rw [← hn] at har hL
 have n2 : n ≤ 256 := by rw [hn]; exact mul_256 wh hh
 have n1 : 1 ≤ n := by rw [hn]; exact Nat.mul_pos wl hl
 have e0 : (P : Int) * (Q : Int) = (n : Int) := by rw [← har]; simp
 obtain ⟨P1, P2, Q1, Q2⟩ := hor
 obtain ⟨A, c, rfl⟩ := hv.form
 rw [hL] at hv ⊢
 obtain ⟨gi, z0, hA, _, hc0⟩ := hv.at_ (k := 0) (by omega)
 have hgi : gi < w.heap.size := World.block_lt_of_cell? w _ hc0
 subst hA
 have hS : OrA w W H (.slice (some ⟨gi, 0, none⟩) n c) L ((w.alloc (.cells #[.int .i64 W, .int .i64 H, .slice (some ⟨gi, 0, none⟩) n c] 70)).alloc (.cells #[.int .i64 0, .int .i64 0, .slice none 0 0] 70)) :=
  ⟨(ImAt.new _ _ _ _ _).alloc _, ImAt.newAt (by simp) _ _ _ _, (hv.alloc _).alloc _, belI_call (belI_box _ _) (belI_box _ _)⟩
 have HZ := Lib.hid SZ
 have HP := Lib.hid hP
 have HQ := Lib.hid hQ
 have HL := Lib.hid hL
 have HM := Lib.hid hn
 have Ho := Lib.hid ho
 have Hi := Lib.hid h1
 have HG := Lib.hid hgi
 obtain ⟨o1, o2⟩ := ho
 clear SZ hP hQ hL hn h1 hv hc0 har hgi
 obtain ⟨a0, a1, a2⟩ := hS.a.cells
 go_enter Tryz.func219, Tryz.ntmps219
 go_wp2_with fail
 refine (imS W H _ L _ hS.rd).mono ?_
 rintro e w2 ⟨rfl, hb⟩
 replace hS := hS.call hb
 clear hb a0 a1 a2
 rw [imB_yes Hi.out]
 go_wp2_with fail
 refine (inS_yes o 0 7 _ (by omega) (by omega)).mono ?_
 rintro e w' ⟨rfl, rfl⟩
 obtain ⟨a0, a1, a2⟩ := hS.a.cells
 go_wp2_with fail
 refine (HZ.out _).mono ?_
 rintro e w3 ⟨rfl, hb⟩
 replace hS := hS.call hb
 clear hb a0 a1 a2
 have hmk := fun W0 => run_make_row' (P := Tryz.prog) 31 3 (.int .i64 0) 8 Tryz.underlying31 infoInt rfl .i64 .i64 n (by omega) (by omega) W0
 obtain ⟨gq, hgq⟩ : ∃ g, g = w3.heap.size := ⟨_, rfl⟩
 have hown : (w3.alloc (.cells (madeCells #[.int .i64 0] n) 3)).ownsRow gq 3 1 (.slice (some ⟨gq, 0, none⟩) n n) n (intCells (tabI n (orF W H L o 0))) := by
  subst hgq
  exact own_of_rowIs (World.rowIs_made _ _ _ _) (Nat.le_refl _) (by unfold maxLen; omega) (tabI_length _ _) (fun j x hx => by
   have hj : j < n := by have := (List.getElem?_eq_some_iff.1 hx).1; rwa [tabI_length] at this
   rw [tabI_get n _ j hj] at hx
   injection hx with hx
   rw [← hx]; unfold orF; rw [if_neg (by omega)])
 obtain ⟨bo, hbo⟩ : ∃ b, b = w3.heap.size + 1 := ⟨_, rfl⟩
 obtain ⟨V0, hV0⟩ : ∃ V, V = (w3.alloc (.cells (madeCells #[.int .i64 0] n) 3)).alloc (.cells #[.int .i64 P, .int .i64 Q, .slice (some ⟨w3.heap.size, 0, none⟩) n n] 70) := ⟨_, rfl⟩
 have hsz := hS.r.lt
 have hO : ImAt V0 bo 70 P Q (.slice (some ⟨gq, 0, none⟩) n n) := by rw [hV0, hgq, hbo]; exact ImAt.newAt (by simp) _ _ _ _
 have HB := Lib.hid (show w.heap.size ≠ gq ∧ bo ≠ gq ∧ gi ≠ gq ∧ w.heap.size + 1 < gq from by have := HG.out; omega)
 have HV := Lib.hid hV0
 have Hb := Lib.hid hbo
 have Hq := Lib.hid hgq
 replace hown := hown.alloc (.cells #[.int .i64 P, .int .i64 Q, .slice (some ⟨w3.heap.size, 0, none⟩) n n] 70)
 replace hS := (hS.call (belI_box w3 (.cells (madeCells #[.int .i64 0] n) 3))).call (belI_box _ (.cells #[.int .i64 P, .int .i64 Q, .slice (some ⟨w3.heap.size, 0, none⟩) n n] 70))
 rw [← hV0] at hown hS
 have Hown := Lib.hid hown
 have HS := Lib.hid hS
 have HO := Lib.hid hO
 have Hgr : Hid (V0.grownBy V0 (some gq)) := Lib.hid (World.grownBy.refl _ _)
 clear hV0 hbo hgq hown hS hO hsz
 go_wp2_with fail
 rw [← HV.out, ← Hb.out]
 clear hmk
 go_loopg [8] H (fun g8 s8 wr => ∃ (y : Nat) (V : World), V = wr ∧ y ≤ H ∧ g8 = H - y ∧ s8 = .int .i64 y ∧ Hid (V.ownsRow gq 3 1 (.slice (some ⟨gq, 0, none⟩) n n) n (intCells (tabI n (orF W H L o (y * W + 0))))) ∧ Hid (V0.grownBy V (some gq)))
 case atStart => exact ⟨0, _, rfl, Nat.zero_le _, by omega, rfl, by rw [Nat.zero_mul]; exact Hown, Hgr⟩
 case round =>
  clear Hown Hgr
  obtain ⟨y, wy, hV, hy2, rfl, rfl, Hown, Hgr⟩ := hrel
  subst hV
  obtain ⟨a0, a1, a2⟩ := (HS.out.a.grown Hgr.out (fun e => HB.out.1 (Option.some.inj e))).cells
  by_cases hyl : y < H
  ·have hyi : (y : Int) < (H : Int) := by omega
   go_wp2_with fail
   go_loopg [9] W (fun g9 s9 wz => ∃ (x : Nat) (V : World), V = wz ∧ x ≤ W ∧ g9 = W - x ∧ s9 = .int .i64 x ∧ Hid (V.ownsRow gq 3 1 (.slice (some ⟨gq, 0, none⟩) n n) n (intCells (tabI n (orF W H L o (y * W + x))))) ∧ Hid (V0.grownBy V (some gq)))
   case atStart => exact ⟨0, _, rfl, Nat.zero_le _, by omega, rfl, Hown, Hgr⟩
   case round =>
    clear Hown Hgr a0 a1 a2
    obtain ⟨x, wx, hV, hx2, rfl, rfl, Hown, Hgr⟩ := hrel
    subst hV
    obtain ⟨a0, a1, a2⟩ := (HS.out.a.grown Hgr.out (fun e => HB.out.1 (Option.some.inj e))).cells
    by_cases hxl : x < W
    ·have hxi : (x : Int) < (W : Int) := by omega
     obtain ⟨a, b, e, ha, hb⟩ := or_pt (x := x) (y := y) ⟨wl, wh, hl, hh⟩ Ho.out hxl hyl
     have R := fun W0 => opS W H o x y W0
     have hpl := plc_is e
     unfold TwoAns at R
     rw [op_yes Ho.out (ptN_ok ⟨wl, wh, hl, hh⟩ hxl hyl), show Pp.ori o ⟨W, H, x, y⟩ = _ from e] at R
     dsimp only [ptN] at R
     rw [← HP.out] at ha
     rw [← HQ.out] at hb
     have HR := Lib.hid R
     have HE := Lib.hid hpl
     clear R e hpl
     go_wp2_with fail
     refine (HR.out _).mono ?_
     rintro e wv ⟨rfl, hbv⟩
     have hOw := ownI_call Hown.out hbv
     have Hgr2 := Lib.hid (grown_below Hgr.out hbv)
     obtain ⟨m, hm⟩ : ∃ m, m = y * W := ⟨_, rfl⟩
     obtain ⟨mb, hmb⟩ : ∃ m, m = b * P := ⟨_, rfl⟩
     have l1 : m + x < n := by rw [hm, HM.out]; exact plc_lt hxl hyl
     have l2 : mb + a < n := by rw [hmb, HM.out, ← or_area W H o, ← HP.out, ← HQ.out]; exact plc_lt ha hb
     obtain ⟨g1, z, hg1, hz, hc⟩ := (HS.out.rd.grown Hgr2.out (fun g hg e => HB.out.2.2.1 (by injection hg with hg; injection e with e; exact hg.trans e))).at_ (k := m + x) (by rw [HL.out]; exact l1)
     injection hg1 with hg1
     injection hg1 with hg1
     subst hg1
     have HM3 : Hid (L.getD (m + x) 0 = z) := Lib.hid (by rw [List.getD_eq_getElem?_getD, hz]; rfl)
     have HM2 : Hid ((m = y * W ∧ mb = b * P) ∧ plcN W H o x y = b * orWn W H o + a) := Lib.hid ⟨⟨hm, hmb⟩, HE.out⟩
     have q1 : IntKind.i64.wrap ((y : Int) * (W : Int)) = (m : Int) := by rw [hm, wrap_in _ (by omega) (by omega)]; simp
     have q2 : IntKind.i64.wrap ((b : Int) * (P : Int)) = (mb : Int) := by rw [hmb, wrap_in _ (by omega) (by omega)]; simp
     have q3 := wrap_in ((m : Int) + (x : Int)) (by omega) (by omega)
     have q4 := wrap_in ((mb : Int) + (a : Int)) (by omega) (by omega)
     have t1 : ((m : Int) + (x : Int)).toNat = m + x := by omega
     have t2 : ((mb : Int) + (a : Int)).toNat = mb + a := by omega
     have u1 : (m : Int) + (x : Int) < (n : Int) := by omega
     have u2 : (mb : Int) + (a : Int) < (n : Int) := by omega
     have v1 : (0 : Int) ≤ (m : Int) + (x : Int) := by omega
     have v2 : (0 : Int) ≤ (mb : Int) + (a : Int) := by omega
     have hT : OrS w W H gi n c P Q bo gq (m + x) z wv := ⟨HS.out.a.grown Hgr2.out (fun e => HB.out.1 (Option.some.inj e)), HO.out.grown Hgr2.out (fun e => HB.out.2.1 (Option.some.inj e)), hc⟩
     have hsep : w.heap.size ≠ gq ∧ bo ≠ gq ∧ gi ≠ gq := ⟨HB.out.1, HB.out.2.1, HB.out.2.2.1⟩
     clear hbv hm hmb hz hc a0 a1 a2
     go_upto_region 12 with fail
     refine wp_region_held_drew (S := fun V => OrS w W H gi n c P Q bo gq (m + x) z V) (by kernel_rfl) hT.drew (fun hS => ?_)
     replace hOw := show World.ownsRow wv.drew _ _ _ _ _ _ from hOw
     have cS := (own_at_put hOw (j := mb + a) (by omega) (tabI_length _ _)).1
     have fS := (own_at_put hOw (j := mb + a) (by omega) (tabI_length _ _)).2
     refine tcH (i := 0) (v := .pointer (some ⟨bo, 2, none⟩)) rfl (by intro w' hSw; (try dsimp only at hSw); (obtain ⟨a0, a1, a2⟩ := hSw.a.cells); (obtain ⟨o0, o1, o2⟩ := hSw.o.cells); (have zc := hSw.z); go_simp) ?_
     refine tcH (i := 1) (v := .slice (some ⟨gq, 0, none⟩) n n) rfl (by intro w' hSw; (try dsimp only at hSw); (obtain ⟨a0, a1, a2⟩ := hSw.a.cells); (obtain ⟨o0, o1, o2⟩ := hSw.o.cells); (have zc := hSw.z); go_simp) ?_
     refine tcH (i := 2) (v := .int .i64 (b : Int)) rfl (by intro w' hSw; (try dsimp only at hSw); (obtain ⟨a0, a1, a2⟩ := hSw.a.cells); (obtain ⟨o0, o1, o2⟩ := hSw.o.cells); (have zc := hSw.z); go_simp) ?_
     refine tcH (i := 3) (v := .int .i64 (P : Int)) rfl (by intro w' hSw; (try dsimp only at hSw); (obtain ⟨a0, a1, a2⟩ := hSw.a.cells); (obtain ⟨o0, o1, o2⟩ := hSw.o.cells); (have zc := hSw.z); go_simp) ?_
     refine tcH (i := 4) (v := .int .i64 (mb : Int)) rfl (by intro w' hSw; (try dsimp only at hSw); (obtain ⟨a0, a1, a2⟩ := hSw.a.cells); (obtain ⟨o0, o1, o2⟩ := hSw.o.cells); (have zc := hSw.z); go_simp) ?_
     refine tcH (i := 5) (v := .int .i64 (a : Int)) rfl (by intro w' hSw; (try dsimp only at hSw); (obtain ⟨a0, a1, a2⟩ := hSw.a.cells); (obtain ⟨o0, o1, o2⟩ := hSw.o.cells); (have zc := hSw.z); go_simp) ?_
     refine tcH (i := 6) (v := .int .i64 ((mb : Int) + (a : Int))) rfl (by intro w' hSw; (try dsimp only at hSw); (obtain ⟨a0, a1, a2⟩ := hSw.a.cells); (obtain ⟨o0, o1, o2⟩ := hSw.o.cells); (have zc := hSw.z); go_simp) ?_
     refine tcH (i := 7) (v := .pointer (some ⟨w.heap.size, 2, none⟩)) rfl (by intro w' hSw; (try dsimp only at hSw); (obtain ⟨a0, a1, a2⟩ := hSw.a.cells); (obtain ⟨o0, o1, o2⟩ := hSw.o.cells); (have zc := hSw.z); go_simp) ?_
     refine tcH (i := 8) (v := .slice (some ⟨gi, 0, none⟩) n c) rfl (by intro w' hSw; (try dsimp only at hSw); (obtain ⟨a0, a1, a2⟩ := hSw.a.cells); (obtain ⟨o0, o1, o2⟩ := hSw.o.cells); (have zc := hSw.z); go_simp) ?_
     refine tcH (i := 9) (v := .int .i64 (y : Int)) rfl (by intro w' hSw; (try dsimp only at hSw); (obtain ⟨a0, a1, a2⟩ := hSw.a.cells); (obtain ⟨o0, o1, o2⟩ := hSw.o.cells); (have zc := hSw.z); go_simp) ?_
     refine tcH (i := 10) (v := .pointer (some ⟨w.heap.size, 0, none⟩)) rfl (by intro w' hSw; (try dsimp only at hSw); (obtain ⟨a0, a1, a2⟩ := hSw.a.cells); (obtain ⟨o0, o1, o2⟩ := hSw.o.cells); (have zc := hSw.z); go_simp) ?_
     refine tcH (i := 11) (v := .int .i64 (W : Int)) rfl (by intro w' hSw; (try dsimp only at hSw); (obtain ⟨a0, a1, a2⟩ := hSw.a.cells); (obtain ⟨o0, o1, o2⟩ := hSw.o.cells); (have zc := hSw.z); go_simp) ?_
     refine tcH (i := 12) (v := .int .i64 (m : Int)) rfl (by intro w' hSw; (try dsimp only at hSw); (obtain ⟨a0, a1, a2⟩ := hSw.a.cells); (obtain ⟨o0, o1, o2⟩ := hSw.o.cells); (have zc := hSw.z); go_simp) ?_
     refine tcH (i := 13) (v := .int .i64 (x : Int)) rfl (by intro w' hSw; (try dsimp only at hSw); (obtain ⟨a0, a1, a2⟩ := hSw.a.cells); (obtain ⟨o0, o1, o2⟩ := hSw.o.cells); (have zc := hSw.z); go_simp) ?_
     refine tcH (i := 14) (v := .int .i64 ((m : Int) + (x : Int))) rfl (by intro w' hSw; (try dsimp only at hSw); (obtain ⟨a0, a1, a2⟩ := hSw.a.cells); (obtain ⟨o0, o1, o2⟩ := hSw.o.cells); (have zc := hSw.z); go_simp) ?_
     refine tcH (i := 15) (v := .pointer (some ⟨gi, m + x, none⟩)) rfl (by intro w' hSw; (try dsimp only at hSw); (obtain ⟨a0, a1, a2⟩ := hSw.a.cells); (obtain ⟨o0, o1, o2⟩ := hSw.o.cells); (have zc := hSw.z); go_simp) ?_
     refine tcH (i := 16) (v := .int .i64 z) rfl (by intro w' hSw; (try dsimp only at hSw); (obtain ⟨a0, a1, a2⟩ := hSw.a.cells); (obtain ⟨o0, o1, o2⟩ := hSw.o.cells); (have zc := hSw.z); go_simp) ?_
     refine tcH (i := 17) (v := .pointer (some ⟨gq, mb + a, none⟩)) rfl (by intro w' hSw; (try dsimp only at hSw); (obtain ⟨a0, a1, a2⟩ := hSw.a.cells); (obtain ⟨o0, o1, o2⟩ := hSw.o.cells); (have zc := hSw.z); go_simp) ?_
     (try simp only [Act.put]); (try simp only [zPa]); (try simp only [zPb, zPc])
     refine wpAnyH_ready (rs := [18]) (by kernel_rfl) (by simp) ?_
     refine (AllReadyH.cons rfl (fun K hK => ?_) AllReadyH.nil)
     ·rw [if_pos (by kernel_rfl)]
      (try simp only [zGa]); (try simp only [zGb]); (try simp only [zGc])
      go_simp
      refine hK.out _ _ (hS.set hsep (grown_setI _ gq (mb + a) _)) (fun hS => ?_)
      clear hK
      (try simp only [Act.put]); (try simp only [zPa]); (try simp only [zPb, zPc])
      refine wpAnyH_done (by kernel_rfl) ?_ _
      go_wp2_with fail
      go_roundg (W - (x + 1))
      case measure => omega
      case rel =>
       have h := (ownI_put hOw (mb + a) z).1
       have hset : (tabI n (orF W H L o (y * W + x))).set (mb + a) z = tabI n (orF W H L o (y * W + (x + 1))) := by
        rw [show mb + a = plcN W H o x y by rw [HM2.out.2, ← HP.out, HM2.out.1.2], HM.out]
        exact orF_set ⟨wl, wh, hl, hh⟩ Ho.out hxl hyl (by rw [← HM2.out.1.1]; exact HM3.out)
       rw [hset] at h
       exact ⟨x + 1, _, rfl, by omega, by omega, by go_num, Lib.hid h, Lib.hid ((Hgr2.out.trans (grown_setI _ gq (mb + a) _)).trans (grown_dr _ _))⟩
    ·obtain rfl : x = W := by omega
     go_wp2_with fail
     go_roundg (H - (y + 1))
     case measure => omega
     case rel => exact ⟨y + 1, _, rfl, by omega, by omega, by go_num, by rw [Nat.add_mul, Nat.one_mul]; exact Hown, Hgr⟩
  ·obtain rfl : y = H := by omega
   have hr := HS.out.r.grown Hgr.out (fun e => by have := HB.out.2.2.2; injection e with e; omega)
   obtain ⟨o0, o1, o2⟩ := (HO.out.grown Hgr.out (fun e => HB.out.2.1 (Option.some.inj e))).cells
   obtain ⟨r0, r1, r2⟩ := hr.cells
   have f0 := hr.frozen 0
   have f1 := hr.frozen 1
   have f2 := hr.frozen 2
   have HJ := Lib.hid (hr.set3 P Q (.slice (some ⟨gq, 0, none⟩) n n))
   have HK := Lib.hid (HS.out.bw.grown Hgr.out HS.out.bw.size (fun k hk => by injection hk with hk; have := HB.out.2.2.2; omega))
   clear hr
   go_wp2_with fail
   obtain ⟨s0, s1, s2⟩ := HJ.out.cells
   exact bodyPost_ret (v := .agg #[.int .i64 P, .int .i64 Q, .slice (some ⟨gq, 0, none⟩) n n]) (by simp [results, Tryz.results219, go_sem, s0, s1, s2]) rfl (by
    rw [HA.out, ← HP.out, ← HQ.out]
    have h := Hown.out
    rw [Nat.add_zero, HM.out, orF_end ⟨wl, wh, hl, hh⟩ Ho.out, ← HM.out] at h
    exact ans_set h (by rw [orL_length, HM.out]) (by omega) HB.out.2.2.2 HK.out)
end Go.Proofs.YtnndifemkichmaaGreat
namespace Go.Proofs.YtnndifemkichmaaGreat
open Go.RowKit
structure OrI (w : World) (W H gi n c P Q i j : Nat) (L : List Int) (bp gq : Nat) (V : World) : Prop where
 a : ImAt V w.heap.size 70 W H (.slice (some ⟨gi, 0, none⟩) n c)
 p : BkAt V bp 275 #[.int .i64 P, .int .i64 Q, .int .i64 i, .int .i64 j]
 rd : RdI V (.slice (some ⟨gi, 0, none⟩) n c) L
theorem OrI.drew {w : World} {W H gi n c P Q i j : Nat} {L : List Int} {bp gq : Nat} {V : World} (h : OrI w W H gi n c P Q i j L bp gq V) : OrI w W H gi n c P Q i j L bp gq V.drew := ⟨h.a, h.p, h.rd.drew⟩
theorem OrI.call {w : World} {W H gi n c P Q i j : Nat} {L : List Int} {bp gq : Nat} {V V' : World} (h : OrI w W H gi n c P Q i j L bp gq V) (hb : Below V.heap.size V V') : OrI w W H gi n c P Q i j L bp gq V' := ⟨h.a.call hb, h.p.call hb, h.rd.call hb⟩
theorem OrI.set {w : World} {W H gi n c P Q i j : Nat} {L : List Int} {bp gq : Nat} {V V' : World} (h : OrI w W H gi n c P Q i j L bp gq V) (hn : w.heap.size ≠ gq ∧ bp ≠ gq ∧ gi ≠ gq) (hg : V.grownBy V' (some gq)) : OrI w W H gi n c P Q i j L bp gq V' :=
 ⟨h.a.grown hg (fun e => hn.1 (Option.some.inj e)), h.p.grown hg (fun e => hn.2.1 (Option.some.inj e)), h.rd.grown hg (fun g hg e => hn.2.2 (by injection hg with hg; injection e with e; exact hg.trans e))⟩
set_option maxHeartbeats 2000000 in
set_option maxRecDepth 10000 in
theorem ordI_ok (W H : Nat) (v : Value) (L : List Int) (o : Int) (w : World) (h1 : imOk W H L) (ho : orOk o) (hv : RdI w v L) :
  Calls Tryz.prog 254 #[.agg #[.int .i64 W, .int .i64 H, v], .int .i64 o] w (AnsIm (orIm W H L o) w) := by
 have HA := Lib.hid (orIm_yes h1 ho)
 obtain ⟨W2, H2, e1, e2, wl, wh, hl, hh, hL⟩ := im_nat h1
 obtain rfl : W = W2 := by exact_mod_cast e1
 obtain rfl : H = H2 := by exact_mod_cast e2
 have hsm : 1 ≤ W ∧ W ≤ 16 ∧ 1 ≤ H ∧ H ≤ 16 := ⟨wl, wh, hl, hh⟩
 have hor := or_small o hsm
 have har := or_area W H o
 have SZ := fun W0 => osI W H o W0
 unfold TwoAns at SZ
 rw [os_yes (by unfold szOk; omega) ho, orW_nat, orH_nat] at SZ
 dsimp only at SZ
 obtain ⟨P, hP⟩ : ∃ P, P = orWn W H o := ⟨_, rfl⟩
 obtain ⟨Q, hQ⟩ : ∃ Q, Q = orHn W H o := ⟨_, rfl⟩
 obtain ⟨n, hn⟩ : ∃ n, n = W * H := ⟨_, rfl⟩
 rw [← hP, ← hQ] at hor har SZ
 rw [← hn] at har hL
 have n2 : n ≤ 256 := by rw [hn]; exact mul_256 wh hh
 have n1 : 1 ≤ n := by rw [hn]; exact Nat.mul_pos wl hl
 have e0 : (P : Int) * (Q : Int) = (n : Int) := by rw [← har]; simp
 obtain ⟨P1, P2, Q1, Q2⟩ := hor
 obtain ⟨A, c, rfl⟩ := hv.form
 rw [hL] at hv ⊢
 obtain ⟨gi, z0, hA, _, hc0⟩ := hv.at_ (k := 0) (by omega)
 have hgi : gi < w.heap.size := World.block_lt_of_cell? w _ hc0
 subst hA
 have hS : OrA w W H (.slice (some ⟨gi, 0, none⟩) n c) L ((w.alloc (.cells #[.int .i64 W, .int .i64 H, .slice (some ⟨gi, 0, none⟩) n c] 70)).alloc (.cells #[.int .i64 0, .int .i64 0, .slice none 0 0] 70)) :=
  ⟨(ImAt.new _ _ _ _ _).alloc _, ImAt.newAt (by simp) _ _ _ _, (hv.alloc _).alloc _, belI_call (belI_box _ _) (belI_box _ _)⟩
 have HZ := Lib.hid SZ
 have HP := Lib.hid hP
 have HQ := Lib.hid hQ
 have HL := Lib.hid hL
 have HM := Lib.hid hn
 have Ho := Lib.hid ho
 have Hi := Lib.hid h1
 have HG := Lib.hid hgi
 obtain ⟨o1, o2⟩ := ho
 clear SZ hP hQ hL hn h1 hv hc0 har hgi
 obtain ⟨a0, a1, a2⟩ := hS.a.cells
 go_enter Tryz.func254, Tryz.ntmps254
 go_wp2_with fail
 refine (imI W H _ L _ hS.rd).mono ?_
 rintro e w2 ⟨rfl, hb⟩
 replace hS := hS.call hb
 clear hb a0 a1 a2
 rw [imB_yes Hi.out]
 go_wp2_with fail
 refine (isOrI_yes o Ho.out _).mono ?_
 rintro e w' ⟨rfl, rfl⟩
 obtain ⟨a0, a1, a2⟩ := hS.a.cells
 go_wp2_with fail
 refine (HZ.out _).mono ?_
 rintro e w3 ⟨rfl, hb⟩
 replace hS := hS.call hb
 clear hb a0 a1 a2
 have hmk := fun W0 => run_make_row' (P := Tryz.prog) 31 3 (.int .i64 0) 8 Tryz.underlying31 infoInt rfl .i64 .i64 n (by omega) (by omega) W0
 obtain ⟨gq, hgq⟩ : ∃ g, g = w3.heap.size := ⟨_, rfl⟩
 have hown : (w3.alloc (.cells (madeCells #[.int .i64 0] n) 3)).ownsRow gq 3 1 (.slice (some ⟨gq, 0, none⟩) n n) n (intCells (tabI n (orF W H L o 0))) := by
  subst hgq
  exact own_of_rowIs (World.rowIs_made _ _ _ _) (Nat.le_refl _) (by unfold maxLen; omega) (tabI_length _ _) (fun j x hx => by
   have hj : j < n := by have := (List.getElem?_eq_some_iff.1 hx).1; rwa [tabI_length] at this
   rw [tabI_get n _ j hj] at hx
   injection hx with hx
   rw [← hx]; unfold orF; rw [if_neg (by omega)])
 obtain ⟨V0, hV0⟩ : ∃ V, V = w3.alloc (.cells (madeCells #[.int .i64 0] n) 3) := ⟨_, rfl⟩
 have hsz := hS.r.lt
 have HB := Lib.hid (show w.heap.size ≠ gq ∧ gq < V0.heap.size ∧ gi ≠ gq ∧ w.heap.size + 1 < gq from by have := HG.out; have h9 : V0.heap.size = w3.heap.size + 1 := (by rw [hV0]; simp); omega)
 have HV := Lib.hid hV0
 have Hq := Lib.hid hgq
 replace hS := hS.call (belI_box w3 (.cells (madeCells #[.int .i64 0] n) 3))
 rw [← hV0] at hown hS
 have Hown := Lib.hid hown
 have HS := Lib.hid hS
 have Hgr : Hid (V0.grownBy V0 (some gq)) := Lib.hid (World.grownBy.refl _ _)
 obtain ⟨a0, a1, a2⟩ := hS.a.cells
 rw [hV0] at a0 a1 a2
 clear hV0 hgq hown hS hsz
 go_wp2_with fail
 rw [← HV.out, ← Hq.out]
 clear hmk a0 a1 a2
 go_loopg [35] H (fun g8 s8 wr => ∃ (y : Nat) (V : World), V = wr ∧ y ≤ H ∧ g8 = H - y ∧ s8 = .int .i64 y ∧ Hid (V.ownsRow gq 3 1 (.slice (some ⟨gq, 0, none⟩) n n) n (intCells (tabI n (orF W H L o (y * W + 0))))) ∧ Hid (V0.grownBy V (some gq)))
 case atStart => exact ⟨0, _, rfl, Nat.zero_le _, by omega, rfl, by rw [Nat.zero_mul]; exact Hown, Hgr⟩
 case round =>
  clear Hown Hgr
  obtain ⟨y, wy, hV, hy2, rfl, rfl, Hown, Hgr⟩ := hrel
  subst hV
  obtain ⟨a0, a1, a2⟩ := (HS.out.a.grown Hgr.out (fun e => HB.out.1 (Option.some.inj e))).cells
  by_cases hyl : y < H
  ·have hyi : (y : Int) < (H : Int) := by omega
   go_wp2_with fail
   go_loopg [40] W (fun g9 s9 wz => ∃ (x : Nat) (V : World), V = wz ∧ x ≤ W ∧ g9 = W - x ∧ s9 = .int .i64 x ∧ Hid (V.ownsRow gq 3 1 (.slice (some ⟨gq, 0, none⟩) n n) n (intCells (tabI n (orF W H L o (y * W + x))))) ∧ Hid (V0.grownBy V (some gq)))
   case atStart => exact ⟨0, _, rfl, Nat.zero_le _, by omega, rfl, Hown, Hgr⟩
   case round =>
    clear Hown Hgr a0 a1 a2
    obtain ⟨x, wx, hV, hx2, rfl, rfl, Hown, Hgr⟩ := hrel
    subst hV
    obtain ⟨a0, a1, a2⟩ := (HS.out.a.grown Hgr.out (fun e => HB.out.1 (Option.some.inj e))).cells
    by_cases hxl : x < W
    ·have hxi : (x : Int) < (W : Int) := by omega
     obtain ⟨a, b, e, ha, hb⟩ := or_pt (x := x) (y := y) ⟨wl, wh, hl, hh⟩ Ho.out hxl hyl
     have R := fun W0 => orPt_any (ptN W H x y) o Ho.out (ptN_ok ⟨wl, wh, hl, hh⟩ hxl hyl) W0
     have hpl := plc_is e
     unfold PpAns at R
     rw [e, ← HP.out, ← HQ.out] at R
     dsimp only [ptN] at R
     rw [← HP.out] at ha
     rw [← HQ.out] at hb
     have HR := Lib.hid R
     have HE := Lib.hid hpl
     clear R e hpl
     go_wp2_with fail
     refine (HR.out _).mono ?_
     rintro e wu ⟨rfl, hbv⟩
     obtain ⟨bp, hbp⟩ : ∃ b, b = wu.heap.size := ⟨_, rfl⟩
     obtain ⟨wv, hwv⟩ : ∃ V, V = wu.alloc (.cells #[.int .i64 P, .int .i64 Q, .int .i64 a, .int .i64 b] 275) := ⟨_, rfl⟩
     have hpt : BkAt wv bp 275 #[.int .i64 P, .int .i64 Q, .int .i64 a, .int .i64 b] := by rw [hwv]; exact BkAt.newAt hbp.symm _ _
     have hbp2 : bp ≠ gq := by have := hbv.size; have := Hgr.out.size; have := HB.out.2.1; omega
     have hbw : Below wx.heap.size wx wv := by rw [hwv]; exact belI_call hbv (belI_box _ _)
     have hOw := ownI_call Hown.out hbw
     have Hgr2 := Lib.hid (grown_below Hgr.out hbw)
     obtain ⟨m, hm⟩ : ∃ m, m = y * W := ⟨_, rfl⟩
     obtain ⟨mb, hmb⟩ : ∃ m, m = b * P := ⟨_, rfl⟩
     have l1 : m + x < n := by rw [hm, HM.out]; exact plc_lt hxl hyl
     have l2 : mb + a < n := by rw [hmb, HM.out, ← or_area W H o, ← HP.out, ← HQ.out]; exact plc_lt ha hb
     have hrd := HS.out.rd.grown Hgr2.out (fun g hg e => HB.out.2.2.1 (by injection hg with hg; injection e with e; exact hg.trans e))
     obtain ⟨z, hz⟩ : ∃ z, L.getD (m + x) 0 = z := ⟨_, rfl⟩
     have HM3 := Lib.hid hz
     have HX : Hid (∀ (V : World), RdI V (.slice (some ⟨gi, 0, none⟩) n c) L → Calls Tryz.prog 121 #[.agg #[.int .i64 W, .int .i64 H, .slice (some ⟨gi, 0, none⟩) n c], .int .i64 (x : Int), .int .i64 (y : Int)] V fun e w' => e = .returned (.int .i64 z) ∧ Below V.heap.size V w') := Lib.hid (fun V h => by
      have h2 := pixelI W H x y _ L V Hi.out (by omega) (by omega) h
      rw [show ((y : Int) * (W : Int) + (x : Int)).toNat = m + x by rw [hm]; exact_mod_cast Int.toNat_natCast (y * W + x), hz] at h2
      exact h2)
     have HM2 : Hid ((m = y * W ∧ mb = b * P) ∧ plcN W H o x y = b * orWn W H o + a) := Lib.hid ⟨⟨hm, hmb⟩, HE.out⟩
     have q2 : IntKind.i64.wrap ((b : Int) * (P : Int)) = (mb : Int) := by rw [hmb, wrap_in _ (by omega) (by omega)]; simp
     have q4 := wrap_in ((mb : Int) + (a : Int)) (by omega) (by omega)
     have t2 : ((mb : Int) + (a : Int)).toNat = mb + a := by omega
     have u2 : (mb : Int) + (a : Int) < (n : Int) := by omega
     have v2 : (0 : Int) ≤ (mb : Int) + (a : Int) := by omega
     have hT : OrI w W H gi n c P Q a b L bp gq wv := ⟨HS.out.a.grown Hgr2.out (fun e => HB.out.1 (Option.some.inj e)), hpt, hrd⟩
     have hsep : w.heap.size ≠ gq ∧ bp ≠ gq ∧ gi ≠ gq := ⟨HB.out.1, hbp2, HB.out.2.2.1⟩
     clear hbv hm hmb hz a0 a1 a2 hpt hbp2 hbw hrd
     go_upto_region 12 with fail
     rw [← hwv, ← hbp]
     clear hwv hbp
     refine wp_region_held_drew (S := fun V => OrI w W H gi n c P Q a b L bp gq V) (by kernel_rfl) hT.drew (fun hS => ?_)
     replace hOw := show World.ownsRow wv.drew _ _ _ _ _ _ from hOw
     have hGr := show World.grownBy V0 wv.drew _ from Hgr2.out.trans (grown_dr _ _)
     refine tcH (i := 0) (v := .slice (some ⟨gq, 0, none⟩) n n) rfl (by intro w' hSw; (try dsimp only at hSw); (obtain ⟨a0, a1, a2⟩ := hSw.a.cells); (obtain ⟨p0, p1, p2, p3⟩ := hSw.p.cells4); go_simp) ?_
     refine tcH (i := 1) (v := .pointer (some ⟨bp, 3, none⟩)) rfl (by intro w' hSw; (try dsimp only at hSw); (obtain ⟨a0, a1, a2⟩ := hSw.a.cells); (obtain ⟨p0, p1, p2, p3⟩ := hSw.p.cells4); go_simp) ?_
     refine tcH (i := 2) (v := .int .i64 (b : Int)) rfl (by intro w' hSw; (try dsimp only at hSw); (obtain ⟨a0, a1, a2⟩ := hSw.a.cells); (obtain ⟨p0, p1, p2, p3⟩ := hSw.p.cells4); go_simp) ?_
     refine tcH (i := 3) (v := .int .i64 (P : Int)) rfl (by intro w' hSw; (try dsimp only at hSw); (obtain ⟨a0, a1, a2⟩ := hSw.a.cells); (obtain ⟨p0, p1, p2, p3⟩ := hSw.p.cells4); go_simp) ?_
     refine tcH (i := 4) (v := .int .i64 (mb : Int)) rfl (by intro w' hSw; (try dsimp only at hSw); (obtain ⟨a0, a1, a2⟩ := hSw.a.cells); (obtain ⟨p0, p1, p2, p3⟩ := hSw.p.cells4); go_simp) ?_
     refine tcH (i := 5) (v := .pointer (some ⟨bp, 2, none⟩)) rfl (by intro w' hSw; (try dsimp only at hSw); (obtain ⟨a0, a1, a2⟩ := hSw.a.cells); (obtain ⟨p0, p1, p2, p3⟩ := hSw.p.cells4); go_simp) ?_
     refine tcH (i := 6) (v := .int .i64 (a : Int)) rfl (by intro w' hSw; (try dsimp only at hSw); (obtain ⟨a0, a1, a2⟩ := hSw.a.cells); (obtain ⟨p0, p1, p2, p3⟩ := hSw.p.cells4); go_simp) ?_
     refine tcH (i := 7) (v := .int .i64 ((mb : Int) + (a : Int))) rfl (by intro w' hSw; (try dsimp only at hSw); (obtain ⟨a0, a1, a2⟩ := hSw.a.cells); (obtain ⟨p0, p1, p2, p3⟩ := hSw.p.cells4); go_simp) ?_
     refine tcH (i := 8) (v := .agg #[.int .i64 W, .int .i64 H, .slice (some ⟨gi, 0, none⟩) n c]) rfl (by intro w' hSw; (try dsimp only at hSw); (obtain ⟨a0, a1, a2⟩ := hSw.a.cells); (obtain ⟨p0, p1, p2, p3⟩ := hSw.p.cells4); go_simp) ?_
     refine tcH (i := 9) (v := .int .i64 (x : Int)) rfl (by intro w' hSw; (try dsimp only at hSw); (obtain ⟨a0, a1, a2⟩ := hSw.a.cells); (obtain ⟨p0, p1, p2, p3⟩ := hSw.p.cells4); go_simp) ?_
     refine tcH (i := 10) (v := .int .i64 (y : Int)) rfl (by intro w' hSw; (try dsimp only at hSw); (obtain ⟨a0, a1, a2⟩ := hSw.a.cells); (obtain ⟨p0, p1, p2, p3⟩ := hSw.p.cells4); go_simp) ?_
     (try simp only [Act.put]); (try simp only [zPa]); (try simp only [zPb, zPc])
     refine wpAnyH_ready (rs := [11]) (by kernel_rfl) (by simp) ?_
     refine (AllReadyH.cons rfl (fun K hK => ?_) AllReadyH.nil)
     ·rw [if_pos (by kernel_rfl)]
      (try simp only [zGa]); (try simp only [zGb]); (try simp only [zGc])
      go_simp
      with_reducible refine (HX.out _ hS.rd).mono ?_
      rintro e W' ⟨rfl, hb⟩
      dsimp only
      have cS := (own_at_put (ownI_call hOw hb) (j := mb + a) (by omega) (tabI_length _ _)).1
      have fS := (own_at_put (ownI_call hOw hb) (j := mb + a) (by omega) (tabI_length _ _)).2
      have hOw := ownI_call hOw hb
      have hGr := grown_below hGr hb
      refine hK.out _ _ (hS.call hb) (fun hS => ?_)
      clear hK
      (try simp only [Act.put]); (try simp only [zPa]); (try simp only [zPb, zPc])
      refine tcH (i := 12) (v := .pointer (some ⟨gq, mb + a, none⟩)) rfl (by intro w' hSw; (try dsimp only at hSw); (obtain ⟨a0, a1, a2⟩ := hSw.a.cells); (obtain ⟨p0, p1, p2, p3⟩ := hSw.p.cells4); go_simp) ?_
      (try simp only [Act.put]); (try simp only [zPa]); (try simp only [zPb, zPc])
      refine wpAnyH_ready (rs := [13]) (by kernel_rfl) (by simp) ?_
      refine (AllReadyH.cons rfl (fun K hK => ?_) AllReadyH.nil)
      ·rw [if_pos (by kernel_rfl)]
       (try simp only [zGa]); (try simp only [zGb]); (try simp only [zGc])
       go_simp
       skip
       skip
       refine hK.out _ _ (hS.set hsep (grown_setI _ gq (mb + a) _)) (fun hS => ?_)
       clear hK
       (try simp only [Act.put]); (try simp only [zPa]); (try simp only [zPb, zPc])
       refine wpAnyH_done (by kernel_rfl) ?_ _
       go_wp2_with fail
       go_roundg (W - (x + 1))
       case measure => omega
       case rel =>
        have h := (ownI_put hOw (mb + a) z).1
        have hset : (tabI n (orF W H L o (y * W + x))).set (mb + a) z = tabI n (orF W H L o (y * W + (x + 1))) := by
         rw [show mb + a = plcN W H o x y by rw [HM2.out.2, ← HP.out, HM2.out.1.2], HM.out]
         exact orF_set ⟨wl, wh, hl, hh⟩ Ho.out hxl hyl (by rw [← HM2.out.1.1]; exact HM3.out)
        rw [hset] at h
        exact ⟨x + 1, _, rfl, by omega, by omega, by go_num, Lib.hid h, Lib.hid (hGr.trans (grown_setI _ gq (mb + a) _))⟩
    ·obtain rfl : x = W := by omega
     go_wp2_with fail
     go_roundg (H - (y + 1))
     case measure => omega
     case rel => exact ⟨y + 1, _, rfl, by omega, by omega, by go_num, by rw [Nat.add_mul, Nat.one_mul]; exact Hown, Hgr⟩
  ·obtain rfl : y = H := by omega
   have hr := HS.out.r.grown Hgr.out (fun e => by have := HB.out.2.2.2; injection e with e; omega)
   have f0 := hr.frozen 0
   have f1 := hr.frozen 1
   have f2 := hr.frozen 2
   obtain ⟨r0, r1, r2⟩ := hr.cells
   have HJ := Lib.hid (hr.set3 P Q (.slice (some ⟨gq, 0, none⟩) n n))
   have HK := Lib.hid (HS.out.bw.grown Hgr.out HS.out.bw.size (fun k hk => by injection hk with hk; have := HB.out.2.2.2; omega))
   clear hr
   go_wp2_with fail
   obtain ⟨s0, s1, s2⟩ := HJ.out.cells
   exact bodyPost_ret (v := .agg #[.int .i64 P, .int .i64 Q, .slice (some ⟨gq, 0, none⟩) n n]) (by simp [results, Tryz.results254, go_sem, s0, s1, s2]) rfl (by
    rw [HA.out, ← HP.out, ← HQ.out]
    have h := Hown.out
    rw [Nat.add_zero, HM.out, orF_end ⟨wl, wh, hl, hh⟩ Ho.out, ← HM.out] at h
    exact ans_set h (by rw [orL_length, HM.out]) (by omega) HB.out.2.2.2 HK.out)
end Go.Proofs.YtnndifemkichmaaGreat
namespace Go.Proofs.YtnndifemkichmaaGreat
open Go.RowKit
theorem OrA.born (w : World) (X Y : Int) {v : Value} {L : List Int} (hv : RdI w v L) : OrA w X Y v L ((w.alloc (.cells #[.int .i64 X, .int .i64 Y, v] 70)).alloc (.cells #[.int .i64 0, .int .i64 0, .slice none 0 0] 70)) :=
 ⟨(ImAt.new _ _ _ _ _).alloc _, ImAt.newAt (by simp) _ _ _ _, (hv.alloc _).alloc _, belI_call (belI_box _ _) (belI_box _ _)⟩
theorem or_zero {w W : World} {X Y : Int} {v : Value} {L : List Int} (h : OrA w X Y v L W) : AnsIm zeroIm w (.returned (.agg #[.int .i64 0, .int .i64 0, .slice none 0 0])) (((W.setCell ⟨w.heap.size + 1, 0, none⟩ (.int .i64 0)).setCell ⟨w.heap.size + 1, 1, none⟩ (.int .i64 0)).setCell ⟨w.heap.size + 1, 2, none⟩ (.slice none 0 0)) :=
 zeroIm_ans (((h.bw.setCell (by simp) _).setCell (by simp) _).setCell (by simp) _)
set_option maxHeartbeats 600000 in
theorem ordS_bad1 (X Y : Int) (v : Value) (L : List Int) (o : Int) (w : World) (hv : RdI w v L) (h1 : ¬ imOk X Y L) :
  Calls Tryz.prog 219 #[.agg #[.int .i64 X, .int .i64 Y, v], .int .i64 o] w (AnsIm (orIm X Y L o) w) := by
 have HA := Lib.hid (orIm_no (o := o) fun h => h1 h.1)
 have hS := OrA.born w X Y hv
 have H1 := Lib.hid h1
 obtain ⟨A, c, rfl⟩ := hv.form
 clear hv h1
 obtain ⟨a0, a1, a2⟩ := hS.a.cells
 go_enter Tryz.func219, Tryz.ntmps219
 go_wp2_with fail
 refine (imS X Y _ L _ hS.rd).mono ?_
 rintro e w2 ⟨rfl, hb⟩
 replace hS := hS.call hb
 clear hb a0 a1 a2
 rw [imB_no H1.out]
 have hr := hS.r
 obtain ⟨r0, r1, r2⟩ := hr.cells
 have f0 := hr.frozen 0
 have f1 := hr.frozen 1
 have f2 := hr.frozen 2
 have HJ := Lib.hid (hr.set3 0 0 (.slice none 0 0))
 have HS := Lib.hid hS
 clear hr hS
 go_wp2_with fail
 obtain ⟨s0, s1, s2⟩ := HJ.out.cells
 exact bodyPost_ret (v := .agg #[.int .i64 0, .int .i64 0, .slice none 0 0]) (by simp [results, Tryz.results219, go_sem, s0, s1, s2]) rfl (by rw [HA.out]; exact or_zero HS.out)
set_option maxHeartbeats 600000 in
theorem ordS_bad2 (X Y : Int) (v : Value) (L : List Int) (o : Int) (w : World) (hv : RdI w v L) (h1 : imOk X Y L) (ho : ¬ orOk o) :
  Calls Tryz.prog 219 #[.agg #[.int .i64 X, .int .i64 Y, v], .int .i64 o] w (AnsIm (orIm X Y L o) w) := by
 have HA := Lib.hid (orIm_no (X := X) (Y := Y) (L := L) fun h => ho h.2)
 have hS := OrA.born w X Y hv
 have H1 := Lib.hid h1
 have Ho := Lib.hid ho
 have H7 := Lib.hid (or_no ho)
 obtain ⟨A, c, rfl⟩ := hv.form
 clear hv h1 ho
 obtain ⟨a0, a1, a2⟩ := hS.a.cells
 go_enter Tryz.func219, Tryz.ntmps219
 go_wp2_with fail
 refine (imS X Y _ L _ hS.rd).mono ?_
 rintro e w2 ⟨rfl, hb⟩
 replace hS := hS.call hb
 clear hb a0 a1 a2
 rw [imB_yes H1.out]
 go_wp2_with fail
 refine (inS_no o 0 7 _ H7.out).mono ?_
 rintro e w' ⟨rfl, rfl⟩
 have hr := hS.r
 obtain ⟨r0, r1, r2⟩ := hr.cells
 have f0 := hr.frozen 0
 have f1 := hr.frozen 1
 have f2 := hr.frozen 2
 have HJ := Lib.hid (hr.set3 0 0 (.slice none 0 0))
 have HS := Lib.hid hS
 clear hr hS
 go_wp2_with fail
 obtain ⟨s0, s1, s2⟩ := HJ.out.cells
 exact bodyPost_ret (v := .agg #[.int .i64 0, .int .i64 0, .slice none 0 0]) (by simp [results, Tryz.results219, go_sem, s0, s1, s2]) rfl (by rw [HA.out]; exact or_zero HS.out)
theorem ordS_any (X Y : Int) (v : Value) (L : List Int) (o : Int) (w : World) (hv : RdI w v L) :
  Calls Tryz.prog 219 #[.agg #[.int .i64 X, .int .i64 Y, v], .int .i64 o] w (AnsIm (orIm X Y L o) w) := by
 by_cases h1 : imOk X Y L
 ·by_cases ho : orOk o
  ·obtain ⟨W, H, rfl, rfl, _⟩ := im_nat h1
   exact ordS_ok W H v L o w h1 ho hv
  ·exact ordS_bad2 X Y v L o w hv h1 ho
 ·exact ordS_bad1 X Y v L o w hv h1
set_option maxHeartbeats 600000 in
theorem ordI_bad1 (X Y : Int) (v : Value) (L : List Int) (o : Int) (w : World) (hv : RdI w v L) (h1 : ¬ imOk X Y L) :
  Calls Tryz.prog 254 #[.agg #[.int .i64 X, .int .i64 Y, v], .int .i64 o] w (AnsIm (orIm X Y L o) w) := by
 have HA := Lib.hid (orIm_no (o := o) fun h => h1 h.1)
 have hS := OrA.born w X Y hv
 have H1 := Lib.hid h1
 obtain ⟨A, c, rfl⟩ := hv.form
 clear hv h1
 obtain ⟨a0, a1, a2⟩ := hS.a.cells
 go_enter Tryz.func254, Tryz.ntmps254
 go_wp2_with fail
 refine (imI X Y _ L _ hS.rd).mono ?_
 rintro e w2 ⟨rfl, hb⟩
 replace hS := hS.call hb
 clear hb a0 a1 a2
 rw [imB_no H1.out]
 have hr := hS.r
 obtain ⟨r0, r1, r2⟩ := hr.cells
 have f0 := hr.frozen 0
 have f1 := hr.frozen 1
 have f2 := hr.frozen 2
 have HJ := Lib.hid (hr.set3 0 0 (.slice none 0 0))
 have HS := Lib.hid hS
 clear hr hS
 go_wp2_with fail
 obtain ⟨s0, s1, s2⟩ := HJ.out.cells
 exact bodyPost_ret (v := .agg #[.int .i64 0, .int .i64 0, .slice none 0 0]) (by simp [results, Tryz.results254, go_sem, s0, s1, s2]) rfl (by rw [HA.out]; exact or_zero HS.out)
set_option maxHeartbeats 600000 in
theorem ordI_bad2 (X Y : Int) (v : Value) (L : List Int) (o : Int) (w : World) (hv : RdI w v L) (h1 : imOk X Y L) (ho : ¬ orOk o) :
  Calls Tryz.prog 254 #[.agg #[.int .i64 X, .int .i64 Y, v], .int .i64 o] w (AnsIm (orIm X Y L o) w) := by
 have HA := Lib.hid (orIm_no (X := X) (Y := Y) (L := L) fun h => ho h.2)
 have hS := OrA.born w X Y hv
 have H1 := Lib.hid h1
 have Ho := Lib.hid ho
 have H7 := Lib.hid (or_no ho)
 obtain ⟨A, c, rfl⟩ := hv.form
 clear hv h1 ho
 obtain ⟨a0, a1, a2⟩ := hS.a.cells
 go_enter Tryz.func254, Tryz.ntmps254
 go_wp2_with fail
 refine (imI X Y _ L _ hS.rd).mono ?_
 rintro e w2 ⟨rfl, hb⟩
 replace hS := hS.call hb
 clear hb a0 a1 a2
 rw [imB_yes H1.out]
 go_wp2_with fail
 refine (isOrI_no o Ho.out _).mono ?_
 rintro e w' ⟨rfl, rfl⟩
 have hr := hS.r
 obtain ⟨r0, r1, r2⟩ := hr.cells
 have f0 := hr.frozen 0
 have f1 := hr.frozen 1
 have f2 := hr.frozen 2
 have HJ := Lib.hid (hr.set3 0 0 (.slice none 0 0))
 have HS := Lib.hid hS
 clear hr hS
 go_wp2_with fail
 obtain ⟨s0, s1, s2⟩ := HJ.out.cells
 exact bodyPost_ret (v := .agg #[.int .i64 0, .int .i64 0, .slice none 0 0]) (by simp [results, Tryz.results254, go_sem, s0, s1, s2]) rfl (by rw [HA.out]; exact or_zero HS.out)
theorem ordI_any (X Y : Int) (v : Value) (L : List Int) (o : Int) (w : World) (hv : RdI w v L) :
  Calls Tryz.prog 254 #[.agg #[.int .i64 X, .int .i64 Y, v], .int .i64 o] w (AnsIm (orIm X Y L o) w) := by
 by_cases h1 : imOk X Y L
 ·by_cases ho : orOk o
  ·obtain ⟨W, H, rfl, rfl, _⟩ := im_nat h1
   exact ordI_ok W H v L o w h1 ho hv
  ·exact ordI_bad2 X Y v L o w hv h1 ho
 ·exact ordI_bad1 X Y v L o w hv h1
end Go.Proofs.YtnndifemkichmaaGreat
namespace Go.Proofs.YtnndifemkichmaaGreat
open Go.RowKit
theorem tabI_succ (n : Nat) (f : Nat → Int) : tabI (n + 1) f = tabI n f ++ [f n] := by simp [tabI, List.range_succ]
theorem rs_no (S : Nat → Nat → Nat → Nat) {X Y w h : Int} {L : List Int} (h0 : ¬ (imOk X Y L ∧ szOk w h)) : rsIm S X Y L w h = zeroIm := if_neg h0
theorem run_build1I (z : Int) (w : World) : (Instr.buildSlice 31 1 #[(0, .int .i64 z)]).run Tryz.prog w = .ok (.slice (some ⟨w.heap.size, 0, none⟩) 1 1) (w.alloc (.cells #[.int .i64 z] 3)) := by
 kernel_rfl
theorem wp_build1I {op : Oper} {a : Act} {w : World} {K : Act → World → Prop} {Q : Exit → Act → World → Prop} (d : Nat) (x : Operand) (z : Int) (ho : op.op = .buildSlice 31 1 #[(0, x)]) (hx : a.eval x = .int .i64 z) (hd : op.dst = some d)
  (h : ∀ g W', Below w.heap.size w W' → RdI W' (.slice (some ⟨g, 0, none⟩) 1 1) [z] → K (a.put (some d) (.slice (some ⟨g, 0, none⟩) 1 1)) W') : op.wp Tryz.prog a w K Q := by
 have h1 := h w.heap.size (w.alloc (.cells #[.int .i64 z] 3)) (belI_box _ _) (RdI.one (heap_alloc_new w _))
 have hz := run_build1I z w
 unfold Oper.wp execOp
 simp only [ho, List.map_toArray, List.map_cons, List.map_nil, hx, Sem.run_bind, hz, Result.andThen_ok, Sem.run_pure]
 rw [← hd] at h1
 exact h1
theorem wp_append1I {o : Oper} {a : Act} {w : World} {K : Act → World → Prop} {Q : Exit → Act → World → Prop} (s x : Operand)
  (ho : o.op = .call { callee := .builtin .append, args := #[s, x], argTypes := #[31, 31] })
  (base : Nat) (v : Value) (n : Nat) (M : List Int) (hs : a.eval s = v) (hown : w.ownsRow base 3 1 v n (intCells M)) (g : Nat) (z : Int)
  (hx : a.eval x = .slice (some ⟨g, 0, none⟩) 1 1) (hu : RdI w (.slice (some ⟨g, 0, none⟩) 1 1) [z]) (h63 : n ≤ 1000000) (hbase : base ≤ w.heap.size)
  (h : ∀ g' c' w', w'.ownsRow base 3 1 (.slice (some ⟨g', 0, none⟩) (n + 1) c') (n + 1) (intCells (M ++ [z])) → w.grownBy w' v.ownBlock → K (a.put o.dst (.slice (some ⟨g', 0, none⟩) (n + 1) c')) w') : o.wp Tryz.prog a w K Q := by
 refine wp_appendI s x ho base v n (intCells M) hs hown (.slice (some ⟨g, 0, none⟩) 1 1) [z] hx hu (by simp; omega) hbase (fun v' w' h1 h2 _ => ?_)
 rw [← intCells_append, show n + [z].length = n + 1 from rfl] at h1
 obtain ⟨g', c', rfl, _, _⟩ := h1.form (by omega)
 exact h g' c' w' h1 h2
theorem OrA.own {w : World} {X Y : Int} {v : Value} {L : List Int} {W W' : World} {row : Option Nat} (h : OrA w X Y v L W) (hv : ∀ g, v.ownBlock = some g → g < w.heap.size) (hg : W.grownBy W' row) (hk : ∀ k, row = some k → w.heap.size + 2 ≤ k) : OrA w X Y v L W' :=
 ⟨h.a.grown hg (fun e => by have := hk _ e.symm; omega), h.r.grown hg (fun e => by have := hk _ e.symm; omega), h.rd.grown hg (fun g hg2 e => by have := hk _ e.symm; have := hv _ hg2; omega), h.bw.grown hg h.bw.size (fun k e => by have := hk _ e; omega)⟩
structure RsI (w : World) (X Y : Int) (v : Value) (L : List Int) (u : Value) (q : Nat) (M : List Int) (V : World) : Prop where
 o : OrA w X Y v L V
 own : V.ownsRow (w.heap.size + 2) 3 1 u q (intCells M)
theorem RsI.start {w : World} {X Y : Int} {v : Value} {L : List Int} {u : Value} {V V' : World} (h : OrA w X Y v L V) (hv : ∀ g, v.ownBlock = some g → g < w.heap.size) (ho : V'.ownsRow (w.heap.size + 2) 3 1 u 0 []) (hg : V.grownBy V' none) : RsI w X Y v L u 0 [] V' :=
 ⟨h.own hv hg (fun k hk => by cases hk), ho⟩
structure RsS (w : World) (X Y : Int) (v : Value) (L : List Int) (P Q : Int) (bo : Nat) (u : Value) (q : Nat) (M : List Int) (V : World) : Prop where
 o : OrA w X Y v L V
 im : ImAt V bo 70 P Q u
 own : V.ownsRow (bo + 1) 3 1 u q (intCells M)
end Go.Proofs.YtnndifemkichmaaGreat
namespace Go.Proofs.YtnndifemkichmaaGreat
open Go.RowKit
def CmAns (M C : List Int) (w : World) (e : Ending) (w' : World) : Prop :=
 ∃ u v, e = .returned (.agg #[u, v]) ∧ w'.ownsRow w.heap.size 3 1 u M.length (intCells M) ∧ w'.ownsRow w.heap.size 3 1 v C.length (intCells C) ∧ (∀ k, u.ownBlock = some k → v.ownBlock ≠ some k) ∧ Below w.heap.size w w'
end Go.Proofs.YtnndifemkichmaaGreat
namespace Go.Proofs.YtnndifemkichmaaGreat
open Go.RowKit
set_option maxHeartbeats 2000000 in
set_option maxRecDepth 10000 in
theorem rsI_ok (fid : Nat) (S : Nat → Nat → Nat → Nat) (HE : ∀ args w, (callFunc fid args).run Tryz.prog w = .ok (.enter fid args) w)
  (HK : ∀ (f t k : Nat) V, 1 ≤ f ∧ f ≤ 16 → 1 ≤ t ∧ t ≤ 16 → k < t → Calls Tryz.prog fid #[.int .i64 f, .int .i64 t, .int .i64 k] V fun e w' => e = .returned (.int .i64 (S f t k : Nat)) ∧ V = w') (hPl : PlOk S) (W H P Q : Nat) (v : Value) (L : List Int) (w : World) (h1 : imOk W H L) (h2 : szOk P Q) (hv : RdI w v L) :
  Calls Tryz.prog 264 #[.agg #[.int .i64 W, .int .i64 H, v], .int .i64 P, .int .i64 Q, .func (.func fid) #[] #[]] w (AnsIm (rsIm S W H L P Q) w) := by
 obtain ⟨i0, hi, hz0, hz1, hz2⟩ := info_parts infoInt
 have HK := Lib.hid HK
 have HA := Lib.hid (rs_yes S h1 h2)
 obtain ⟨W2, H2, e1, e2, wl, wh, hl, hh, hL⟩ := im_nat h1
 obtain rfl : W = W2 := by exact_mod_cast e1
 obtain rfl : H = H2 := by exact_mod_cast e2
 clear e1 e2
 obtain ⟨P1, P2, Q1, Q2⟩ : 1 ≤ P ∧ P ≤ 16 ∧ 1 ≤ Q ∧ Q ≤ 16 := by unfold szOk at h2; omega
 obtain ⟨gi, c, rfl, hgi, hcu⟩ := rd_block hv (by rw [hL]; exact Nat.mul_pos wl hl)
 have hgu2 : ∀ g, (Value.slice (some ⟨gi, 0, none⟩) L.length c).ownBlock = some g → g < w.heap.size := fun g hg => (Option.some.inj hg) ▸ hgi
 have hS := OrA.born w W H hv
 have HL := Lib.hid hL
 have Hi := Lib.hid h1
 have H2 := Lib.hid h2
 have hL256 : L.length ≤ 256 := by rw [hL]; exact mul_256 wh hh
 obtain ⟨N, hN⟩ : ∃ N, N = P * Q := ⟨_, rfl⟩
 have e1 : (P : Int) * (Q : Int) = (N : Int) := by rw [hN]; simp
 have hN256 : N ≤ 256 := by rw [hN]; exact mul_256 P2 Q2
 have HN := Lib.hid hN
 obtain ⟨F, hF⟩ : ∃ F, F = rsF S W H P Q L := ⟨_, rfl⟩
 have HF := Lib.hid hF
 clear hL h1 h2 hv hN hF
 obtain ⟨a0, a1, a2⟩ := hS.a.cells
 go_enter Tryz.func264, Tryz.ntmps264
 go_wp2_with fail
 refine (imI W H _ L _ hS.rd).mono ?_
 rintro e w2 ⟨rfl, hb⟩
 replace hS := hS.call hb
 clear hb a0 a1 a2
 rw [imB_yes Hi.out]
 go_wp2_with fail
 refine (szI_yes P Q H2.out _).mono ?_
 rintro e w' ⟨rfl, rfl⟩
 have hsz := hS.r.lt
 go_wp2_with (at_make; refine wpList_make_own _ rfl _ _ 31 rfl (w.heap.size + 2) 3 i0 (.int .i64 0) 1 Tryz.underlying31 hi hz0 hz1 .i64 .i64 _ N rfl rfl (by first | rfl | exact e1 | simp) (by rw [hz2]; omega) (by unfold maxLen; omega) (by omega) ?_; intro w1 hown1 hgr1; have HS := Lib.hid (RsI.start hS hgu2 hown1 hgr1); clear hown1 hgr1 hS hsz)
 go_loopg [9, 27] Q (fun gk s9 s27 wr => ∃ (y q cv : Nat) (Av : Option Addr) (V : World), V = wr ∧ y ≤ Q ∧ gk = Q - y ∧ s9 = .slice Av q cv ∧ s27 = .int .i64 y ∧ Hid (q = y * P + 0) ∧ q ≤ 256 ∧ Hid (RsI w W H (.slice (some ⟨gi, 0, none⟩) L.length c) L (.slice Av q cv) q (tabI q F) V))
 case atStart => exact ⟨0, 0, _, _, _, rfl, by omega, by omega, rfl, rfl, Lib.hid (by simp), by omega, HS⟩
 case round =>
  clear HS
  obtain ⟨y, q, cv, Av, wy, hV, hy2, rfl, rfl, rfl, Hq, hq, HS⟩ := hrel
  subst hV
  by_cases hyl : y < Q
  ·have hyi : (y : Int) < (Q : Int) := by omega
   go_wp2_with fail
   go_loopg [9, 31] P (fun g9 s9 s31 wz => ∃ (x q cv : Nat) (Av : Option Addr) (V : World), V = wz ∧ x ≤ P ∧ g9 = P - x ∧ s9 = .slice Av q cv ∧ s31 = .int .i64 x ∧ Hid (q = y * P + x) ∧ q ≤ 256 ∧ Hid (RsI w W H (.slice (some ⟨gi, 0, none⟩) L.length c) L (.slice Av q cv) q (tabI q F) V))
   case atStart => exact ⟨0, q, cv, Av, _, rfl, by omega, by omega, rfl, rfl, Hq, hq, HS⟩
   case round =>
    clear HS Hq hq
    obtain ⟨x, q, cv, Av, wx, hV, hx2, rfl, rfl, rfl, Hq, hq, HS⟩ := hrel
    subst hV
    by_cases hxl : x < P
    ·have hxi : (x : Int) < (P : Int) := by omega
     obtain ⟨a, b, z, ha, hb, ha2, hb2, hk, hz, hF⟩ := rs_src hPl HL.out wl hl hxl hyl
     have HCa : Hid (∀ V, Calls Tryz.prog fid #[.int .i64 W, .int .i64 P, .int .i64 x] V fun e w' => e = .returned (.int .i64 (a : Nat)) ∧ V = w') := Lib.hid (fun V => by have h := HK.out W P x V ⟨wl, wh⟩ ⟨P1, P2⟩ hxl; rw [ha] at h; exact h)
     have HCb : Hid (∀ V, Calls Tryz.prog fid #[.int .i64 H, .int .i64 Q, .int .i64 y] V fun e w' => e = .returned (.int .i64 (b : Nat)) ∧ V = w') := Lib.hid (fun V => by have h := HK.out H Q y V ⟨hl, hh⟩ ⟨Q1, Q2⟩ hyl; rw [hb] at h; exact h)
     have HX : Hid (∀ (V : World), RdI V (.slice (some ⟨gi, 0, none⟩) L.length c) L → Calls Tryz.prog 121 #[.agg #[.int .i64 (W : Int), .int .i64 (H : Int), .slice (some ⟨gi, 0, none⟩) L.length c], .int .i64 (a : Int), .int .i64 (b : Int)] V fun e w' => e = .returned (.int .i64 z) ∧ Below V.heap.size V w') := Lib.hid (fun V h => by
      have h2 := pixelI W H a b _ L V Hi.out (by omega) (by omega) h
      rw [show ((b : Int) * (W : Int) + (a : Int)).toNat = b * W + a by exact_mod_cast Int.toNat_natCast (b * W + a), List.getD_eq_getElem?_getD, hz] at h2
      exact h2)
     have HM : Hid (F (y * P + x) = z) := Lib.hid (by rw [HF.out]; exact hF)
     have hq1 : q + 1 ≤ 256 := by have h5 := plc_lt hxl hyl; rw [← HN.out, ← Hq.out] at h5; omega
     clear ha hb ha2 hb2 hk hz hF
     obtain ⟨a0, a1, a2⟩ := HS.out.o.a.cells
     go_upto_region 10 with fail
     clear a0 a1 a2
     refine wp_region_held_drew (S := fun V => OrA w W H (.slice (some ⟨gi, 0, none⟩) L.length c) L V) (by kernel_rfl) (HS.out.o.call (Below.refl _ _).drew) (fun hS => ?_)
     have hOw := show World.ownsRow wx.drew _ _ _ _ _ _ from HS.out.own
     refine tcH (i := 0) (v := .slice Av q cv) rfl (by intro w' hSw; (try dsimp only at hSw); (obtain ⟨a0, a1, a2⟩ := hSw.a.cells); go_simp) ?_
     refine tcH (i := 1) (v := .agg #[.int .i64 (W : Int), .int .i64 (H : Int), .slice (some ⟨gi, 0, none⟩) L.length c]) rfl (by intro w' hSw; (try dsimp only at hSw); (obtain ⟨a0, a1, a2⟩ := hSw.a.cells); go_simp) ?_
     refine tcH (i := 2) (v := .func (.func fid) #[] #[]) rfl (by intro w' hSw; (try dsimp only at hSw); (obtain ⟨a0, a1, a2⟩ := hSw.a.cells); go_simp) ?_
     refine tcH (i := 3) (v := .pointer (some ⟨w.heap.size, 0, none⟩)) rfl (by intro w' hSw; (try dsimp only at hSw); (obtain ⟨a0, a1, a2⟩ := hSw.a.cells); go_simp) ?_
     refine tcH (i := 4) (v := .int .i64 (W : Int)) rfl (by intro w' hSw; (try dsimp only at hSw); (obtain ⟨a0, a1, a2⟩ := hSw.a.cells); go_simp) ?_
     refine tcH (i := 5) (v := .int .i64 (P : Int)) rfl (by intro w' hSw; (try dsimp only at hSw); (obtain ⟨a0, a1, a2⟩ := hSw.a.cells); go_simp) ?_
     refine tcH (i := 6) (v := .int .i64 (x : Int)) rfl (by intro w' hSw; (try dsimp only at hSw); (obtain ⟨a0, a1, a2⟩ := hSw.a.cells); go_simp) ?_
     refine tcH (i := 8) (v := .func (.func fid) #[] #[]) rfl (by intro w' hSw; (try dsimp only at hSw); (obtain ⟨a0, a1, a2⟩ := hSw.a.cells); go_simp) ?_
     refine tcH (i := 9) (v := .pointer (some ⟨w.heap.size, 1, none⟩)) rfl (by intro w' hSw; (try dsimp only at hSw); (obtain ⟨a0, a1, a2⟩ := hSw.a.cells); go_simp) ?_
     refine tcH (i := 10) (v := .int .i64 (H : Int)) rfl (by intro w' hSw; (try dsimp only at hSw); (obtain ⟨a0, a1, a2⟩ := hSw.a.cells); go_simp) ?_
     refine tcH (i := 11) (v := .int .i64 (Q : Int)) rfl (by intro w' hSw; (try dsimp only at hSw); (obtain ⟨a0, a1, a2⟩ := hSw.a.cells); go_simp) ?_
     refine tcH (i := 12) (v := .int .i64 (y : Int)) rfl (by intro w' hSw; (try dsimp only at hSw); (obtain ⟨a0, a1, a2⟩ := hSw.a.cells); go_simp) ?_
     (try simp only [Act.put]); (try simp only [zPa]); (try simp only [zPb, zPc])
     refine wpAnyH_ready (rs := [7]) (by kernel_rfl) (by simp) ?_
     refine (AllReadyH.cons rfl (fun K hK => ?_) AllReadyH.nil)
     ·rw [if_pos (by kernel_rfl)]
      (try simp only [zGa]); (try simp only [zGb]); (try simp only [zGc])
      go_simp
      with_reducible refine (HCa.out _).mono ?_
      rintro e W' ⟨rfl, rfl⟩
      dsimp only
      skip
      refine hK.out _ _ (hS) (fun hS => ?_)
      clear hK
      (try simp only [Act.put]); (try simp only [zPa]); (try simp only [zPb, zPc])
      refine wpAnyH_ready (rs := [13]) (by kernel_rfl) (by simp) ?_
      refine (AllReadyH.cons rfl (fun K hK => ?_) AllReadyH.nil)
      ·rw [if_pos (by kernel_rfl)]
       (try simp only [zGa]); (try simp only [zGb]); (try simp only [zGc])
       go_simp
       with_reducible refine (HCb.out _).mono ?_
       rintro e W' ⟨rfl, rfl⟩
       dsimp only
       skip
       refine hK.out _ _ (hS) (fun hS => ?_)
       clear hK
       (try simp only [Act.put]); (try simp only [zPa]); (try simp only [zPb, zPc])
       refine wpAnyH_ready (rs := [14]) (by kernel_rfl) (by simp) ?_
       refine (AllReadyH.cons rfl (fun K hK => ?_) AllReadyH.nil)
       ·rw [if_pos (by kernel_rfl)]
        (try simp only [zGa]); (try simp only [zGb]); (try simp only [zGc])
        go_simp
        with_reducible refine (HX.out _ hS.rd).mono ?_
        rintro e W' ⟨rfl, hb⟩
        dsimp only
        have hOw := ownI_call hOw hb
        refine hK.out _ _ (hS.call hb) (fun hS => ?_)
        clear hK
        (try simp only [Act.put]); (try simp only [zPa]); (try simp only [zPb, zPc])
        refine wpAnyH_ready (rs := [15]) (by kernel_rfl) (by simp) ?_
        refine (AllReadyH.cons rfl (fun K hK => ?_) AllReadyH.nil)
        ·rw [if_pos (by kernel_rfl)]
         (try simp only [zGa]); (try simp only [zGb]); (try simp only [zGc])
         refine wp_build1I 49 (.tmp 48) z rfl (by first | with_reducible rfl | (go_simp; done) | rfl) rfl ?_
         intro g5 W' hb hR5
         have hOw := ownI_call hOw hb
         refine hK.out _ _ (hS.call hb) (fun hS => ?_)
         clear hK
         (try simp only [Act.put]); (try simp only [zPa]); (try simp only [zPb, zPc])
         refine wpAnyH_ready (rs := [16]) (by kernel_rfl) (by simp) ?_
         refine (AllReadyH.cons rfl (fun K hK => ?_) AllReadyH.nil)
         ·rw [if_pos (by kernel_rfl)]
          (try simp only [zGa]); (try simp only [zGb]); (try simp only [zGc])
          have hlt := fun g hg => (hOw.lt g hg).1
          have hsz := hS.r.lt
          refine wp_append1I (.tmp 34) (.tmp 49) rfl (w.heap.size + 2) (.slice Av q cv) q (tabI q F) (by first | with_reducible rfl | (go_simp; done) | rfl) hOw g5 z (by first | with_reducible rfl | (go_simp; done) | rfl) hR5 (by omega) (by omega) ?_
          intro g7 c7 w7 hown7 hgr7
          skip
          skip
          refine hK.out _ _ (hS.own hgu2 hgr7 (fun k e => hlt _ e)) (fun hS => ?_)
          clear hK
          (try simp only [Act.put]); (try simp only [zPa]); (try simp only [zPb, zPc])
          refine tcH (i := 17) (v := .slice (some ⟨g7, 0, none⟩) (q + 1) c7) rfl (by intro w' hSw; (try dsimp only at hSw); (obtain ⟨a0, a1, a2⟩ := hSw.a.cells); go_simp) ?_
          refine wpAnyH_done (by kernel_rfl) ?_ _
          go_wp2_with fail
          go_roundg (P - (x + 1))
          case measure => omega
          case rel =>
           refine ⟨x + 1, q + 1, c7, some ⟨g7, 0, none⟩, _, rfl, by omega, by omega, rfl, by go_num, Lib.hid (by rw [Hq.out]; omega), hq1, Lib.hid ⟨hS, ?_⟩⟩
           rw [tabI_succ, show F q = z by rw [Hq.out]; exact HM.out]
           exact hown7
    ·obtain rfl : x = P := by omega
     go_wp2_with fail
     go_roundg (Q - (y + 1))
     case measure => omega
     case rel => exact ⟨y + 1, q, cv, Av, _, rfl, by omega, by omega, rfl, by go_num, Lib.hid (by rw [Hq.out, Nat.add_mul, Nat.one_mul]; rfl), hq, HS⟩
  ·obtain rfl : y = Q := by omega
   have hr := HS.out.o.r
   obtain ⟨r0, r1, r2⟩ := hr.cells
   have f0 := hr.frozen 0
   have f1 := hr.frozen 1
   have f2 := hr.frozen 2
   have HJ := Lib.hid (hr.set3 P y (.slice Av q cv))
   clear hr
   go_wp2_with fail
   obtain ⟨s0, s1, s2⟩ := HJ.out.cells
   exact bodyPost_ret (v := .agg #[.int .i64 P, .int .i64 y, .slice Av q cv]) (by simp [results, Tryz.results264, go_sem, s0, s1, s2]) rfl (by
    rw [HA.out, ← HF.out, show P * y = q by rw [Hq.out, Nat.mul_comm]; rfl]
    exact ans_set HS.out.own (tabI_length _ _) (by omega) (Nat.lt_succ_self _) HS.out.o.bw)
set_option maxHeartbeats 600000 in
theorem rsI_bad1 (fid : Nat) (S : Nat → Nat → Nat → Nat) (X Y P Q : Int) (v : Value) (L : List Int) (w : World) (hv : RdI w v L) (h1 : ¬ imOk X Y L) :
  Calls Tryz.prog 264 #[.agg #[.int .i64 X, .int .i64 Y, v], .int .i64 P, .int .i64 Q, .func (.func fid) #[] #[]] w (AnsIm (rsIm S X Y L P Q) w) := by
 have HA := Lib.hid (rs_no S (X := X) (Y := Y) (L := L) (w := P) (h := Q) (fun h => h1 h.1))
 have hS := OrA.born w X Y hv
 have H1 := Lib.hid h1
 clear h1
 obtain ⟨A, c, rfl⟩ := hv.form
 obtain ⟨a0, a1, a2⟩ := hS.a.cells
 go_enter Tryz.func264, Tryz.ntmps264
 go_wp2_with fail
 refine (imI X Y _ L _ hS.rd).mono ?_
 rintro e w2 ⟨rfl, hb⟩
 replace hS := hS.call hb
 clear hb a0 a1 a2
 rw [imB_no H1.out]
 have hr := hS.r
 obtain ⟨r0, r1, r2⟩ := hr.cells
 have f0 := hr.frozen 0
 have f1 := hr.frozen 1
 have f2 := hr.frozen 2
 have HJ := Lib.hid (hr.set3 0 0 (.slice none 0 0))
 have HS := Lib.hid hS
 clear hr hS
 go_wp2_with fail
 obtain ⟨s0, s1, s2⟩ := HJ.out.cells
 exact bodyPost_ret (v := .agg #[.int .i64 0, .int .i64 0, .slice none 0 0]) (by simp [results, Tryz.results264, go_sem, s0, s1, s2]) rfl (by rw [HA.out]; exact or_zero HS.out)
set_option maxHeartbeats 600000 in
theorem rsI_bad2 (fid : Nat) (S : Nat → Nat → Nat → Nat) (X Y P Q : Int) (v : Value) (L : List Int) (w : World) (hv : RdI w v L) (h1 : imOk X Y L) (h2 : ¬ szOk P Q) :
  Calls Tryz.prog 264 #[.agg #[.int .i64 X, .int .i64 Y, v], .int .i64 P, .int .i64 Q, .func (.func fid) #[] #[]] w (AnsIm (rsIm S X Y L P Q) w) := by
 have HA := Lib.hid (rs_no S (X := X) (Y := Y) (L := L) (w := P) (h := Q) (fun h => h2 h.2))
 have hS := OrA.born w X Y hv
 have H1 := Lib.hid h1
 have H2 := Lib.hid h2
 clear h1 h2
 obtain ⟨A, c, rfl⟩ := hv.form
 obtain ⟨a0, a1, a2⟩ := hS.a.cells
 go_enter Tryz.func264, Tryz.ntmps264
 go_wp2_with fail
 refine (imI X Y _ L _ hS.rd).mono ?_
 rintro e w2 ⟨rfl, hb⟩
 replace hS := hS.call hb
 clear hb a0 a1 a2
 rw [imB_yes H1.out]
 go_wp2_with fail
 refine (szI_no P Q H2.out _).mono ?_
 rintro e w' ⟨rfl, rfl⟩
 have hr := hS.r
 obtain ⟨r0, r1, r2⟩ := hr.cells
 have f0 := hr.frozen 0
 have f1 := hr.frozen 1
 have f2 := hr.frozen 2
 have HJ := Lib.hid (hr.set3 0 0 (.slice none 0 0))
 have HS := Lib.hid hS
 clear hr hS
 go_wp2_with fail
 obtain ⟨s0, s1, s2⟩ := HJ.out.cells
 exact bodyPost_ret (v := .agg #[.int .i64 0, .int .i64 0, .slice none 0 0]) (by simp [results, Tryz.results264, go_sem, s0, s1, s2]) rfl (by rw [HA.out]; exact or_zero HS.out)
theorem rsI_any (fid : Nat) (S : Nat → Nat → Nat → Nat) (HE : ∀ args w, (callFunc fid args).run Tryz.prog w = .ok (.enter fid args) w)
  (HK : ∀ (f t k : Nat) V, 1 ≤ f ∧ f ≤ 16 → 1 ≤ t ∧ t ≤ 16 → k < t → Calls Tryz.prog fid #[.int .i64 f, .int .i64 t, .int .i64 k] V fun e w' => e = .returned (.int .i64 (S f t k : Nat)) ∧ V = w') (hPl : PlOk S) (X Y P Q : Int) (v : Value) (L : List Int) (w : World) (hv : RdI w v L) :
  Calls Tryz.prog 264 #[.agg #[.int .i64 X, .int .i64 Y, v], .int .i64 P, .int .i64 Q, .func (.func fid) #[] #[]] w (AnsIm (rsIm S X Y L P Q) w) := by
 by_cases h1 : imOk X Y L
 ·by_cases h2 : szOk P Q
  ·obtain ⟨W, H, rfl, rfl, _⟩ := im_nat h1
   obtain ⟨p, q, rfl, rfl, _⟩ := sz_nat h2
   exact rsI_ok fid S HE HK hPl W H p q v L w h1 h2 hv
  ·exact rsI_bad2 fid S X Y P Q v L w hv h1 h2
 ·exact rsI_bad1 fid S X Y P Q v L w hv h1
theorem enterP (args : Array Value) (w : World) : (callFunc 265 args).run Tryz.prog w = .ok (.enter 265 args) w := by simp [go_sem]
set_option maxHeartbeats 600000 in
theorem sclI_any (X Y P Q : Int) (v : Value) (L : List Int) (w : World) (hv : RdI w v L) :
  Calls Tryz.prog 253 #[.agg #[.int .i64 X, .int .i64 Y, v], .int .i64 P, .int .i64 Q] w (AnsIm (rsIm sclN X Y L P Q) w) := by
 obtain ⟨I, hI⟩ : ∃ I, I = rsIm sclN X Y L P Q := ⟨_, rfl⟩
 have R := fun W v h => rsI_any 265 sclN enterP (fun f t k V h1 h2 h3 => scI_yes h1 h2 h3 V) scl_ok X Y P Q v L W h
 unfold AnsIm ImAns at R
 rw [← hI] at R ⊢
 obtain ⟨D, E, M⟩ := I
 dsimp only at R
 have HR := Lib.hid R
 clear R hI
 have hS := OrA.born w X Y hv
 obtain ⟨A, c, rfl⟩ := hv.form
 obtain ⟨a0, a1, a2⟩ := hS.a.cells
 go_enter Tryz.func253, Tryz.ntmps253
 go_wp2_with fail
 refine (HR.out _ _ hS.rd).mono ?_
 rintro e w2 ⟨u, rfl, own, hb⟩
 replace hS := hS.call hb
 clear hb a0 a1 a2
 obtain ⟨A2, c2, hu⟩ := ownI_shape own
 subst hu
 have hr := hS.r
 obtain ⟨r0, r1, r2⟩ := hr.cells
 have f0 := hr.frozen 0
 have f1 := hr.frozen 1
 have f2 := hr.frozen 2
 have HJ := Lib.hid (hr.set3 D E (.slice A2 M.length c2))
 have HS := Lib.hid hS
 have HO := Lib.hid (own.mono (show w.heap.size + 2 ≤ _ by simp))
 clear hr hS own
 go_wp2_with fail
 obtain ⟨s0, s1, s2⟩ := HJ.out.cells
 exact bodyPost_ret (v := .agg #[.int .i64 D, .int .i64 E, .slice A2 M.length c2]) (by simp [results, Tryz.results253, go_sem, s0, s1, s2]) rfl (ans_set HO.out rfl (by omega) (Nat.lt_succ_self _) HS.out.bw)
end Go.Proofs.YtnndifemkichmaaGreat
namespace Go.Proofs.YtnndifemkichmaaGreat
open Go.RowKit
theorem partS (r : Rc) (M2 M : Nat) (a1 : 1 ≤ M2) (a2 : M2 ≤ 16) (b1 : 1 ≤ M) (b2 : M ≤ 16) (w : World) :
  Calls Tryz.prog 164 #[.agg #[.int .i64 r.x, .int .i64 r.y, .int .i64 r.w, .int .i64 r.h], .agg #[.int .i64 0, .int .i64 0, .int .i64 M2, .int .i64 M]] w
   fun e w' => (∃ X Y n h : Nat, e = .returned (.agg #[.int .i64 X, .int .i64 Y, .int .i64 n, .int .i64 h]) ∧ X + n ≤ M2 ∧ Y + h ≤ M ∧ (h = 0 ∨ 1 ≤ n) ∧ Hid (∀ p q : Nat, ((X ≤ p ∧ p < X + n ∧ Y ≤ q ∧ q < Y + h) ↔ (hasB r p q = true ∧ p < M2 ∧ q < M)))) ∧ Below w.heap.size w w' := by
 refine (isectS_any r ⟨0, 0, M2, M⟩ w).mono ?_
 rintro e w' ⟨rfl, hb⟩
 obtain ⟨X, Y, n, h, he, h1, h2, h3, h4⟩ := part_nat r M2 M a1 a2 b1 b2
 exact ⟨⟨X, Y, n, h, by rw [he], h1, h2, h3, h4⟩, hb⟩
end Go.Proofs.YtnndifemkichmaaGreat
namespace Go.Proofs.YtnndifemkichmaaGreat
open Go.RowKit
theorem thr_mod (x y : Int) : thr (x % 2) (y % 2) = thr x y := by unfold thr; simp [Int.emod_emod_of_dvd]
def sqP (p : Int × Int) : Prop := (p.1 = 0 ∨ p.1 = 1) ∧ (p.2 = 0 ∨ p.2 = 1)
def sqAll (E : List (Int × Int)) : Bool := E.all fun p => (p.1 == 0 || p.1 == 1) && (p.2 == 0 || p.2 == 1)
theorem sqAll_at {E : List (Int × Int)} (h : sqAll E = true) (p : Int × Int) (hp : p ∈ E) : sqP p := by
 unfold sqAll at h
 have := List.all_eq_true.1 h p hp
 simpa [sqP] using this
def sqFull (E : List (Int × Int)) : Bool := E.contains (0, 0) && E.contains (1, 0) && E.contains (0, 1) && E.contains (1, 1)
theorem sqFull_at {E : List (Int × Int)} (h : sqFull E = true) (i j : Int) (hi : i = 0 ∨ i = 1) (hj : j = 0 ∨ j = 1) : (i, j) ∈ E := by
 unfold sqFull at h
 simp at h
 obtain ⟨⟨⟨h0, h1⟩, h2⟩, h3⟩ := h
 rcases hi with rfl | rfl <;> rcases hj with rfl | rfl <;> assumption
def sqE (p : Int × Int) : Value × Value := (.agg #[.int .i64 p.1, .int .i64 p.2], .int .i64 (thr p.1 p.2))
def MpAt (V : World) (b : Nat) (E : List (Int × Int)) : Prop :=
 ∃ es n, V.heap[b]? = some (.map es n) ∧ es.toList.map (fun e => (e.key, e.val)) = E.map sqE
theorem MpAt.call {V V' : World} {b : Nat} {E : List (Int × Int)} (h : MpAt V b E) (hb : Below V.heap.size V V') : MpAt V' b E := by
 obtain ⟨es, n, h1, h2⟩ := h
 exact ⟨es, n, (hb.block b (Array.getElem?_eq_some_iff.1 h1).1).trans h1, h2⟩
theorem MpAt.made (V : World) : MpAt (V.alloc (.map #[] 0)) V.heap.size [] := ⟨#[], 0, heap_alloc_new V _, rfl⟩
theorem eq_place (i j p q : Int) (hi : i = 0 ∨ i = 1) (hj : j = 0 ∨ j = 1) (hp : p = 0 ∨ p = 1) (hq : q = 0 ∨ q = 1) (w : World) :
  (Op.equal 261 (.agg #[.int .i64 i, .int .i64 j]) (.agg #[.int .i64 p, .int .i64 q])).run Tryz.prog w = .ok (decide ((i, j) = (p, q))) w := by
 rcases hi with rfl | rfl <;> rcases hj with rfl | rfl <;> rcases hp with rfl | rfl <;> rcases hq with rfl | rfl <;> kernel_rfl
theorem check_place (e : Bool) (i j : Int) (w : World) : (Instr.checkKey e 10000 261 (.agg #[.int .i64 i, .int .i64 j])).run Tryz.prog w = .ok () w := by kernel_rfl
theorem ask_place (i j : Int) (hi : i = 0 ∨ i = 1) (hj : j = 0 ∨ j = 1) (w : World) : ∀ (E : List (Int × Int)) (es : List MapEntry) (n : Nat), (∀ p ∈ E, sqP p) → es.map (fun e => (e.key, e.val)) = E.map sqE →
    ((i, j) ∉ E → (Instr.findAsking 261 (.agg #[.int .i64 i, .int .i64 j]) es n).run Tryz.prog w = .ok none w) ∧
    ((i, j) ∈ E → ∃ m, (Instr.findAsking 261 (.agg #[.int .i64 i, .int .i64 j]) es n).run Tryz.prog w = .ok (some (m, .int .i64 (thr i j))) w)
  | [], es, n, _, h => by
    have : es = [] := by simpa using h
    subst this
    exact ⟨fun _ => rfl, fun h => by simp at h⟩
  | p :: E, [], n, _, h => by simp at h
  | p :: E, e :: es, n, hE, h => by
    simp only [List.map_cons, List.cons.injEq] at h
    obtain ⟨h1, h3⟩ := h
    have hk : e.key = .agg #[.int .i64 p.1, .int .i64 p.2] := congrArg Prod.fst h1
    have hv : e.val = .int .i64 (thr p.1 p.2) := congrArg Prod.snd h1
    have hp := hE p (by simp)
    have he := eq_place i j p.1 p.2 hi hj hp.1 hp.2 w
    have ih := ask_place i j hi hj w E es (n + 1) (fun q hq => hE q (by simp [hq])) h3
    unfold Instr.findAsking
    rw [hk]
    by_cases e0 : (i, j) = (p.1, p.2)
    · have e1 : i = p.1 := congrArg Prod.fst e0
      have e2 : j = p.2 := congrArg Prod.snd e0
      rw [decide_eq_true e0] at he
      refine ⟨fun hn => absurd (by rw [e0]; simp) hn, fun _ => ⟨n, ?_⟩⟩
      simp only [Sem.run_bind, he, Result.andThen_ok, if_true]
      rw [hv, e1, e2]; rfl
    · rw [decide_eq_false e0] at he
      have hne : ((i, j) ∈ p :: E) ↔ (i, j) ∈ E := by
        rw [List.mem_cons]
        exact ⟨fun h => h.resolve_left (fun h => e0 h), .inr⟩
      simp only [Sem.run_bind, he, Result.andThen_ok, hne]
      exact ih
theorem find_place (i j : Int) (hi : i = 0 ∨ i = 1) (hj : j = 0 ∨ j = 1) (w : World) (E : List (Int × Int)) (es : List MapEntry) (hE : ∀ p ∈ E, sqP p) (h : es.map (fun e => (e.key, e.val)) = E.map sqE) :
  ((i, j) ∉ E → (Instr.findKey 261 (.agg #[.int .i64 i, .int .i64 j]) es).run Tryz.prog w = .ok none w) ∧
  ((i, j) ∈ E → ∃ m, (Instr.findKey 261 (.agg #[.int .i64 i, .int .i64 j]) es).run Tryz.prog w = .ok (some (m, .int .i64 (thr i j))) w) := by
 have h1 := ask_place i j hi hj w E es 0 hE h
 have hk : (Instr.findKey 261 (.agg #[.int .i64 i, .int .i64 j]) es).run Tryz.prog w = (Instr.findAsking 261 (.agg #[.int .i64 i, .int .i64 j]) es 0).run Tryz.prog w := by
  unfold Instr.findKey
  simp only [Sem.run_bind, run_underlying Tryz.underlying261, Result.andThen_ok]
  cases es <;> rfl
 rw [hk]
 exact h1
theorem put_place {w : World} {b : Nat} {E : List (Int × Int)} (h : MpAt w b E) (hE : sqAll E = true) (i j : Int) (hi : i = 0 ∨ i = 1) (hj : j = 0 ∨ j = 1) (hn : (i, j) ∉ E) :
  ∃ w', (Instr.mapUpdate 258 (.map (some b)) (.agg #[.int .i64 i, .int .i64 j]) (.int .i64 (thr i j))).run Tryz.prog w = .ok () w' ∧ MpAt w' b (E ++ [(i, j)]) ∧ w.grownBy w' (some b) := by
 obtain ⟨es, n, h1, h2⟩ := h
 have hf := (find_place i j hi hj w E es.toList (sqAll_at hE) h2).1 hn
 have hlt := (Array.getElem?_eq_some_iff.1 h1).1
 refine ⟨{ w with heap := w.heap.setIfInBounds b (.map (es.push { key := .agg #[.int .i64 i, .int .i64 j], val := .int .i64 (thr i j), born := n }) (n + 1)) }, ?_, ⟨es.push { key := .agg #[.int .i64 i, .int .i64 j], val := .int .i64 (thr i j), born := n }, n + 1, ?_, ?_⟩, ⟨rfl, rfl, rfl, ?_, ?_⟩⟩
 ·unfold Instr.mapUpdate
  simp only [Sem.run_bind, run_underlying Tryz.underlying258, Result.andThen_ok, MapKept.run_getObj_map h1, check_place, hf, MapKept.run_setObj_map _ h1]
 ·simp [hlt]
 ·simp [h2, sqE]
 ·simp
 ·intro k _ hk
  have : b ≠ k := fun e => hk (by rw [e])
  simp [this]
theorem look_place {w : World} {b : Nat} {E : List (Int × Int)} (h : MpAt w b E) (hE : sqAll E = true) (hF : sqFull E = true) (i j : Int) (hi : i = 0 ∨ i = 1) (hj : j = 0 ∨ j = 1) :
  (Instr.lookup 258 (.map (some b)) (.agg #[.int .i64 i, .int .i64 j]) false).run Tryz.prog w = .ok (.int .i64 (thr i j)) w := by
 obtain ⟨es, n, h1, h2⟩ := h
 obtain ⟨m, hf⟩ := (find_place i j hi hj w E es.toList (sqAll_at hE) h2).2 (sqFull_at hF i j hi hj)
 unfold Instr.lookup
 simp only [Sem.run_bind, run_underlying Tryz.underlying258, Result.andThen_ok, MapKept.run_getObj_map h1, check_place, hf, Sem.run_pure]
 rfl
theorem wp_insert_place {op : Oper} {a : Act} {w : World} {K : Act → World → Prop} {Q : Exit → Act → World → Prop} (m k x : Operand) (ho : op.op = .insert 258 m k x) (b : Nat) (E : List (Int × Int)) (i j t : Int) (hm : a.eval m = .map (some b)) (hk : a.eval k = .agg #[.int .i64 i, .int .i64 j]) (hx : a.eval x = .int .i64 t) (ht : t = thr i j)
  (hi : i = 0 ∨ i = 1) (hj : j = 0 ∨ j = 1) (h : MpAt w b E) (hE : sqAll E = true) (hn : (i, j) ∉ E)
  (H : ∀ W', MpAt W' b (E ++ [(i, j)]) → w.grownBy W' (some b) → K (a.put op.dst undef) W') : op.wp Tryz.prog a w K Q := by
 obtain ⟨w', h1, h2, h3⟩ := put_place h hE i j hi hj hn
 have h4 := H w' h2 h3
 subst ht
 unfold Oper.wp execOp
 simp only [ho, hm, hk, hx, Sem.run_bind, Sem.run_pure, Result.andThen_ok, h1]
 exact h4
theorem wp_makeMap_place {op : Oper} {a : Act} {w : World} {K : Act → World → Prop} {Q : Exit → Act → World → Prop} (d : Nat) (ho : op.op = .makeMap 258 none) (hd : op.dst = some d)
  (H : ∀ b W', Below w.heap.size w W' → MpAt W' b [] → w.heap.size ≤ b → K (a.put (some d) (.map (some b))) W') : op.wp Tryz.prog a w K Q := by
 have h1 := H w.heap.size (w.alloc (.map #[] 0)) ((Below.refl _ _).alloc (Nat.le_refl _) _) (MpAt.made w) (Nat.le_refl _)
 have hz := run_makeMap (P := Tryz.prog) 258 w
 unfold Oper.wp execOp
 simp only [ho, Option.map_none, Sem.run_bind, hz, Result.andThen_ok, Sem.run_pure]
 rw [← hd] at h1
 exact h1
end Go.Proofs.YtnndifemkichmaaGreat
