/- Texts of mine in one file: ImC, ImN, ImM, ImD, ImE, CpyB, DifB, CrpB, SameIm, Law, Lk, SnM, SlU, SlE, SlC, SnC, EdM, PlW, OcJ, OcK, LyM, DmK, SsM. No statement is proved here. -/
import Derived.Test.YtokniebejilcbaaGreatMA
import Derived.Test.YtokniebejilcbaaGreatMC
import Derived.Test.YtokniebejilcbaaGreatProg
import Derived.WalkKit
import Derived.ProofKit
import Derived.OpenShut
import Derived.WalkLawsBesides
import Derived.WalkSpells
import Derived.ShutString
import Derived.ChangeOld
import Derived.Below
import Derived.Lib.Hide
import Derived.BigQuiet
import Derived.Deep.QuietTactic
import Derived.Maps.AppendAt
import Derived.Deep.OwnRows
import Derived.Handy
import Derived.Deep.Draws
import Derived.OwnWalk
import Derived.Deep.AppendLies
import Derived.Deep.LoopGhost
import Derived.Deep.Onto
import Derived.Test.YtokniebejilcbaaGreatShelf
import Derived.Laws.CopyOwn
import Derived.Deep.RegionLaw
import Derived.Deep.RegionHeld3
import Derived.Deep.DeepCutAuto
import Derived.Great.BuildSlice
import Derived.Laws.BitsAllLaws
import Derived.Lib.QuoteBits
import Derived.Deep.MidRow
import Derived.Deep.WholeRow
import Derived.Laws.AppendOwn
import Derived.Shelf.RegionOpenPlain
import Derived.Lib.SliceRun
import Derived.Deep.RegionWith
import Derived.ChangeKeysEq
import Derived.Deep.DeepAppendRoom
import Derived.Maps.RangeWalk
import Derived.Maps.OwnOps
namespace Go.Proofs.YtokniebejilcbaaGreat
open Go.RowKit
theorem splice_get {α : Type} (L C : List α) (off k : Nat) (h : off + C.length ≤ L.length) : (splice L off C)[k]? = if off ≤ k ∧ k < off + C.length then C[k - off]? else L[k]? := by
 unfold splice
 by_cases h1 : k < off
 ·rw [if_neg (by omega), List.getElem?_append_left (by rw [List.length_take]; omega), List.getElem?_take_of_lt h1]
 ·have ht : (L.take off).length = off := by rw [List.length_take]; omega
  rw [List.getElem?_append_right (by omega), ht]
  by_cases h2 : k < off + C.length
  ·rw [if_pos ⟨by omega, h2⟩, List.getElem?_append_left (by omega)]
  ·rw [if_neg (by omega), List.getElem?_append_right (by omega), List.getElem?_drop]
   congr 1
   omega
theorem splice_tabI (n : Nat) (f : Nat → Int) (k m : Nat) (h : Nat → Int) (hk : k + m ≤ n) :
  splice (intCells (tabI n f)) k (intCells (tabI m h)) = intCells (tabI n (fun j => if k ≤ j ∧ j < k + m then h (j - k) else f j)) := by
 apply List.ext_getElem?
 intro j
 rw [splice_get _ _ _ _ (by rw [intCells_length, intCells_length, tabI_length, tabI_length]; exact hk), intCells_length, tabI_length, intCells_get, intCells_get, intCells_get]
 by_cases hj : j < n
 ·rw [tabI_get n f j hj, tabI_get n _ j hj]
  by_cases h1 : k ≤ j ∧ j < k + m
  ·rw [if_pos h1, if_pos h1, tabI_get m h (j - k) (by omega)]
  ·rw [if_neg h1, if_neg h1]
 ·rw [if_neg (by omega), List.getElem?_eq_none (by rw [tabI_length]; omega), List.getElem?_eq_none (by rw [tabI_length]; omega)]
theorem list_take_splice {α : Type} (cur cs : List α) (off n : Nat) (h : off + cs.length ≤ n) (hn : n ≤ cur.length) : (cur.take off ++ cs ++ cur.drop (off + cs.length)).take n = splice (cur.take n) off cs := by
 have e : cur.take off ++ cs ++ cur.drop (off + cs.length) = splice cur off cs := by unfold splice; rw [List.append_assoc]
 rw [e]
 apply List.ext_getElem?
 intro j
 by_cases hj : j < n
 ·rw [List.getElem?_take_of_lt hj, splice_get _ _ _ _ (by omega), splice_get _ _ _ _ (by rw [List.length_take]; omega), List.getElem?_take_of_lt hj]
 ·rw [List.getElem?_eq_none (by rw [List.length_take]; omega), List.getElem?_eq_none (by rw [length_splice _ _ _ (by rw [List.length_take]; omega), List.length_take]; omega)]
theorem run_copy_own {P : Program} (w : World) (dT sT ty elem : TypeId) (base : Nat) (g off n cap dLen dCap : Nat) (ad : Addr) (sLen sCap : Nat) (xs cs : List Value) (m : Nat) (hcm : cs.length = m)
  (hu : P.underlying dT = some (.slice elem)) (hs : (P.info? elem).map (·.size) = some 1)
  (hown : w.ownsRow base elem 1 (.slice (some ⟨g, 0, none⟩) n cap) n xs) (hn : m = Nat.min sLen dLen)
  (hsrc : ∀ j v, cs[j]? = some v → w.cell? (ad.add j) = some v) (hfit : off + m ≤ n) (h1 : ∀ v ∈ cs, v.oneCell' = true) :
  ∃ w', (Builtin.copy_ #[dT, sT] ty #[.slice (some ⟨g, off, none⟩) dLen dCap, .slice (some ad) sLen sCap]).run P w = .ok (goInt m) w' ∧
   w'.ownsRow base elem 1 (.slice (some ⟨g, 0, none⟩) n cap) n (splice xs off cs) ∧ w.grownBy w' (some g) := by
 subst hcm
 obtain ⟨hl, h⟩ := hown
 rcases h with ⟨h, _⟩ | ⟨g', cap', cur, he, hB, hh, hnc, hcm, hcs, ht⟩
 ·cases h
 ·cases he
  refine ⟨_, run_copy_row (P := P) w dT sT ty elem g off dLen dCap ad sLen sCap cur elem cs hu hs hh hn hsrc (by rw [hcs]; omega) h1, ?_, ?_⟩
  ·have hcl : cur.toList.length = cap := by rw [Array.length_toList]; omega
   refine ⟨by rw [length_splice _ _ _ (by rw [hl]; omega)]; exact hl, .inr ⟨g, cap, _, rfl, hB, setRow_heap w g cur _ _ _ hh, hnc, hcm, ?_, ?_⟩⟩
   ·simp; omega
   ·rw [← ht]
    show List.take (n * 1) _ = splice (List.take (n * 1) cur.toList) off cs
    rw [Nat.mul_one]
    exact list_take_splice _ _ _ _ hfit (by omega)
  ·exact ⟨rfl, rfl, rfl, by simp [World.setRow], fun k _ hk => setRow_other w g k _ (fun e => hk (by rw [e]))⟩
theorem step_copy_mine {P : Program} {ops : Array Oper} {o : Oper} {a : Act} {w : World} {K : Act → World → Prop} {Q : Exit → Act → World → Prop} {E : Prop} (hgd : o.guard = none) (d s : Operand) (dT sT : TypeId)
  (ho : o.op = .call { callee := .builtin .copy, args := #[d, s], argTypes := #[dT, sT] }) (elem : TypeId) (hu : P.underlying dT = some (.slice elem)) (hsz : (P.info? elem).map (·.size) = some 1)
  (base g off n cap dLen dCap : Nat) (ad : Addr) (sLen sCap : Nat) (xs cs : List Value) (m : Nat) (hcm : cs.length = m) (hd : a.eval d = .slice (some ⟨g, off, none⟩) dLen dCap) (hs : a.eval s = .slice (some ad) sLen sCap)
  (hown : w.ownsRow base elem 1 (.slice (some ⟨g, 0, none⟩) n cap) n xs) (hn : m = Nat.min sLen dLen)
  (hsrc : ∀ j v, cs[j]? = some v → w.cell? (ad.add j) = some v) (hfit : off + m ≤ n) (h1 : ∀ v ∈ cs, v.oneCell' = true)
  (h : ∀ w', Hid (w'.ownsRow base elem 1 (.slice (some ⟨g, 0, none⟩) n cap) n (splice xs off cs)) → Hid (w.grownBy w' (some g)) → K (a.put o.dst (goInt m)) w') :
  if Region.wanted o (yielded ops a.tmps) = true then Oper.wp P o a w K Q else E := by
 have hw : Region.wanted o (yielded ops a.tmps) = true := by simp [Region.wanted, hgd]
 rw [if_pos hw]
 obtain ⟨w', hrun, h2, h3⟩ := run_copy_own (P := P) w dT sT o.type elem base g off n cap dLen dCap ad sLen sCap xs cs m hcm hu hsz hown hn hsrc hfit h1
 unfold Oper.wp
 simp [execOp, ho, resolve, invoke, builtin, hd, hs, hrun, Result.andThen]
 exact h w' h2 h3
theorem wrap_in (x : Int) (h0 : -9223372036854775808 ≤ x) (h1 : x ≤ 9223372036854775807) : IntKind.i64.wrap x = x := by
 simp [IntKind.wrap, IntKind.bits, IntKind.signed]; omega
theorem cell_new1 (w : World) (v : Value) (t : TypeId) : (w.alloc (.cells #[v] t)).cell? ⟨w.heap.size, 0, none⟩ = some v := by
 rw [cell_of_row _ _ _ _ _ _ (heap_alloc_new w _)]; rfl
theorem cell_newAt {w : World} {g : Nat} (h : w.heap.size = g) (v : Value) (t : TypeId) : (w.alloc (.cells #[v] t)).cell? ⟨g, 0, none⟩ = some v := h ▸ cell_new1 w v t
theorem szInt : (Tryz.prog.info? 3).map (·.size) = some 1 := by kernel_rfl
theorem mul_one' (n : Nat) (h : n ≤ 256) (w : World) :
  Calls Tryz.prog 176 #[.int .u64 1, .int .u64 n] w fun e w' => e = .returned (.tuple #[.int .u64 0, .int .u64 n]) ∧ w' = w := by
 have h1 := Tryz.bits_Mul 1 n (by omega) (by omega) w
 rw [Nat.one_mul, Nat.div_eq_of_lt (by omega), Nat.mod_eq_of_lt (by omega)] at h1
 exact h1
def fillF (p : Int) (k : Nat) : Nat → Int := fun j => if j < k then p else 0
theorem fillF_more (p : Int) (n k m : Nat) (hk : k + m ≤ n) : splice (intCells (tabI n (fillF p k))) k (intCells (tabI m (fun _ => p))) = intCells (tabI n (fillF p (k + m))) := by
 rw [splice_tabI n _ k m _ hk]
 congr 1
 refine tabI_congr n fun j _ => ?_
 unfold fillF
 by_cases h1 : k ≤ j ∧ j < k + m
 ·rw [if_pos h1, if_pos h1.2]
 ·rw [if_neg h1]
  by_cases h2 : j < k
  ·rw [if_pos h2, if_pos (by omega)]
  ·rw [if_neg h2, if_neg (by omega)]
theorem fillF_own {w : World} {B g n cap k m : Nat} {p : Int} (h : w.ownsRow B 3 1 (.slice (some ⟨g, 0, none⟩) n cap) n (intCells (tabI n (fillF p k)))) (hm : m ≤ k) (hk : m ≤ n) :
  ∀ j v, (intCells (tabI m (fun _ => p)))[j]? = some v → w.cell? ((⟨g, 0, none⟩ : Addr).add j) = some v := by
 intro j v hv
 rw [intCells_get] at hv
 obtain ⟨x, hx, rfl⟩ := Option.map_eq_some_iff.1 hv
 have hj : j < m := by have := (List.getElem?_eq_some_iff.1 hx).1; rwa [tabI_length] at this
 rw [tabI_get m _ j hj] at hx
 injection hx with hx
 subst hx
 refine h.cells (g := g) rfl j _ ?_
 rw [intCells_get, tabI_get n _ j (by omega)]
 unfold fillF
 rw [if_pos (by omega)]
 rfl
def RepAns (n : Nat) (p : Int) (w : World) (e : Ending) (w' : World) : Prop :=
 ∃ v, e = .returned v ∧ w'.ownsRow w.heap.size 3 1 v n (intCells (tabI n (fun _ => p))) ∧ Below w.heap.size w w'
set_option maxHeartbeats 600000 in
set_option maxRecDepth 10000 in
theorem repI (p : Int) (n : Nat) (h1 : 1 ≤ n) (h2 : n ≤ 256) (g : Nat) (w : World) (hc : w.cell? ⟨g, 0, none⟩ = some (.int .i64 p)) :
  Calls Tryz.prog 175 #[.slice (some ⟨g, 0, none⟩) 1 1, .int .i64 n] w (RepAns n p w) := by
 have hgl := World.block_lt_of_cell? w _ hc
 have hmk := fun W => run_make_row' (P := Tryz.prog) 53 3 (.int .i64 0) 8 Tryz.underlying53 infoInt rfl .i64 .i64 n (by omega) (by omega) W
 have n0 : (1 : Int) ≤ (n : Int) := by omega
 have n1 : (n : Int) ≤ 256 := by omega
 have hx0 : tabI 1 (fun _ => p) = [p] := rfl
 go_enter Tryz.func175, Tryz.ntmps175
 go_wp2_with fail
 refine (mul_one' n h2 _).mono ?_
 rintro e w' ⟨rfl, rfl⟩
 go_wp2_with fail
 have hown0 : (w'.alloc (.cells (madeCells #[.int .i64 0] n) 3)).ownsRow w'.heap.size 3 1 (.slice (some ⟨w'.heap.size, 0, none⟩) n n) n (intCells (tabI n (fillF p 0))) :=
  own_of_rowIs (World.rowIs_made _ _ _ _) (Nat.le_refl _) (by unfold maxLen; omega) (tabI_length _ _) (fun j x hx => by
   have hj : j < n := by have := (List.getElem?_eq_some_iff.1 hx).1; rwa [tabI_length] at this
   rw [tabI_get n _ j hj] at hx
   injection hx with hx
   rw [← hx]; rfl)
 obtain ⟨w2, hrun, hown2, hgr2⟩ := run_copy_own (P := Tryz.prog) _ 53 53 3 3 w'.heap.size w'.heap.size 0 n n n n ⟨g, 0, none⟩ 1 1 _ (intCells (tabI 1 (fun _ => p))) 1 (by rw [intCells_length, tabI_length]) Tryz.underlying53 szInt hown0
  (by show 1 = min 1 n; omega)
  (by
   intro j v hv
   rw [hx0] at hv
   have hj : j = 0 := by have := (List.getElem?_eq_some_iff.1 hv).1; simp [intCells] at this; exact this
   subst hj
   simp [intCells] at hv
   subst hv
   exact (World.cell?_of_block (Below.heap_alloc w' _ g hgl)).trans hc) (by omega) (intCells_one _)
 rw [fillF_more p n 0 1 (by omega)] at hown2
 have hb2 : Below w'.heap.size w' w2 := ((Below.refl _ _).alloc (Nat.le_refl _) _).grown hgr2 (by simp) (fun k hk => by injection hk with hk; omega)
 have Hown2 := Lib.hid hown2
 simp only [hrun, Result.andThen_ok]
 clear hrun hown0 hown2 hgr2 hmk hx0
 go_wp2_with fail
 go_loopw [8] (fun s wr => ∃ k : Nat, 1 ≤ k ∧ k ≤ n ∧ s = .int .i64 k ∧ Hid (wr.ownsRow w'.heap.size 3 1 (.slice (some ⟨w'.heap.size, 0, none⟩) n n) n (intCells (tabI n (fillF p k)))) ∧ Below w'.heap.size w' wr) (fun s _ => n - (intOf s).toNat)
 case atStart => exact ⟨1, Nat.le_refl _, h1, rfl, Hown2, hb2⟩
 case round =>
  clear hb2 Hown2 hc
  obtain ⟨k, hk1, hk2, rfl, Hown, hb⟩ := hrel
  by_cases hlt : k < n
  ·obtain ⟨m, hm⟩ : ∃ m, m = Nat.min k (n - k) := ⟨_, rfl⟩
   have hm2 : m = min k (n - k) := hm
   have hm3 : 1 ≤ m ∧ m ≤ k ∧ k + m ≤ n := by omega
   obtain ⟨m1, m2, m4⟩ := hm3
   have k0 : (0 : Int) ≤ (k : Int) := by omega
   have k1 : (k : Int) < (n : Int) := by omega
   have Hm := Lib.hid hm
   clear hm hm2
   go_wp2_with fail
   go_region_held3 (fun _ => True) (trivial) ((refine step_copy_mine rfl (.tmp 41) (.tmp 44) 53 53 (by rfl) 3 Tryz.underlying53 szInt w'.heap.size w'.heap.size k n n (n - k) (n - k) ⟨w'.heap.size, 0, none⟩ k n _ (intCells (tabI m (fun _ => p))) m (by rw [intCells_length, tabI_length]) (by simp [Act.eval]; omega) (by simp [Act.eval]) (by first | exact Hown.out | exact Hown.out.drew) Hm.out (by first | exact fillF_own Hown.out m2 (by omega) | exact fillF_own Hown.out.drew m2 (by omega)) m4 (intCells_one _) ?_; intro w3 hown3 hgr3))
   go_wp2_with fail
   have hb3 : Below w'.heap.size w' w3 := (show Below w'.heap.size w' wr.drew from hb.drew).grown hgr3.out (by have := hb.size; simpa using this) (fun k hk => by injection hk with hk; omega)
   have e : Value.int .i64 (IntKind.i64.wrap ((k : Int) + (m : Int))) = .int .i64 ((k + m : Nat) : Int) := by rw [wrap_in _ (by omega) (by omega)]; simp
   rw [e]
   refine ⟨⟨k + m, by omega, m4, rfl, ?_, hb3⟩, by simp [intOf]; omega⟩
   have h := hown3.out
   rw [fillF_more p n k m m4] at h
   exact h
  ·obtain rfl : k = n := by omega
   go_wp2_with fail
   go_ret
   refine ⟨_, rfl, ?_, hb⟩
   have h := Hown.out
   rw [tabI_congr k (g := fun _ => p) (fun j hj => by unfold fillF; rw [if_pos hj])] at h
   exact h
end Go.Proofs.YtokniebejilcbaaGreat
namespace Go.Proofs.YtokniebejilcbaaGreat
open Go.RowKit
structure Im where
 w : Int
 h : Int
 d : List Int
def zeroIm : Im := ⟨0, 0, []⟩
def flatN (W H p : Int) : List Int := tabI (W * H).toNat (fun _ => p)
open Classical in
noncomputable def newIm (W H p : Int) : Im := if szOk W H ∧ pixOk p then ⟨W, H, flatN W H p⟩ else zeroIm
theorem new_yes {W H p : Int} (h1 : szOk W H) (h2 : pixOk p) : newIm W H p = ⟨W, H, flatN W H p⟩ := if_pos ⟨h1, h2⟩
theorem new_no {W H p : Int} (h : ¬ (szOk W H ∧ pixOk p)) : newIm W H p = zeroIm := if_neg h
def AnsIm (I : Im) (w : World) (e : Ending) (w' : World) : Prop := ImAns I.w I.h I.d w e w'
theorem flat_size {W H : Int} (h : szOk W H) (p : Int) : ∃ n : Nat, 1 ≤ n ∧ n ≤ 256 ∧ (n : Int) = W * H ∧ flatN W H p = tabI n (fun _ => p) := by
 have h1 := sz_mul h
 have h2 := sz_pos h
 exact ⟨(W * H).toNat, by omega, by omega, by omega, rfl⟩
theorem zeroIm_ans {w w' : World} (hb : Below w.heap.size w w') : AnsIm zeroIm w (.returned (.agg #[.int .i64 0, .int .i64 0, .slice none 0 0])) w' :=
 ⟨_, rfl, World.ownsRow_nil _ _ _ _, hb⟩
set_option maxHeartbeats 600000 in
set_option maxRecDepth 10000 in
theorem newI (W H p : Int) (w : World) : Calls Tryz.prog 110 #[.int .i64 W, .int .i64 H, .int .i64 p] w (AnsIm (newIm W H p) w) := by
 have hR := ImAt.new w 55 0 0 (.slice none 0 0)
 have hw := (Below.refl w.heap.size w).alloc (Nat.le_refl _) (.cells #[.int .i64 0, .int .i64 0, .slice none 0 0] 55)
 by_cases hs : szOk W H
 ·by_cases hp : pixOk p
  ·obtain ⟨n, n1, n2, hn, hd⟩ := flat_size hs p
   have HA := Lib.hid (show newIm W H p = ⟨W, H, tabI n (fun _ => p)⟩ by rw [new_yes hs hp, hd])
   have Hs := Lib.hid hs
   have Hp := Lib.hid hp
   have hn' : W * H = (n : Int) := hn.symm
   have HR := Lib.hid hR
   have Hw := Lib.hid hw
   clear hs hp hd hn hR hw
   go_enter Tryz.func110, Tryz.ntmps110
   go_wp2_with (first | (go_at_call 138; (with_reducible refine (szI_yes _ _ Hs.out _).mono ?_); rintro e w' ⟨rfl, rfl⟩) | (go_at_call 174; (with_reducible refine (pixI_yes _ Hp.out _).mono ?_); rintro e w' ⟨rfl, rfl⟩))
   have hc : ((w.alloc (.cells #[.int .i64 0, .int .i64 0, .slice none 0 0] 55)).alloc (.cells #[.int .i64 p] 3)).cell? ⟨w.heap.size + 1, 0, none⟩ = some (.int .i64 p) := cell_newAt (by simp) _ _
   refine (repI p n n1 n2 (w.heap.size + 1) _ hc).mono ?_
   rintro e w2 ⟨v, rfl, hown, hb⟩
   have hI := (HR.out.alloc _).call hb
   have hz := hb.size
   obtain ⟨A, c, hv⟩ := ownI_shape hown
   subst hv
   obtain ⟨c0, c1, c2⟩ := hI.cells
   have f0 := hI.frozen 0
   have f1 := hI.frozen 1
   have f2 := hI.frozen 2
   have Hown := Lib.hid hown
   have Hb := Lib.hid (Hw.out.trans ((belI_call ((Below.refl _ _).alloc (Nat.le_refl _) _) hb).mono (by simp)))
   have HI := Lib.hid hI
   simp at hz
   clear hown hb hI hc
   go_wp2_with fail
   have j := HI.out.set3 W H (.slice A n c)
   obtain ⟨x0, x1, x2⟩ := j.cells
   refine bodyPost_ret (v := .agg #[.int .i64 W, .int .i64 H, .slice A n c]) (by simp [results, Tryz.results110, go_sem, x0, x1, x2]) rfl ?_
   rw [HA.out]
   refine ⟨_, rfl, ?_, ((Hb.out.setCell (by simp) _).setCell (by simp) _).setCell (by simp) _⟩
   have hlt := fun g hg => (Hown.out.lt g hg).1
   have h3 := ownI_far (ownI_far (ownI_far (Hown.out.mono (show w.heap.size ≤ _ by simp; omega)) (p := ⟨w.heap.size, 0, none⟩) (fun g hg => by have := hlt g hg; simp at this ⊢; omega) (.int .i64 W)) (p := ⟨w.heap.size, 1, none⟩) (fun g hg => by have := hlt g hg; simp at this ⊢; omega) (.int .i64 H)) (p := ⟨w.heap.size, 2, none⟩) (fun g hg => by have := hlt g hg; simp at this ⊢; omega) (.slice A n c)
   rw [tabI_length]
   exact h3
  ·have HA := Lib.hid (show newIm W H p = zeroIm from new_no fun h => hp h.2)
   have Hs := Lib.hid hs
   have Hp := Lib.hid hp
   obtain ⟨c0, c1, c2⟩ := hR.cells
   have f0 := hR.frozen 0
   have f1 := hR.frozen 1
   have f2 := hR.frozen 2
   clear hs hp
   go_enter Tryz.func110, Tryz.ntmps110
   go_wp2_with (first | (go_at_call 138; (with_reducible refine (szI_yes _ _ Hs.out _).mono ?_); rintro e w' ⟨rfl, rfl⟩) | (go_at_call 174; (with_reducible refine (pixI_no _ Hp.out _).mono ?_); rintro e w' ⟨rfl, rfl⟩))
   refine bodyPost_ret (v := .agg #[.int .i64 0, .int .i64 0, .slice none 0 0]) (by simp [results, Tryz.results110, go_sem]) rfl ?_
   rw [HA.out]
   exact zeroIm_ans (by repeat (first | exact hw | refine Below.setCell ?_ (by simp) _))
 ·have HA := Lib.hid (show newIm W H p = zeroIm from new_no fun h => hs h.1)
  have Hs := Lib.hid hs
  obtain ⟨c0, c1, c2⟩ := hR.cells
  have f0 := hR.frozen 0
  have f1 := hR.frozen 1
  have f2 := hR.frozen 2
  clear hs
  go_enter Tryz.func110, Tryz.ntmps110
  go_wp2_with (first | (go_at_call 138; (with_reducible refine (szI_no _ _ Hs.out _).mono ?_); rintro e w' ⟨rfl, rfl⟩))
  refine bodyPost_ret (v := .agg #[.int .i64 0, .int .i64 0, .slice none 0 0]) (by simp [results, Tryz.results110, go_sem]) rfl ?_
  rw [HA.out]
  exact zeroIm_ans (by repeat (first | exact hw | refine Below.setCell ?_ (by simp) _))
theorem tabI_snoc (k : Nat) (f : Nat → Int) : tabI (k + 1) f = tabI k f ++ [f k] := by simp [tabI, List.range_succ]
structure NiSt (w : World) (W H p : Int) (k : Nat) (v : Value) (wr : World) : Prop where
 rs : ImAt wr w.heap.size 55 0 0 (.slice none 0 0)
 im : ImAt wr (w.heap.size + 1) 55 W H v
 own : wr.ownsRow (w.heap.size + 2) 3 1 v k (intCells (tabI k (fun _ => p)))
 bw : Below w.heap.size w wr
theorem NiSt.next {w wr w2 : World} {W H p : Int} {k : Nat} {v v' : Value} {o : Obj} (h : NiSt w W H p k v wr)
  (hown : w2.ownsRow (w.heap.size + 2) 3 1 v' (k + 1) (intCells (tabI k (fun _ => p)) ++ [.int .i64 p])) (hgr : (wr.alloc o).grownBy w2 v.ownBlock) :
  NiSt w W H p (k + 1) v' (w2.setCell ⟨w.heap.size + 1, 2, none⟩ v') := by
 have hlow : ∀ b, b < w.heap.size + 2 → some b ≠ v.ownBlock := fun b hb e => by have := (h.own.lt b e.symm).1; omega
 refine ⟨(((h.rs.alloc o).grown hgr (hlow _ (by omega))).far (by simp) _), ((h.im.alloc o).grown hgr (hlow _ (by omega))).set2 v', ?_, ((h.bw.alloc h.bw.size o).grown hgr (by have := h.bw.size; simp; omega) (fun b hb => by have := (h.own.lt b hb).1; omega)).setCell (by simp) _⟩
 have h2 := ownI_far hown (p := ⟨w.heap.size + 1, 2, none⟩) (fun g hg => by have := (hown.lt g hg).1; simp; omega) v'
 rw [tabI_snoc, show intCells (tabI k (fun _ => p) ++ [p]) = intCells (tabI k (fun _ => p)) ++ [.int .i64 p] by simp [intCells]]
 exact h2
theorem NiSt.mid {w wr w2 : World} {W H p : Int} {k : Nat} {v : Value} {o : Obj} (h : NiSt w W H p k v wr) (hgr : (wr.alloc o).grownBy w2 v.ownBlock) :
  ImAt w2 (w.heap.size + 1) 55 W H v := (h.im.alloc o).grown hgr (fun e => by have := (h.own.lt _ e.symm).1; omega)
set_option maxHeartbeats 600000 in
set_option maxRecDepth 10000 in
theorem newS (W H p : Int) (w : World) : Calls Tryz.prog 153 #[.int .i64 W, .int .i64 H, .int .i64 p] w (AnsIm (newIm W H p) w) := by
 have hR := ImAt.new w 55 0 0 (.slice none 0 0)
 have hw := (Below.refl w.heap.size w).alloc (Nat.le_refl _) (.cells #[.int .i64 0, .int .i64 0, .slice none 0 0] 55)
 obtain ⟨i0, hi, hz0, hz1, hz2⟩ := info_parts infoInt
 by_cases hs : szOk W H
 ·have hs2 := hs
  obtain ⟨s1, s2, s3, s4⟩ := hs2
  by_cases hp : pixOk p
  ·obtain ⟨n, n1, n2, hn, hd⟩ := flat_size hs p
   have HA := Lib.hid (show newIm W H p = ⟨W, H, tabI n (fun _ => p)⟩ by rw [new_yes hs hp, hd])
   have Hp := Lib.hid hp
   have hn' : W * H = (n : Int) := hn.symm
   have hS0 : NiSt w W H p 0 (.slice none 0 0) ((w.alloc (.cells #[.int .i64 0, .int .i64 0, .slice none 0 0] 55)).alloc (.cells #[.int .i64 W, .int .i64 H, .slice none 0 0] 55)) :=
    ⟨hR.alloc _, ImAt.newAt (by simp) _ _ _ _, World.ownsRow_nil _ _ _ _, hw.alloc (by simp) _⟩
   clear hs hp hd hn hR hw
   go_enter Tryz.func153, Tryz.ntmps153
   go_wp2_with (first | (go_at_call 136; (with_reducible refine (inS_yes _ _ _ _ (by omega) (by omega)).mono ?_); rintro e w' ⟨rfl, rfl⟩) | (go_at_call 198; (with_reducible refine (pixS_yes _ Hp.out _).mono ?_); rintro e w' ⟨rfl, rfl⟩))
   go_loopw [8] (fun s wr => ∃ (k : Nat) (v : Value), k ≤ n ∧ s = .int .i64 k ∧ NiSt w W H p k v wr) (fun s _ => n - (intOf s).toNat)
   case atStart => exact ⟨0, _, Nat.zero_le _, rfl, hS0⟩
   case round =>
    clear hS0
    obtain ⟨k, v, hk, rfl, hS⟩ := hrel
    obtain ⟨A, c, hv⟩ := ownI_shape hS.own
    subst hv
    obtain ⟨c0, c1, c2⟩ := hS.im.cells
    by_cases hlt : k < n
    ·have k1 : (k : Int) < (n : Int) := by omega
     go_wp2_with (at_builtin; refine wpList_append_own _ rfl _ _ 53 rfl (w.heap.size + 2) 3 i0 (.int .i64 0) 1 8 Tryz.underlying53 hi hz0 hz1 hz2 rfl (by decide) _ _ _ rfl (hS.own.alloc _) ⟨_, 0, none⟩ 1 1 _ rfl rfl (World.news_of_block (cs := #[.int .i64 p]) (fr := (0, 0)) (heap_alloc_new _ _)) (by intro u hu; simp at hu; subst hu; rfl) (by unfold maxLen; omega) (by omega) (by have := hS.im.lt; simp; omega) ?_)
     intro v2 w2 hown2 hgrow _
     obtain ⟨gq, cq, hvq, _, _⟩ := hown2.form (by omega)
     subst hvq
     have hM := hS.mid hgrow
     obtain ⟨d0, d1, d2⟩ := hM.cells
     have f2 := hM.frozen 2
     have hS := hS.next hown2 hgrow
     clear hown2 hgrow c0 c1 c2 hM
     go_wp2_with fail
     go_roundw
     case rel => exact ⟨k + 1, _, by omega, by go_num, hS⟩
     case measure => simp [intOf]; omega
    ·obtain rfl : k = n := by omega
     obtain ⟨d0, d1, d2⟩ := hS.rs.cells
     have f0 := hS.rs.frozen 0
     have f1 := hS.rs.frozen 1
     have f2 := hS.rs.frozen 2
     go_wp2_with fail
     have j := hS.rs.set3 W H (.slice A k c)
     obtain ⟨x0, x1, x2⟩ := j.cells
     refine bodyPost_ret (v := .agg #[.int .i64 W, .int .i64 H, .slice A k c]) (by simp [results, Tryz.results153, go_sem, x0, x1, x2]) rfl ?_
     rw [HA.out]
     refine ⟨_, rfl, ?_, ((hS.bw.setCell (by simp) _).setCell (by simp) _).setCell (by simp) _⟩
     have hlt := fun g hg => (hS.own.lt g hg).1
     have h3 := ownI_far (ownI_far (ownI_far (hS.own.mono (show w.heap.size ≤ _ by omega)) (p := ⟨w.heap.size, 0, none⟩) (fun g hg => by have := hlt g hg; simp at this ⊢; omega) (.int .i64 W)) (p := ⟨w.heap.size, 1, none⟩) (fun g hg => by have := hlt g hg; simp at this ⊢; omega) (.int .i64 H)) (p := ⟨w.heap.size, 2, none⟩) (fun g hg => by have := hlt g hg; simp at this ⊢; omega) (.slice A k c)
     rw [tabI_length]
     exact h3
  ·have HA := Lib.hid (show newIm W H p = zeroIm from new_no fun h => hp h.2)
   have Hp := Lib.hid hp
   obtain ⟨c0, c1, c2⟩ := hR.cells
   have f0 := hR.frozen 0
   have f1 := hR.frozen 1
   have f2 := hR.frozen 2
   clear hs hp
   go_enter Tryz.func153, Tryz.ntmps153
   go_wp2_with (first | (go_at_call 136; (with_reducible refine (inS_yes _ _ _ _ (by omega) (by omega)).mono ?_); rintro e w' ⟨rfl, rfl⟩) | (go_at_call 198; (with_reducible refine (pixS_no _ Hp.out _).mono ?_); rintro e w' ⟨rfl, rfl⟩))
   refine bodyPost_ret (v := .agg #[.int .i64 0, .int .i64 0, .slice none 0 0]) (by simp [results, Tryz.results153, go_sem]) rfl ?_
   rw [HA.out]
   exact zeroIm_ans (by repeat (first | exact hw | refine Below.setCell ?_ (by simp) _))
 ·have HA := Lib.hid (show newIm W H p = zeroIm from new_no fun h => hs h.1)
  obtain ⟨c0, c1, c2⟩ := hR.cells
  have f0 := hR.frozen 0
  have f1 := hR.frozen 1
  have f2 := hR.frozen 2
  unfold szOk at hs
  by_cases h1 : 1 ≤ W ∧ W ≤ 16
  ·obtain ⟨h1, h2⟩ := h1
   have h7 : H < 1 ∨ 16 < H := by omega
   have H7 := Lib.hid h7
   clear h7 hs
   go_enter Tryz.func153, Tryz.ntmps153
   go_wp2_with (first | (go_at_call 136; (with_reducible refine (inS_yes _ _ _ _ (by omega) (by omega)).mono ?_); rintro e w' ⟨rfl, rfl⟩) | (go_at_call 136; (with_reducible refine (inS_no _ _ _ _ H7.out).mono ?_); rintro e w' ⟨rfl, rfl⟩))
   refine bodyPost_ret (v := .agg #[.int .i64 0, .int .i64 0, .slice none 0 0]) (by simp [results, Tryz.results153, go_sem]) rfl ?_
   rw [HA.out]
   exact zeroIm_ans (by repeat (first | exact hw | refine Below.setCell ?_ (by simp) _))
  ·have h7 : W < 1 ∨ 16 < W := by omega
   have H7 := Lib.hid h7
   clear h7 hs h1
   go_enter Tryz.func153, Tryz.ntmps153
   go_wp2_with (first | (go_at_call 136; (with_reducible refine (inS_no _ _ _ _ H7.out).mono ?_); rintro e w' ⟨rfl, rfl⟩))
   refine bodyPost_ret (v := .agg #[.int .i64 0, .int .i64 0, .slice none 0 0]) (by simp [results, Tryz.results153, go_sem]) rfl ?_
   rw [HA.out]
   exact zeroIm_ans (by repeat (first | exact hw | refine Below.setCell ?_ (by simp) _))
end Go.Proofs.YtokniebejilcbaaGreat
namespace Go.Proofs.YtokniebejilcbaaGreat
open Go.RowKit
theorem plc_div {W x : Nat} (y : Nat) (hx : x < W) : (y * W + x) / W = y := by
 rw [Nat.mul_comm, Nat.mul_add_div (by omega), Nat.div_eq_of_lt hx, Nat.add_zero]
theorem plc_mod {W x : Nat} (y : Nat) (hx : x < W) : (y * W + x) % W = x := by
 rw [Nat.mul_comm, Nat.mul_add_mod, Nat.mod_eq_of_lt hx]
theorem plc_eq (k W : Nat) : k / W * W + k % W = k := by rw [Nat.mul_comm]; exact Nat.div_add_mod k W
theorem plc_lt {W H x y : Nat} (hx : x < W) (hy : y < H) : y * W + x < W * H := by
 have h1 : (y + 1) * W ≤ H * W := Nat.mul_le_mul_right _ hy
 rw [Nat.add_mul, Nat.one_mul, Nat.mul_comm H W] at h1
 omega
theorem plc_row {W H k : Nat} (h : k < W * H) : k / W < H := Nat.div_lt_of_lt_mul h
theorem plc_iff {W x : Nat} (y k : Nat) (hx : x < W) : k = y * W + x ↔ k / W = y ∧ k % W = x := by
 constructor
 ·rintro rfl; exact ⟨plc_div y hx, plc_mod y hx⟩
 ·rintro ⟨rfl, rfl⟩; exact (plc_eq k W).symm
theorem plc_pos {W H k : Nat} (h : k < W * H) : 0 < W := by
 rcases Nat.eq_zero_or_pos W with rfl | h0
 ·simp at h
 ·exact h0
theorem plc_span {W X n : Nat} (y k : Nat) (hX : X + n ≤ W) : (y * W + X ≤ k ∧ k < y * W + X + n) ↔ k / W = y ∧ X ≤ k % W ∧ k % W < X + n := by
 constructor
 ·rintro ⟨h1, h2⟩
  obtain ⟨d, hd⟩ : ∃ d, k = y * W + (X + d) := ⟨k - (y * W + X), by omega⟩
  subst hd
  have hx : X + d < W := by omega
  rw [plc_div y hx, plc_mod y hx]
  omega
 ·rintro ⟨rfl, h2, h3⟩
  have := plc_eq k W
  omega
theorem im_nat {X Y : Int} {L : List Int} (h : imOk X Y L) : ∃ W H : Nat, X = W ∧ Y = H ∧ 1 ≤ W ∧ W ≤ 16 ∧ 1 ≤ H ∧ H ≤ 16 ∧ L.length = W * H := by
 obtain ⟨⟨s1, s2, s3, s4⟩, hl, _⟩ := h
 obtain ⟨W, rfl⟩ := Int.eq_ofNat_of_zero_le (show 0 ≤ X by omega)
 obtain ⟨H, rfl⟩ := Int.eq_ofNat_of_zero_le (show 0 ≤ Y by omega)
 exact ⟨W, H, rfl, rfl, by omega, by omega, by omega, by omega, by exact_mod_cast hl⟩
theorem mul_256 {W H : Nat} (h1 : W ≤ 16) (h2 : H ≤ 16) : W * H ≤ 256 := Nat.mul_le_mul h1 h2
def copyF (W W2 H2 : Nat) (L F : List Int) (g : Nat → Bool) : Nat → Int := fun k =>
 if k % W < W2 ∧ k / W < H2 ∧ g (k / W * 16 + k % W) = true then F.getD (k / W * W2 + k % W) 0 else L.getD k 0
open Classical in
noncomputable def copyIm (X Y : Int) (L : List Int) (X2 Y2 : Int) (F : List Int) (R : List Rc) : Im :=
 if imOk X Y L ∧ imOk X2 Y2 F ∧ okL R = true then ⟨X, Y, tabI L.length (copyF X.toNat X2.toNat Y2.toNat L F (gridOf R))⟩ else ⟨X, Y, L⟩
theorem copy_yes {X Y X2 Y2 : Int} {L F : List Int} {R : List Rc} (h1 : imOk X Y L) (h2 : imOk X2 Y2 F) (h3 : okL R = true) :
  copyIm X Y L X2 Y2 F R = ⟨X, Y, tabI L.length (copyF X.toNat X2.toNat Y2.toNat L F (gridOf R))⟩ := if_pos ⟨h1, h2, h3⟩
theorem copy_no {X Y X2 Y2 : Int} {L F : List Int} {R : List Rc} (h : ¬ (imOk X Y L ∧ imOk X2 Y2 F ∧ okL R = true)) : copyIm X Y L X2 Y2 F R = ⟨X, Y, L⟩ := if_neg h
def copyR (W W2 : Nat) (F : List Int) (f : Nat → Int) (X Y n y : Nat) : Nat → Int := fun k =>
 if X ≤ k % W ∧ k % W < X + n ∧ Y ≤ k / W ∧ k / W < y then F.getD (k / W * W2 + k % W) 0 else f k
theorem copyR_start (W W2 : Nat) (F : List Int) (f : Nat → Int) (X Y n k : Nat) : copyR W W2 F f X Y n Y k = f k := if_neg (by omega)
theorem copyR_next (W W2 : Nat) (F : List Int) (f : Nat → Int) (X Y n y k : Nat) (hX : X + n ≤ W) (hy : Y ≤ y) :
  (if y * W + X ≤ k ∧ k < y * W + X + n then F.getD (y * W2 + X + (k - (y * W + X))) 0 else copyR W W2 F f X Y n y k) = copyR W W2 F f X Y n (y + 1) k := by
 by_cases e : y * W + X ≤ k ∧ k < y * W + X + n
 ·rw [if_pos e]
  obtain ⟨e1, e2, e3⟩ := (plc_span y k hX).1 e
  have h := plc_eq k W
  unfold copyR
  rw [if_pos ⟨e2, e3, by omega, by omega⟩]
  congr 1
  rw [e1] at h ⊢
  omega
 ·rw [if_neg e]
  have e' := mt (plc_span y k hX).2 e
  unfold copyR
  by_cases h : X ≤ k % W ∧ k % W < X + n ∧ Y ≤ k / W ∧ k / W < y
  ·rw [if_pos h, if_pos ⟨h.1, h.2.1, h.2.2.1, by omega⟩]
  ·rw [if_neg h, if_neg fun h2 => h (by
    by_cases e2 : k / W = y
    ·exact absurd ⟨e2, h2.1, h2.2.1⟩ e'
    ·exact ⟨h2.1, h2.2.1, h2.2.2.1, by omega⟩)]
theorem gridOf_one (r : Rc) (k : Nat) : gridOf [r] k = hasB r (k % 16 : Nat) (k / 16 : Nat) := by
 rw [Bool.eq_iff_iff, gridOf_iff]
 unfold hasB
 rw [decide_eq_true_iff]
 constructor
 ·rintro ⟨s, hs, h⟩
  obtain rfl := List.mem_singleton.1 hs
  exact h
 ·intro h
  exact ⟨r, List.mem_singleton.2 rfl, h⟩
theorem copyR_part (W H W2 H2 : Nat) (L F : List Int) (R : List Rc) (r : Rc) (j X Y n m k : Nat) (h16 : W ≤ 16 ∧ H ≤ 16) (hr : R[j]? = some r)
  (hk : k < W * H) (hI : ∀ p q : Nat, p < W → q < H → ((X ≤ p ∧ p < X + n ∧ Y ≤ q ∧ q < Y + m) ↔ (hasB r p q = true ∧ p < W2 ∧ q < H2))) :
  copyR W W2 F (copyF W W2 H2 L F (gridOf (R.take j))) X Y n (Y + m) k = copyF W W2 H2 L F (gridOf (R.take (j + 1))) k := by
 have h1 := plc_row hk
 have h2 := Nat.mod_lt k (plc_pos hk)
 have hi := hI (k % W) (k / W) h2 h1
 have hg : gridOf (R.take (j + 1)) (k / W * 16 + k % W) = (gridOf (R.take j) (k / W * 16 + k % W) || hasB r (k % W : Nat) (k / W : Nat)) := by
  rw [List.take_add_one, hr, gridOf_append]
  show (_ || gridOf [r] _) = _
  rw [gridOf_one, show (k / W * 16 + k % W) % 16 = k % W by omega, show (k / W * 16 + k % W) / 16 = k / W by omega]
 unfold copyR
 by_cases c : X ≤ k % W ∧ k % W < X + n ∧ Y ≤ k / W ∧ k / W < Y + m
 ·obtain ⟨b1, b2, b3⟩ := hi.1 c
  rw [if_pos c]
  unfold copyF
  rw [hg, b1, Bool.or_true, if_pos ⟨b2, b3, rfl⟩]
 ·rw [if_neg c]
  unfold copyF
  rw [hg]
  by_cases d : k % W < W2 ∧ k / W < H2
  ·have hb : hasB r (k % W : Nat) (k / W : Nat) = false := by
    rcases e : hasB r (k % W : Nat) (k / W : Nat) with _ | _
    ·rfl
    ·exact absurd (hi.2 ⟨e, d⟩) c
   rw [hb, Bool.or_false]
  ·rw [if_neg fun h => d ⟨h.1, h.2.1⟩, if_neg fun h => d ⟨h.1, h.2.1⟩]
end Go.Proofs.YtokniebejilcbaaGreat
namespace Go.Proofs.YtokniebejilcbaaGreat
open Go.RowKit
theorem zero71 (w : World) : (zeroValue 114).run Tryz.prog w = .ok (.agg #[.int .i64 0, .int .i64 0, .slice none 0 0]) w := by kernel_rfl
theorem size71 : (Tryz.prog.info? 114).map (·.size) = some 3 := by kernel_rfl
theorem size26 : (Tryz.prog.info? 55).map (·.size) = some 3 := by kernel_rfl
theorem wp_alloc_im {op : Oper} {a : Act} {w : World} {K : Act → World → Prop} {Q : Exit → Act → World → Prop} (t : TypeId) (hz : ∀ w, (zeroValue t).run Tryz.prog w = .ok (.agg #[.int .i64 0, .int .i64 0, .slice none 0 0]) w) (d : Nat) (ho : op.op = .alloc t) (hd : op.dst = some d)
  (h : ∀ b W', Below w.heap.size w W' → ImAt W' b t 0 0 (.slice none 0 0) → w.heap.size ≤ b → K (a.put (some d) (.pointer (some ⟨b, 0, none⟩))) W') : op.wp Tryz.prog a w K Q := by
 have h1 := h w.heap.size (w.alloc (.cells #[.int .i64 0, .int .i64 0, .slice none 0 0] t)) (belI_box _ _) (ImAt.new w _ _ _ _) (Nat.le_refl _)
 have hz := hz w
 unfold Oper.wp execOp
 simp only [ho, Instr.alloc, Sem.run_bind, hz, Result.andThen_ok, Sem.run_pure]
 rw [← hd] at h1
 exact h1
theorem wp_store_im {op : Oper} {a : Act} {w : World} {K : Act → World → Prop} {Q : Exit → Act → World → Prop} (t : TypeId) (hsz : (Tryz.prog.info? t).map (·.size) = some 3) (x y : Operand) (ho : op.op = .store t x y)
  (b : Nat) (X0 Y0 : Int) (v0 : Value) (X Y : Int) (A : Option Addr) (n c : Nat) (hx : a.eval x = .pointer (some ⟨b, 0, none⟩)) (hy : a.eval y = .agg #[.int .i64 X, .int .i64 Y, .slice A n c]) (hI : ImAt w b t X0 Y0 v0)
  (h : ∀ W', ImAt W' b t X Y (.slice A n c) → w.grownBy W' (some b) → K (a.put op.dst undef) W') : op.wp Tryz.prog a w K Q := by
 have hs : (storeVar t ⟨b, 0, none⟩ (.agg #[.int .i64 X, .int .i64 Y, .slice A n c])).run Tryz.prog w = .ok () (w.setRow b #[.int .i64 X, .int .i64 Y, .slice A n c]) :=
  run_storeVar_row w b _ _ #[.int .i64 X0, .int .i64 Y0, v0] #[.int .i64 X, .int .i64 Y, .slice A n c] hI hsz rfl (by simp [Value.oneCell'])
 have h1 := h (w.setRow b #[.int .i64 X, .int .i64 Y, .slice A n c]) (setRow_heap w b _ _ t _ hI) ⟨rfl, rfl, rfl, by simp [World.setRow], fun k _ hk => setRow_other w b k _ (fun e => hk (by rw [e]))⟩
 unfold Oper.wp execOp
 simp only [ho, hx, hy, Instr.storeAt, Instr.sureAddr, Sem.run_bind, Sem.run_pure, Result.andThen_ok, hs]
 exact h1
theorem run_build0I (w : World) : (Instr.buildSlice 53 0 #[]).run Tryz.prog w = .ok (.slice (some ⟨w.heap.size, 0, none⟩) 0 0) (w.alloc (.cells #[] 3)) := by
 kernel_rfl
theorem wp_build0I {op : Oper} {a : Act} {w : World} {K : Act → World → Prop} {Q : Exit → Act → World → Prop} (d : Nat) (ho : op.op = .buildSlice 53 0 #[]) (hd : op.dst = some d)
  (h : ∀ v W', Below w.heap.size w W' → W'.ownsRow w.heap.size 3 1 v 0 [] → K (a.put (some d) v) W') : op.wp Tryz.prog a w K Q := by
 have h1 := h (.slice (some ⟨w.heap.size, 0, none⟩) 0 0) (w.alloc (.cells #[] 3)) (belI_box _ _)
  ⟨rfl, .inr ⟨w.heap.size, 0, #[], rfl, Nat.le_refl _, heap_alloc_new w _, Nat.le_refl _, by unfold maxLen; omega, rfl, rfl⟩⟩
 have hz := run_build0I w
 unfold Oper.wp execOp
 simp only [ho, List.map_toArray, List.map_nil, Sem.run_bind, hz, Result.andThen_ok, Sem.run_pure]
 rw [← hd] at h1
 exact h1
theorem run_append_noneI {P : Program} (w : World) (base : Nat) (t ty e : TypeId) (i : TypeInfo) (size : Nat) (ht : P.underlying t = some (.slice e)) (hi : P.info? e = some i)
  (v : Value) (n : Nat) (xs : List Value) (hown : w.ownsRow base e size v n xs) :
  (Builtin.append_ #[t, t] ty #[v, .slice none 0 0]).run P w = .ok v w := by
 rcases hown.2 with ⟨rfl, rfl⟩ | ⟨g, cap, cur, rfl, _, _, hn, _, _, _⟩
 ·simp [Builtin.append_, run_underlying ht, sizeOf, typeInfo, hi, Builtin.lenOf, Builtin.firstCells]
 ·simp [Builtin.append_, run_underlying ht, sizeOf, typeInfo, hi, Builtin.lenOf, Builtin.firstCells, loadCells, storeCells, hn]
theorem wp_appendI {o : Oper} {a : Act} {w : World} {K : Act → World → Prop} {Q : Exit → Act → World → Prop} (s x : Operand)
  (ho : o.op = .call { callee := .builtin .append, args := #[s, x], argTypes := #[53, 53] })
  (base : Nat) (v : Value) (n : Nat) (xs : List Value) (hs : a.eval s = v) (hown : w.ownsRow base 3 1 v n xs)
  (u : Value) (L : List Int) (hx : a.eval x = u) (hu : RdI w u L) (h63 : n + L.length ≤ 17592186044416) (hbase : base ≤ w.heap.size)
  (h : ∀ v' w', w'.ownsRow base 3 1 v' (n + L.length) (xs ++ intCells L) → w.grownBy w' v.ownBlock → (v'.ownBlock = v.ownBlock ∨ v'.ownBlock = some w.heap.size) → K (a.put o.dst v') w') : o.wp Tryz.prog a w K Q := by
 obtain ⟨i0, hi, hz0, hz1, hz2⟩ := info_parts infoInt
 rcases hu with ⟨rfl, rfl⟩ | ⟨g, c, rfl, hm, hlc, hc⟩
 ·have hr := run_append_noneI w base 53 o.type 3 i0 1 Tryz.underlying53 hi v n xs hown
  unfold Oper.wp execOp
  simp only [ho, resolve, invoke, builtin, Sem.run_bind, Sem.run_pure, Result.andThen_ok, List.map_toArray, List.map_cons, List.map_nil, hs, hx, hr]
  exact h v w (by simpa [intCells] using hown) ⟨rfl, rfl, rfl, Nat.le_refl _, fun _ _ _ => rfl⟩ (.inl rfl)
 ·obtain ⟨v', w', hr, h2, h3, _, h5⟩ := run_append_own_at (P := Tryz.prog) w base 53 o.type 3 i0 (.int .i64 0) 1 8 Tryz.underlying53 hi hz0 hz1 hz2 rfl (by decide) v n xs hown ⟨g, 0, none⟩ L.length c (intCells L) (by rw [intCells_length, Nat.mul_one])
   (fun j w' hj => by
    rw [intCells_get] at hj
    obtain ⟨y, hy, rfl⟩ := Option.map_eq_some_iff.1 hj
    rw [addr_add]
    exact hc j y hy) (intCells_one _) (by unfold maxLen; omega) (by omega) hbase
  unfold Oper.wp execOp
  simp only [ho, resolve, invoke, builtin, Sem.run_bind, Sem.run_pure, Result.andThen_ok, List.map_toArray, List.map_cons, List.map_nil, hs, hx, hr]
  exact h v' w' h2 h3 h5
def CloneAns (L : List Int) (w : World) (e : Ending) (w' : World) : Prop := ∃ u, e = .returned u ∧ w'.ownsRow w.heap.size 3 1 u L.length (intCells L) ∧ Below w.heap.size w w'
theorem cloneI (v : Value) (L : List Int) (w : World) (hm : L.length ≤ 2097152) (hv : RdI w v L) : Calls Tryz.prog 168 #[v] w (CloneAns L w) := by
 rcases hv with ⟨rfl, rfl⟩ | ⟨g, c, rfl, hml, hlc, hc⟩
 ·refine (Tryz.slices_Clone_int_nil 0 0 w).mono ?_
  rintro e w' ⟨rfl, rfl⟩
  exact ⟨_, rfl, World.ownsRow_nil _ _ _ _, Below.refl _ _⟩
 ·refine (Tryz.slices_Clone_int g 0 L.length c L w (Nat.le_refl _) (by omega) (fun j hj => ?_)).mono ?_
  ·rw [Nat.zero_add, List.getD_eq_getElem?_getD, List.getElem?_eq_getElem hj]
   exact hc j _ (List.getElem?_eq_getElem hj)
  ·rintro e w' ⟨u, rfl, hown, _, hb⟩
   rw [List.take_length] at hown
   exact ⟨u, rfl, hown, hb⟩
set_option maxHeartbeats 600000 in
set_option maxRecDepth 10000 in
theorem copiedI (X Y : Int) (v : Value) (L : List Int) (w : World) (hm : L.length ≤ 2097152) (hv : RdI w v L) :
  Calls Tryz.prog 156 #[.agg #[.int .i64 X, .int .i64 Y, v]] w (ImAns X Y L w) := by
 have hv2 := (hv.alloc (.cells #[.int .i64 X, .int .i64 Y, v] 114)).alloc (.cells #[.int .i64 0, .int .i64 0, .slice none 0 0] 114)
 have hC := (ImAt.new w 114 X Y v).alloc (.cells #[.int .i64 0, .int .i64 0, .slice none 0 0] 114)
 have hR : ImAt ((w.alloc (.cells #[.int .i64 X, .int .i64 Y, v] 114)).alloc (.cells #[.int .i64 0, .int .i64 0, .slice none 0 0] 114)) (w.heap.size + 1) 114 0 0 (.slice none 0 0) := ImAt.newAt (by simp) _ _ _ _
 have hw := ((Below.refl w.heap.size w).alloc (Nat.le_refl _) (.cells #[.int .i64 X, .int .i64 Y, v] 114)).alloc (by simp) (.cells #[.int .i64 0, .int .i64 0, .slice none 0 0] 114)
 obtain ⟨A, c, rfl⟩ := hv.form
 obtain ⟨n, hn⟩ : ∃ n, n = L.length := ⟨_, rfl⟩
 rw [← hn] at hv2 hC hR hw ⊢
 have Hn := Lib.hid hn
 have Hm := Lib.hid hm
 clear hv hn hm
 obtain ⟨c0, c1, c2⟩ := hC.cells
 go_enter Tryz.func156, Tryz.ntmps156
 go_wp2_with fail
 refine (cloneI _ L _ Hm.out hv2).mono ?_
 rintro e w2 ⟨u, rfl, hown, hb⟩
 obtain ⟨Au, cu, hu⟩ := ownI_shape hown
 subst hu
 have hz := hb.size
 simp at hz
 have hC := hC.call hb
 have hR := hR.call hb
 have hlt := fun g hg => (hown.lt g hg).1
 have Hown := Lib.hid hown
 have Hw := Lib.hid (hw.trans (hb.mono hw.size))
 have Hlt := Lib.hid hlt
 clear hown hb hw hv2 c0 c1 c2 hlt
 obtain ⟨c0, c1, c2⟩ := hC.cells
 obtain ⟨r0, r1, r2⟩ := hR.cells
 have cf := hC.frozen 2
 have f0 := hR.frozen 0
 have f1 := hR.frozen 1
 have f2 := hR.frozen 2
 go_wp2_with fail
 have j := (hR.far (p := ⟨w.heap.size, 2, none⟩) (by simp) (.slice Au L.length cu)).set3 X Y (.slice Au L.length cu)
 obtain ⟨x0, x1, x2⟩ := j.cells
 refine bodyPost_ret (v := .agg #[.int .i64 X, .int .i64 Y, .slice Au L.length cu]) (by simp [results, Tryz.results156, go_sem, x0, x1, x2]) rfl ⟨_, rfl, ?_, (((Hw.out.setCell (by simp) _).setCell (by simp) _).setCell (by simp) _).setCell (by simp) _⟩
 exact ownI_far (ownI_far (ownI_far (ownI_far (Hown.out.mono (by simp; omega)) (fun g hg => by have := Hlt.out g hg; simp at this ⊢; omega) _) (fun g hg => by have := Hlt.out g hg; simp at this ⊢; omega) _) (fun g hg => by have := Hlt.out g hg; simp at this ⊢; omega) _) (fun g hg => by have := Hlt.out g hg; simp at this ⊢; omega) _
end Go.Proofs.YtokniebejilcbaaGreat
namespace Go.Proofs.YtokniebejilcbaaGreat
open Go.RowKit
theorem ownI_ne {v : Value} {b : Nat} (h : ∀ g, v.ownBlock = some g → g ≠ b) : v.ownBlock = none ∨ v.ownBlock ≠ some b := by
 by_cases hv : v.ownBlock = none
 ·exact .inl hv
 ·exact .inr fun e => h b e rfl
theorem l05_end {w W : World} {X Y : Int} {A : Option Addr} {c B : Nat} {L : List Int} (h : W.ownsRow B 3 1 (.slice A (0 + L.length) c) (0 + L.length) ([] ++ intCells L)) (hB : w.heap.size ≤ B) (K : Below w.heap.size w W) :
  ImAns X Y L w (.returned (.agg #[.int .i64 X, .int .i64 Y, .slice A (0 + L.length) c])) W := by
 rw [Nat.zero_add, List.nil_append] at h
 rw [Nat.zero_add]
 exact ⟨_, rfl, h.mono hB, K⟩
set_option maxHeartbeats 600000 in
set_option maxRecDepth 10000 in
theorem l05Copy_any (X Y : Int) (v : Value) (L : List Int) (w : World) (hm : L.length ≤ 2097152) (hv : RdI w v L) :
  Calls Tryz.prog 137 #[.agg #[.int .i64 X, .int .i64 Y, v]] w (ImAns X Y L w) := by
 obtain ⟨A, c, rfl⟩ := hv.form
 have Hm := Lib.hid hm
 obtain ⟨w0, hw0⟩ : ∃ w0, w0 = w.alloc (.cells #[.int .i64 X, .int .i64 Y, .slice A L.length c] 55) := ⟨_, rfl⟩
 have hz : w0.heap.size = w.heap.size + 1 := by rw [hw0]; simp
 have hb0 : Below w.heap.size w w0 := by rw [hw0]; exact belI_box _ _
 have hv2 : RdI w0 (.slice A L.length c) L := by rw [hw0]; exact hv.alloc _
 have hC : ImAt w0 w.heap.size 55 X Y (.slice A L.length c) := by rw [hw0]; exact ImAt.new _ _ _ _ _
 have hR : ImAt (w0.alloc (.cells #[.int .i64 0, .int .i64 0, .slice none 0 0] 55)).drew (w.heap.size + 1) 55 0 0 (.slice none 0 0) := ImAt.newAt hz _ _ _ _
 have hst : Below w0.heap.size w0 (w0.alloc (.cells #[.int .i64 0, .int .i64 0, .slice none 0 0] 55)).drew := (belI_box _ _).drew
 rw [hw0] at hst hR
 clear hm hv
 go_enter Tryz.func137, Tryz.ntmps137
 go_upto_region 1 with fail
 rw [← hw0] at *
 refine wp_region_held_drew (S := fun W => Below w0.heap.size w0 W) (by kernel_rfl) hst (fun hS => ?_)
 refine tcH (i := 0) (v := .pointer (some ⟨w.heap.size, 0, none⟩)) rfl (by intro w' hSw; (try dsimp only at hSw); (obtain ⟨c0, c1, c2⟩ := (hC.call hSw).cells); go_simp) ?_
 refine tcH (i := 1) (v := .int .i64 X) rfl (by intro w' hSw; (try dsimp only at hSw); (obtain ⟨c0, c1, c2⟩ := (hC.call hSw).cells); go_simp) ?_
 refine tcH (i := 2) (v := .pointer (some ⟨w.heap.size, 1, none⟩)) rfl (by intro w' hSw; (try dsimp only at hSw); (obtain ⟨c0, c1, c2⟩ := (hC.call hSw).cells); go_simp) ?_
 refine tcH (i := 3) (v := .int .i64 Y) rfl (by intro w' hSw; (try dsimp only at hSw); (obtain ⟨c0, c1, c2⟩ := (hC.call hSw).cells); go_simp) ?_
 refine tcH (i := 5) (v := .pointer (some ⟨w.heap.size, 2, none⟩)) rfl (by intro w' hSw; (try dsimp only at hSw); (obtain ⟨c0, c1, c2⟩ := (hC.call hSw).cells); go_simp) ?_
 refine tcH (i := 6) (v := .slice A L.length c) rfl (by intro w' hSw; (try dsimp only at hSw); (obtain ⟨c0, c1, c2⟩ := (hC.call hSw).cells); go_simp) ?_
 (try simp only [Act.put]); (try simp only [zPa]); (try simp only [zPb, zPc])
 refine wpAnyH_ready (rs := [4]) (by kernel_rfl) (by simp) ?_
 refine (AllReadyH.cons rfl (fun K hK => ?_) AllReadyH.nil)
 ·rw [if_pos (by kernel_rfl)]
  (try simp only [zGa]); (try simp only [zGb]); (try simp only [zGc])
  have hRl := hR.lt
  refine wp_build0I 7 rfl rfl ?_
  intro v0 W' hb own0
  have hR := hR.call hb
  refine hK.out _ _ (belI_call hS hb) (fun hS => ?_)
  clear hK
  (try simp only [Act.put]); (try simp only [zPa]); (try simp only [zPb, zPc])
  refine wpAnyH_ready (rs := [7]) (by kernel_rfl) (by simp) ?_
  refine (AllReadyH.cons rfl (fun K hK => ?_) AllReadyH.nil)
  ·rw [if_pos (by kernel_rfl)]
   (try simp only [zGa]); (try simp only [zGb]); (try simp only [zGc])
   refine wp_appendI (.tmp 7) (.tmp 9) rfl _ v0 0 [] rfl own0 (.slice A L.length c) L rfl (hv2.call hS) (by have := Hm.out; omega) hb.size ?_
   intro v1 W2 hown hg hat
   obtain ⟨Au, cu, hu⟩ := ownI_shape hown
   subst hu
   have hR := hR.grown hg (fun e => by have := (own0.lt _ e.symm).1; omega)
   refine hK.out _ _ (hS.grown hg hS.size (fun k hk => by have := (own0.lt k hk).1; omega)) (fun hS => ?_)
   clear hK
   (try simp only [Act.put]); (try simp only [zPa]); (try simp only [zPb, zPc])
   refine tcH (i := 8) (v := .agg #[.int .i64 X, .int .i64 Y, .slice Au (0 + L.length) cu]) rfl (by intro w' hSw; (try dsimp only at hSw); (obtain ⟨c0, c1, c2⟩ := (hC.call hSw).cells); go_simp) ?_
   (try simp only [Act.put]); (try simp only [zPa]); (try simp only [zPb, zPc])
   refine wpAnyH_ready (rs := [9]) (by kernel_rfl) (by simp) ?_
   refine (AllReadyH.cons rfl (fun K hK => ?_) AllReadyH.nil)
   ·rw [if_pos (by kernel_rfl)]
    (try simp only [zGa]); (try simp only [zGb]); (try simp only [zGc])
    refine wp_store_im 55 size26 (.tmp 2) (.tmp 11) rfl (w.heap.size + 1) 0 0 (.slice none 0 0) X Y Au (0 + L.length) cu rfl rfl hR ?_
    intro W3 hI hg3
    skip
    refine hK.out _ _ (hS.grown hg3 hS.size (fun k hk => by injection hk with hk; omega)) (fun hS => ?_)
    clear hK
    (try simp only [Act.put]); (try simp only [zPa]); (try simp only [zPb, zPc])
    refine wpAnyH_done (by kernel_rfl) ?_ _
    have hlt := fun g hg => (hown.lt g hg).1
    have hown3 := hown.kept hg3 (ownI_ne (fun g hg => by have := hlt g hg; omega))
    have K := hb0.trans (hS.mono (by omega))
    obtain ⟨x0, x1, x2⟩ := hI.cells
    clear hR hC hv2 hS hb own0 hg hg3 hown hst
    go_wp2_with fail
    exact bodyPost_ret (v := .agg #[.int .i64 X, .int .i64 Y, .slice Au (0 + L.length) cu]) (by simp [results, Tryz.results137, go_sem, x0, x1, x2]) rfl (l05_end hown3 (by omega) K)
theorem rightI_b (r : Rc) (hr : r.ok) (w : World) :
  Calls Tryz.prog 193 #[.agg #[.int .i64 r.x, .int .i64 r.y, .int .i64 r.w, .int .i64 r.h]] w fun e w' => e = .returned (.int .i64 (r.x + r.w)) ∧ Below w.heap.size w w' := by
 refine (rightOf_any r hr w).mono ?_
 rintro e w' ⟨rfl, rfl⟩
 exact ⟨rfl, belI_box _ _⟩
set_option maxHeartbeats 600000 in
set_option maxRecDepth 10000 in
theorem spanI (W X n y m : Nat) (H Yr Hr : Int) (g N c : Nat) (w : World) (hW : W ≤ 16) (hy : y ≤ 15) (hm : y * W = m) (hN : m + W ≤ N) (hNc : N ≤ c) (hn : 1 ≤ n) (hX : X + n ≤ W) (hr : (⟨X, Yr, n, Hr⟩ : Rc).ok) :
  Calls Tryz.prog 158 #[.agg #[.int .i64 W, .int .i64 H, .slice (some ⟨g, 0, none⟩) N c], .agg #[.int .i64 X, .int .i64 Yr, .int .i64 n, .int .i64 Hr], .int .i64 y] w
   fun e w' => (∃ c', e = .returned (.slice (some ⟨g, m + X, none⟩) n c')) ∧ Below w.heap.size w w' := by
 have m240 : m ≤ 240 := by rw [← hm]; exact Nat.mul_le_mul hy hW
 have q1 : (y : Int) * (W : Int) = (m : Int) := by rw [← hm]; simp
 have q2 : ((y : Int) + 1) * (W : Int) = ((m + W : Nat) : Int) := by rw [Int.add_mul, q1, Int.one_mul]; omega
 have Hr' := Lib.hid hr
 have hw := belI_call (belI_box w (.cells #[.int .i64 W, .int .i64 H, .slice (some ⟨g, 0, none⟩) N c] 114)) (belI_box _ (.cells #[.int .i64 X, .int .i64 Yr, .int .i64 n, .int .i64 Hr] 111))
 have hR : RcAt ((w.alloc (.cells #[.int .i64 W, .int .i64 H, .slice (some ⟨g, 0, none⟩) N c] 114)).alloc (.cells #[.int .i64 X, .int .i64 Yr, .int .i64 n, .int .i64 Hr] 111)) (w.heap.size + 1) ⟨X, Yr, n, Hr⟩ := RcAt.newAt (w := w.alloc (.cells #[.int .i64 W, .int .i64 H, .slice (some ⟨g, 0, none⟩) N c] 114)) (by simp) ⟨X, Yr, n, Hr⟩
 clear hr hm
 go_enter Tryz.func158, Tryz.ntmps158
 go_wp2_with fail
 have f1 : X + n ≤ c - m := by omega
 have f2 : (X : Int) + (n : Int) ≤ ((c - m : Nat) : Int) := by omega
 have f3 : X + n - X = n := by omega
 have f4 : ¬ c - m = X := by omega
 have f5 : (0 : Int) ≤ (X : Int) + (n : Int) := by omega
 have f6 : X ≤ ((X : Int) + (n : Int)).toNat := by omega
 have f7 : ((X : Int) + (n : Int)).toNat - X = n := by omega
 obtain ⟨w0, hw0⟩ : ∃ w0, w0 = (w.alloc (.cells #[.int .i64 W, .int .i64 H, .slice (some ⟨g, 0, none⟩) N c] 114)).alloc (.cells #[.int .i64 X, .int .i64 Yr, .int .i64 n, .int .i64 Hr] 111) := ⟨_, rfl⟩
 rw [← hw0] at hw hR ⊢
 clear hw0
 refine wp_region_held_drew (S := fun W => Below w0.heap.size w0 W) (by kernel_rfl) (Below.refl _ _).drew (fun hS => ?_)
 refine tcH (i := 0) (v := .slice (some ⟨g, m, none⟩) (m + W - m) (c - m)) rfl (by intro w' hSw; (try dsimp only at hSw); (obtain ⟨r0, r1, r2, r3⟩ := (hR.below hSw hR.lt).cells); go_simp) ?_
 refine tcH (i := 1) (v := .pointer (some ⟨w.heap.size + 1, 0, none⟩)) rfl (by intro w' hSw; (try dsimp only at hSw); (obtain ⟨r0, r1, r2, r3⟩ := (hR.below hSw hR.lt).cells); go_simp) ?_
 refine tcH (i := 2) (v := .int .i64 X) rfl (by intro w' hSw; (try dsimp only at hSw); (obtain ⟨r0, r1, r2, r3⟩ := (hR.below hSw hR.lt).cells); go_simp) ?_
 refine tcH (i := 3) (v := .agg #[.int .i64 X, .int .i64 Yr, .int .i64 n, .int .i64 Hr]) rfl (by intro w' hSw; (try dsimp only at hSw); (obtain ⟨r0, r1, r2, r3⟩ := (hR.below hSw hR.lt).cells); go_simp) ?_
 (try simp only [Act.put]); (try simp only [zPa]); (try simp only [zPb, zPc])
 refine wpAnyH_ready (rs := [4]) (by kernel_rfl) (by simp) ?_
 refine (AllReadyH.cons rfl (fun K hK => ?_) AllReadyH.nil)
 ·rw [if_pos (by kernel_rfl)]
  (try simp only [zGa]); (try simp only [zGb]); (try simp only [zGc])
  go_simp
  with_reducible refine (rightI_b ⟨X, Yr, n, Hr⟩ Hr'.out _).mono ?_
  rintro e W' ⟨rfl, hb⟩
  dsimp only
  refine hK.out _ _ (belI_call hS hb) (fun hS => ?_)
  clear hK
  (try simp only [Act.put]); (try simp only [zPa]); (try simp only [zPb, zPc])
  refine wpAnyH_ready (rs := [5]) (by kernel_rfl) (by simp) ?_
  refine (AllReadyH.cons rfl (fun K hK => ?_) AllReadyH.nil)
  ·rw [if_pos (by kernel_rfl)]
   (try simp only [zGa]); (try simp only [zGb]); (try simp only [zGc])
   go_simp
   refine hK.out _ _ (hS) (fun hS => ?_)
   clear hK
   (try simp only [Act.put]); (try simp only [zPa]); (try simp only [zPb, zPc])
   refine tcH (i := 6) (v := .slice (some ⟨g, m + X, none⟩) n (c - m - X)) rfl (by intro w' hSw; (try dsimp only at hSw); (obtain ⟨r0, r1, r2, r3⟩ := (hR.below hSw hR.lt).cells); go_simp) ?_
   refine wpAnyH_done (by kernel_rfl) ?_ _
   go_wp2_with fail
   go_ret
   exact ⟨⟨_, rfl⟩, belI_call hw hS⟩
end Go.Proofs.YtokniebejilcbaaGreat
namespace Go.Proofs.YtokniebejilcbaaGreat
open Go.RowKit
def RgAt (w : World) (g : Nat) (v : Value) : Prop := w.heap[g]? = some (.cells #[v] 30 (0, 0))
theorem RgAt.lt {w : World} {g : Nat} {v : Value} (h : RgAt w g v) : g < w.heap.size := (Array.getElem?_eq_some_iff.1 h).1
theorem RgAt.cell {w : World} {g : Nat} {v : Value} (h : RgAt w g v) : w.cell? ⟨g, 0, none⟩ = some v := by rw [cell_of_row _ _ _ _ _ _ h]; rfl
theorem RgAt.call {w w' : World} {g : Nat} {v : Value} (h : RgAt w g v) (hb : Below w.heap.size w w') : RgAt w' g v := (hb.block g h.lt).trans h
theorem RgAt.alloc {w : World} {g : Nat} {v : Value} (h : RgAt w g v) (o : Obj) : RgAt (w.alloc o) g v := (Below.heap_alloc w o g h.lt).trans h
theorem RgAt.newAt {w : World} {g : Nat} (h : w.heap.size = g) (v : Value) : RgAt (w.alloc (.cells #[v] 30)) g v := h ▸ heap_alloc_new w _
structure CsB (w : World) (X Y : Int) (v : Value) (X2 Y2 : Int) (u : Value) (F : List Int) (vr : Value) (R : List Rc) (W : World) : Prop where
 a : ImAt W w.heap.size 55 X Y v
 b : ImAt W (w.heap.size + 1) 55 X2 Y2 u
 c : RgAt W (w.heap.size + 2) vr
 d : ImAt W (w.heap.size + 3) 55 0 0 (.slice none 0 0)
 ru : RdI W u F
 rr : RdR W vr R
 bw : Below w.heap.size w W
theorem CsB.call {w : World} {X Y : Int} {v : Value} {X2 Y2 : Int} {u : Value} {F : List Int} {vr : Value} {R : List Rc} {W W' : World} (h : CsB w X Y v X2 Y2 u F vr R W) (k : Below W.heap.size W W') : CsB w X Y v X2 Y2 u F vr R W' :=
 ⟨h.a.call k, h.b.call k, h.c.call k, h.d.call k, h.ru.call k, h.rr.call k, belI_call h.bw k⟩
theorem CsB.born (w : World) (X Y : Int) (v : Value) (X2 Y2 : Int) (u : Value) (F : List Int) (vr : Value) (R : List Rc) (hu : RdI w u F) (hr : RdR w vr R) :
  CsB w X Y v X2 Y2 u F vr R ((((w.alloc (.cells #[.int .i64 X, .int .i64 Y, v] 55)).alloc (.cells #[.int .i64 X2, .int .i64 Y2, u] 55)).alloc (.cells #[vr] 30)).alloc (.cells #[.int .i64 0, .int .i64 0, .slice none 0 0] 55)) :=
 ⟨(((ImAt.new w _ _ _ _).alloc _).alloc _).alloc _, ((ImAt.newAt (w := w.alloc (.cells #[.int .i64 X, .int .i64 Y, v] 55)) (by simp) _ _ _ _).alloc _).alloc _, (RgAt.newAt (w := (w.alloc (.cells #[.int .i64 X, .int .i64 Y, v] 55)).alloc (.cells #[.int .i64 X2, .int .i64 Y2, u] 55)) (by simp) _).alloc _,
  ImAt.newAt (w := ((w.alloc (.cells #[.int .i64 X, .int .i64 Y, v] 55)).alloc (.cells #[.int .i64 X2, .int .i64 Y2, u] 55)).alloc (.cells #[vr] 30)) (by simp) _ _ _ _,
  (((hu.alloc _).alloc _).alloc _).alloc _, (((hr.alloc _).alloc _).alloc _).alloc _, belI_call (belI_call (belI_call (belI_box _ _) (belI_box _ _)) (belI_box _ _)) (belI_box _ _)⟩
theorem ans_set {w W : World} {lo b n : Nat} {X Y : Int} {A : Option Addr} {c : Nat} {L : List Int} (h : W.ownsRow lo 3 1 (.slice A n c) n (intCells L)) (hn : L.length = n) (hb1 : w.heap.size ≤ b) (hb2 : b < lo) (K : Below w.heap.size w W) :
  ImAns X Y L w (.returned (.agg #[.int .i64 X, .int .i64 Y, .slice A n c])) (((W.setCell ⟨b, 0, none⟩ (.int .i64 X)).setCell ⟨b, 1, none⟩ (.int .i64 Y)).setCell ⟨b, 2, none⟩ (.slice A n c)) := by
 subst hn
 have hlt := fun g hg => (h.lt g hg).1
 exact ⟨_, rfl, ownI_far (ownI_far (ownI_far (h.mono (by omega)) (fun g hg => by have := hlt g hg; dsimp only; omega) _) (fun g hg => by have := hlt g hg; dsimp only; omega) _) (fun g hg => by have := hlt g hg; dsimp only; omega) _, ((K.setCell hb1 _).setCell hb1 _).setCell hb1 _⟩
theorem cell_grown {W V : World} {g o : Nat} {v : Value} {row : Option Nat} (h : W.cell? ⟨g, o, none⟩ = some v) (hg : W.grownBy V row) (hr : some g ≠ row) : V.cell? ⟨g, o, none⟩ = some v :=
 (World.cell?_of_block (hg.block g (World.block_lt_of_cell? W _ h) hr)).trans h
theorem GrAt.grownI {w w' : World} {b : Nat} {t : TypeId} {g : Nat → Bool} {row : Option Nat} (h : GrAt w b t g) (hb : w.grownBy w' row) (hr : some b ≠ row) : GrAt w' b t g := (hb.block b h.lt hr).trans h
theorem grown_setI (w : World) (g o : Nat) (v : Value) : w.grownBy (w.setCell ⟨g, o, none⟩ v) (some g) :=
 ⟨rfl, rfl, rfl, by simp, fun k _ hk => Below.heap_setCell w ⟨g, o, none⟩ v k (fun e => hk (by rw [e]))⟩
theorem zeroRc (w : World) : (zeroValue 111).run Tryz.prog w = .ok (.agg #[.int .i64 0, .int .i64 0, .int .i64 0, .int .i64 0]) w := by kernel_rfl
theorem sizeRc : (Tryz.prog.info? 111).map (·.size) = some 4 := by kernel_rfl
theorem wp_alloc_rc {op : Oper} {a : Act} {w : World} {K : Act → World → Prop} {Q : Exit → Act → World → Prop} (d : Nat) (ho : op.op = .alloc 111) (hd : op.dst = some d)
  (h : ∀ b W', Below w.heap.size w W' → RcAt W' b ⟨0, 0, 0, 0⟩ → w.heap.size ≤ b → K (a.put (some d) (.pointer (some ⟨b, 0, none⟩))) W') : op.wp Tryz.prog a w K Q := by
 have h1 := h w.heap.size (w.alloc (.cells #[.int .i64 0, .int .i64 0, .int .i64 0, .int .i64 0] 111)) (belI_box _ _) (RcAt.new w ⟨0, 0, 0, 0⟩) (Nat.le_refl _)
 have hz := zeroRc w
 unfold Oper.wp execOp
 simp only [ho, Instr.alloc, Sem.run_bind, hz, Result.andThen_ok, Sem.run_pure]
 rw [← hd] at h1
 exact h1
theorem wp_store_rc {op : Oper} {a : Act} {w : World} {K : Act → World → Prop} {Q : Exit → Act → World → Prop} (x y : Operand) (ho : op.op = .store 111 x y)
  (b : Nat) (r0 r : Rc) (hx : a.eval x = .pointer (some ⟨b, 0, none⟩)) (hy : a.eval y = .agg #[.int .i64 r.x, .int .i64 r.y, .int .i64 r.w, .int .i64 r.h]) (hI : RcAt w b r0)
  (h : ∀ W', RcAt W' b r → w.grownBy W' (some b) → K (a.put op.dst undef) W') : op.wp Tryz.prog a w K Q := by
 have hs : (storeVar 111 ⟨b, 0, none⟩ (.agg #[.int .i64 r.x, .int .i64 r.y, .int .i64 r.w, .int .i64 r.h])).run Tryz.prog w = .ok () (w.setRow b #[.int .i64 r.x, .int .i64 r.y, .int .i64 r.w, .int .i64 r.h]) :=
  run_storeVar_row w b _ _ #[.int .i64 r0.x, .int .i64 r0.y, .int .i64 r0.w, .int .i64 r0.h] #[.int .i64 r.x, .int .i64 r.y, .int .i64 r.w, .int .i64 r.h] hI sizeRc rfl (by simp [Value.oneCell'])
 have h1 := h (w.setRow b #[.int .i64 r.x, .int .i64 r.y, .int .i64 r.w, .int .i64 r.h]) (setRow_heap w b _ _ _ _ hI) ⟨rfl, rfl, rfl, by simp [World.setRow], fun k _ hk => setRow_other w b k _ (fun e => hk (by rw [e]))⟩
 unfold Oper.wp execOp
 simp only [ho, hx, hy, Instr.storeAt, Instr.sureAddr, Sem.run_bind, Sem.run_pure, Result.andThen_ok, hs]
 exact h1
theorem wp_copy_mine {P : Program} {o : Oper} {a : Act} {w : World} {K : Act → World → Prop} {Q : Exit → Act → World → Prop} (d s : Operand) (dT sT : TypeId)
  (ho : o.op = .call { callee := .builtin .copy, args := #[d, s], argTypes := #[dT, sT] }) (elem : TypeId) (hu : P.underlying dT = some (.slice elem)) (hsz : (P.info? elem).map (·.size) = some 1)
  (base g off n cap dLen dCap : Nat) (ad : Addr) (sLen sCap : Nat) (xs cs : List Value) (m : Nat) (hcm : cs.length = m) (hd : a.eval d = .slice (some ⟨g, off, none⟩) dLen dCap) (hs : a.eval s = .slice (some ad) sLen sCap)
  (hown : w.ownsRow base elem 1 (.slice (some ⟨g, 0, none⟩) n cap) n xs) (hn : m = Nat.min sLen dLen)
  (hsrc : ∀ j v, cs[j]? = some v → w.cell? (ad.add j) = some v) (hfit : off + m ≤ n) (h1 : ∀ v ∈ cs, v.oneCell' = true)
  (h : ∀ w', Hid (w'.ownsRow base elem 1 (.slice (some ⟨g, 0, none⟩) n cap) n (splice xs off cs)) → Hid (w.grownBy w' (some g)) → K (a.put o.dst (goInt m)) w') : o.wp P a w K Q := by
 obtain ⟨w', hrun, h2, h3⟩ := run_copy_own (P := P) w dT sT o.type elem base g off n cap dLen dCap ad sLen sCap xs cs m hcm hu hsz hown hn hsrc hfit h1
 unfold Oper.wp
 simp [execOp, ho, resolve, invoke, builtin, hd, hs, hrun, Result.andThen]
 exact h w' h2 h3
theorem RcAt.grownI {w w' : World} {g : Nat} {row : Option Nat} {r : Rc} (h : RcAt w g r) (hb : w.grownBy w' row) (hg : some g ≠ row) : RcAt w' g r := (hb.block g h.lt hg).trans h
theorem grown_drewI (w : World) (row : Option Nat) : w.grownBy w.drew row := ⟨rfl, rfl, rfl, Nat.le_refl _, fun _ _ _ => rfl⟩
theorem own_cap {w : World} {B g n cap : Nat} {e : TypeId} {xs : List Value} (h : w.ownsRow B e 1 (.slice (some ⟨g, 0, none⟩) n cap) n xs) : n ≤ cap := by
 rcases h.2 with ⟨h, _⟩ | ⟨g', cap', cur, he, _, _, hnc, _⟩
 ·cases h
 ·cases he; exact hnc
theorem rd_block {w : World} {u : Value} {F : List Int} (h : RdI w u F) (h0 : 0 < F.length) : ∃ g c, u = .slice (some ⟨g, 0, none⟩) F.length c ∧ g < w.heap.size ∧ F.length ≤ c := by
 rcases h with ⟨_, rfl⟩ | ⟨g, c, rfl, hm, hlc, hc⟩
 ·simp at h0
 ·exact ⟨g, c, rfl, World.block_lt_of_cell? w _ (hc 0 _ (List.getElem?_eq_getElem h0)), hlc⟩
end Go.Proofs.YtokniebejilcbaaGreat
namespace Go.Proofs.YtokniebejilcbaaGreat
open Go.RowKit
theorem RgAt.frozen {w : World} {g : Nat} {v : Value} (h : RgAt w g v) : w.frozen? ⟨g, 0, none⟩ = false := by unfold RgAt at h; simp [World.frozen?, h]
theorem RgAt.grown {w w' : World} {g : Nat} {v : Value} {row : Option Nat} (h : RgAt w g v) (hg : w.grownBy w' row) (hr : some g ≠ row) : RgAt w' g v := (hg.block g h.lt hr).trans h
end Go.Proofs.YtokniebejilcbaaGreat
namespace Go.Proofs.YtokniebejilcbaaGreat
open Go.RowKit
theorem intCells_append (L M : List Int) : intCells (L ++ M) = intCells L ++ intCells M := by simp [intCells]
end Go.Proofs.YtokniebejilcbaaGreat
namespace Go.Proofs.YtokniebejilcbaaGreat
open Go.RowKit
open Classical in
noncomputable def imEq (L M : List Int) : Bool := decide (L = M)
theorem imEq_yes (L : List Int) : imEq L L = true := by unfold imEq; exact decide_eq_true rfl
theorem imEq_no {L M : List Int} (h : L ≠ M) : imEq L M = false := by unfold imEq; exact decide_eq_false h
open Classical in
noncomputable def sameM (X Y : Int) (L : List Int) (X2 Y2 : Int) (M : List Int) : Bool := decide (X = X2 ∧ Y = Y2 ∧ L = M)
theorem sameM_yes (X Y : Int) (L : List Int) : sameM X Y L X Y L = true := by unfold sameM; exact decide_eq_true ⟨rfl, rfl, rfl⟩
theorem sameM_no {X Y : Int} {L : List Int} {X2 Y2 : Int} {M : List Int} (h : ¬ (X = X2 ∧ Y = Y2 ∧ L = M)) : sameM X Y L X2 Y2 M = false := by unfold sameM; exact decide_eq_false h
theorem sameM_in (X Y : Int) (L M : List Int) : sameM X Y L X Y M = imEq L M := by
 by_cases h : L = M
 ·subst h; rw [sameM_yes, imEq_yes]
 ·rw [imEq_no h, sameM_no fun k => h k.2.2]
def ImEqAns (L M : List Int) (w : World) (e : Ending) (w' : World) : Prop := e = .returned (.bool (imEq L M)) ∧ ∃ q, w' = w.drewN q
theorem ext_of {L M : List Int} (h : L.length = M.length) (hall : ∀ j, j < L.length → L[j]? = M[j]?) : L = M := by
 apply List.ext_getElem?
 intro j
 by_cases hj : j < L.length
 ·exact hall j hj
 ·rw [List.getElem?_eq_none (by omega), List.getElem?_eq_none (by omega)]
set_option maxHeartbeats 1000000 in
theorem sameInts_any (v u : Value) (L M : List Int) (w : World) (hv : RdI w v L) (hu : RdI w u M) : Calls Tryz.prog 80 #[v, u] w (ImEqAns L M w) := by
 obtain ⟨A, c, rfl⟩ := hv.form
 obtain ⟨A', c', rfl⟩ := hu.form
 have h1 := hv.len
 have h2 := hu.len
 unfold maxLen at h1 h2
 obtain ⟨n, hn⟩ : ∃ n, n = L.length := ⟨_, rfl⟩
 obtain ⟨n2, hn2⟩ : ∃ n2, n2 = M.length := ⟨_, rfl⟩
 rw [← hn] at h1 hv ⊢
 rw [← hn2] at h2 hu ⊢
 have Hn := Lib.hid hn
 have Hn2 := Lib.hid hn2
 have Hv := Lib.hid hv
 have Hu := Lib.hid hu
 clear hv hu hn hn2
 by_cases hl : n = n2
 ·subst hl
  go_enter Tryz.func80, Tryz.ntmps80
  go_wp2_with fail
  go_loopw [5] (fun i wr => ∃ k : Nat, k ≤ n ∧ i = .int .i64 k ∧ Hid (∀ j, j < k → L[j]? = M[j]?) ∧ ∃ q, wr = w.drewN q) (fun i _ => n - (intOf i).toNat)
  case atStart => exact ⟨0, Nat.zero_le _, rfl, Lib.hid (fun j hj => by omega), 0, rfl⟩
  case round =>
   obtain ⟨k, hk, rfl, Hall, q, rfl⟩ := hrel
   by_cases hlt : k < n
   ·obtain ⟨a, x, rfl, hx, hcx⟩ := Hv.out.at_ (k := k) (by rw [← Hn.out]; exact hlt)
    obtain ⟨a', y, rfl, hy, hcy⟩ := Hu.out.at_ (k := k) (by rw [← Hn2.out]; exact hlt)
    have Hx := Lib.hid hx
    have Hy := Lib.hid hy
    clear hx hy
    have k0 : (0 : Int) ≤ (k : Int) := by omega
    have k1 : (k : Int) < (n : Int) := by omega
    by_cases hxy : x = y
    ·subst hxy
     go_wp2_with fail
     go_quiet (fail)
     go_wp2_with fail
     rename_i nq
     go_roundw
     case rel =>
      refine ⟨k + 1, by omega, by go_num, Lib.hid (fun j hj => ?_), _, rfl⟩
      by_cases e : j < k
      ·exact Hall.out j e
      ·obtain rfl : j = k := by omega
       rw [Hx.out, Hy.out]
     case measure => simp [intOf]; omega
    ·have hb : (x == y) = false := by rw [beq_eq_false_iff_ne]; exact hxy
     have hno : imEq L M = false := imEq_no fun h => hxy (by have h3 := Hx.out; rw [h, Hy.out] at h3; exact (Option.some.inj h3).symm)
     have Hno := Lib.hid hno
     clear hno hxy
     go_wp2_with fail
     go_quiet (fail)
     go_wp2_with fail
     go_ret
     exact ⟨ret_bool Hno.out.symm, q + _, by first | rfl | exact World.drewN_drewN _ _ _⟩
   ·obtain rfl : k = n := by omega
    have hyes : imEq L M = true := by
     have h : L = M := ext_of (by rw [← Hn.out, ← Hn2.out]) (fun j hj => Hall.out j (by rw [Hn.out]; exact hj))
     subst h; exact imEq_yes L
    have Hyes := Lib.hid hyes
    clear hyes
    go_wp2_with fail
    go_ret
    exact ⟨ret_bool Hyes.out.symm, _, rfl⟩
 ·have hno : imEq L M = false := imEq_no fun h => hl (by rw [Hn.out, Hn2.out, h])
  have Hno := Lib.hid hno
  have hli : ((n : Int) == (n2 : Int)) = false := by rw [beq_eq_false_iff_ne]; omega
  clear hno
  go_enter Tryz.func80, Tryz.ntmps80
  go_wp2_with fail
  go_ret
  exact ⟨ret_bool Hno.out.symm, 0, rfl⟩
theorem equalI (v u : Value) (L M : List Int) (w : World) (hv : RdI w v L) (hu : RdI w u M) : Calls Tryz.prog 217 #[v, u] w (ImEqAns L M w) := by
 have h1 := hv.len
 have h2 := hu.len
 unfold maxLen at h1 h2
 by_cases hl : L.length = M.length
 ·rcases hv with ⟨rfl, rfl⟩ | ⟨g, c, rfl, _, _, hc⟩
  ·obtain ⟨A, c, rfl⟩ := hu.form
   have hM : M = [] := List.eq_nil_of_length_eq_zero hl.symm
   subst hM
   refine (Tryz.slices_Equal_int_empty none A 0 0 c w (by omega)).mono ?_
   rintro e w' ⟨rfl, rfl⟩
   exact ⟨ret_bool (by rw [imEq_yes]; rfl), 0, rfl⟩
  ·rcases hu with ⟨rfl, rfl⟩ | ⟨g2, c2, rfl, _, _, hc2⟩
   ·have hL : L = [] := List.eq_nil_of_length_eq_zero hl
    subst hL
    refine (Tryz.slices_Equal_int_empty _ _ c 0 0 w (by omega)).mono ?_
    rintro e w' ⟨rfl, rfl⟩
    exact ⟨ret_bool (by rw [imEq_yes]; rfl), 0, rfl⟩
   ·refine (Tryz.slices_Equal_int g 0 L.length c g2 0 M.length c2 L M w (Nat.le_refl _) (Nat.le_refl _) h1 h2 (fun j hj => ?_) (fun j hj => ?_)).mono ?_
    ·rw [Nat.zero_add, List.getD_eq_getElem?_getD, List.getElem?_eq_getElem hj]; exact hc j _ (List.getElem?_eq_getElem hj)
    ·rw [Nat.zero_add, List.getD_eq_getElem?_getD, List.getElem?_eq_getElem hj]; exact hc2 j _ (List.getElem?_eq_getElem hj)
    ·rintro e w' ⟨rfl, q, rfl⟩
     refine ⟨ret_bool ?_, q, rfl⟩
     rw [List.take_length, List.take_length]
     by_cases h : L = M
     ·subst h; rw [imEq_yes]; exact beq_self_eq_true L
     ·rw [imEq_no h]; exact beq_eq_false_iff_ne.2 h
 ·obtain ⟨A, c, rfl⟩ := hv.form
  obtain ⟨A2, c2, rfl⟩ := hu.form
  refine (Tryz.slices_Equal_int_lens A A2 L.length c M.length c2 w hl).mono ?_
  rintro e w' ⟨rfl, rfl⟩
  exact ⟨ret_bool (by rw [imEq_no (fun h => hl (by rw [h]))]), 0, rfl⟩
def SameMAns (X Y : Int) (L : List Int) (X2 Y2 : Int) (M : List Int) (w : World) (e : Ending) (w' : World) : Prop := e = .returned (.bool (sameM X Y L X2 Y2 M)) ∧ Below w.heap.size w w'
set_option maxHeartbeats 1000000 in
theorem sameII (X Y : Int) (v : Value) (L : List Int) (X2 Y2 : Int) (u : Value) (M : List Int) (w : World) (hv : RdI w v L) (hu : RdI w u M) :
  Calls Tryz.prog 194 #[.agg #[.int .i64 X, .int .i64 Y, v], .agg #[.int .i64 X2, .int .i64 Y2, u]] w (SameMAns X Y L X2 Y2 M w) := by
 have hv2 := (hv.alloc (.cells #[.int .i64 X, .int .i64 Y, v] 55)).alloc (.cells #[.int .i64 X2, .int .i64 Y2, u] 55)
 have hu2 := (hu.alloc (.cells #[.int .i64 X, .int .i64 Y, v] 55)).alloc (.cells #[.int .i64 X2, .int .i64 Y2, u] 55)
 have Hw := Lib.hid (belI_call (belI_box w (.cells #[.int .i64 X, .int .i64 Y, v] 55)) (belI_box _ (.cells #[.int .i64 X2, .int .i64 Y2, u] 55)))
 have Hv := Lib.hid hv2
 have Hu := Lib.hid hu2
 obtain ⟨A, c, rfl⟩ := hv.form
 obtain ⟨A', c', rfl⟩ := hu.form
 clear hv hu hv2 hu2
 by_cases hx : X = X2
 ·subst hx
  by_cases hy : Y = Y2
  ·subst hy
   obtain ⟨b, hb⟩ : ∃ b, b = imEq L M := ⟨_, rfl⟩
   have HA : Hid (sameM X Y L X Y M = b) := Lib.hid (by rw [hb]; exact sameM_in X Y L M)
   have R := fun W h1 h2 => equalI (.slice A L.length c) (.slice A' M.length c') L M W h1 h2
   unfold ImEqAns at R
   rw [← hb] at R
   have HR := Lib.hid R
   clear R hb
   go_enter Tryz.func194, Tryz.ntmps194
   go_wp2_with fail
   refine (HR.out _ Hv.out Hu.out).mono ?_
   rintro e w1 ⟨rfl, q, rfl⟩
   go_wp2_with fail
   go_ret
   exact ⟨ret_bool HA.out.symm, ⟨Hw.out.os, Hw.out.tape, Hw.out.output, Hw.out.size, Hw.out.block⟩⟩
  ·have HA : Hid (sameM X Y L X Y2 M = false) := Lib.hid (sameM_no fun h => hy h.2.1)
   have hyb : (Y == Y2) = false := by rw [beq_eq_false_iff_ne]; exact hy
   go_enter Tryz.func194, Tryz.ntmps194
   go_wp2_with fail
   go_ret
   exact ⟨ret_bool HA.out.symm, Hw.out⟩
 ·have HA : Hid (sameM X Y L X2 Y2 M = false) := Lib.hid (sameM_no fun h => hx h.1)
  have hxb : (X == X2) = false := by rw [beq_eq_false_iff_ne]; exact hx
  go_enter Tryz.func194, Tryz.ntmps194
  go_wp2_with fail
  go_ret
  exact ⟨ret_bool HA.out.symm, Hw.out⟩
set_option maxHeartbeats 1000000 in
theorem sameIL (X Y : Int) (v : Value) (L : List Int) (X2 Y2 : Int) (u : Value) (M : List Int) (w : World) (hv : RdI w v L) (hu : RdI w u M) :
  Calls Tryz.prog 33 #[.agg #[.int .i64 X, .int .i64 Y, v], .agg #[.int .i64 X2, .int .i64 Y2, u]] w (SameMAns X Y L X2 Y2 M w) := by
 have hv2 := (hv.alloc (.cells #[.int .i64 X, .int .i64 Y, v] 55)).alloc (.cells #[.int .i64 X2, .int .i64 Y2, u] 55)
 have hu2 := (hu.alloc (.cells #[.int .i64 X, .int .i64 Y, v] 55)).alloc (.cells #[.int .i64 X2, .int .i64 Y2, u] 55)
 have Hw := Lib.hid (belI_call (belI_box w (.cells #[.int .i64 X, .int .i64 Y, v] 55)) (belI_box _ (.cells #[.int .i64 X2, .int .i64 Y2, u] 55)))
 have Hv := Lib.hid hv2
 have Hu := Lib.hid hu2
 obtain ⟨A, c, rfl⟩ := hv.form
 obtain ⟨A', c', rfl⟩ := hu.form
 clear hv hu hv2 hu2
 by_cases hx : X = X2
 ·subst hx
  by_cases hy : Y = Y2
  ·subst hy
   obtain ⟨b, hb⟩ : ∃ b, b = imEq L M := ⟨_, rfl⟩
   have HA : Hid (sameM X Y L X Y M = b) := Lib.hid (by rw [hb]; exact sameM_in X Y L M)
   have R := fun W h1 h2 => sameInts_any (.slice A L.length c) (.slice A' M.length c') L M W h1 h2
   unfold ImEqAns at R
   rw [← hb] at R
   have HR := Lib.hid R
   clear R hb
   go_enter Tryz.func33, Tryz.ntmps33
   go_wp2_with fail
   refine (HR.out _ Hv.out Hu.out).mono ?_
   rintro e w1 ⟨rfl, q, rfl⟩
   go_wp2_with fail
   go_ret
   exact ⟨ret_bool HA.out.symm, ⟨Hw.out.os, Hw.out.tape, Hw.out.output, Hw.out.size, Hw.out.block⟩⟩
  ·have HA : Hid (sameM X Y L X Y2 M = false) := Lib.hid (sameM_no fun h => hy h.2.1)
   have hyb : (Y == Y2) = false := by rw [beq_eq_false_iff_ne]; exact hy
   go_enter Tryz.func33, Tryz.ntmps33
   go_wp2_with fail
   go_ret
   exact ⟨ret_bool HA.out.symm, Hw.out⟩
 ·have HA : Hid (sameM X Y L X2 Y2 M = false) := Lib.hid (sameM_no fun h => hx h.1)
  have hxb : (X == X2) = false := by rw [beq_eq_false_iff_ne]; exact hx
  go_enter Tryz.func33, Tryz.ntmps33
  go_wp2_with fail
  go_ret
  exact ⟨ret_bool HA.out.symm, Hw.out⟩
end Go.Proofs.YtokniebejilcbaaGreat
namespace Go.Proofs.YtokniebejilcbaaGreat
open Go.RowKit
theorem ownA_ne {v : Value} {b : Nat} (h : ∀ g, v.ownBlock = some g → g ≠ b) : v.ownBlock = none ∨ v.ownBlock ≠ some b := by
 by_cases hv : v.ownBlock = none
 ·exact .inl hv
 ·exact .inr fun e => h b e rfl
theorem ImV.made {W V : World} {b : Nat} {X Y : Int} {v : Value} {L : List Int} (hat : ImAt V b 55 X Y v) (hown : V.ownsRow W.heap.size 3 1 v L.length (intCells L)) (hb : W.heap.size ≤ b) (hn : ∀ k, v.ownBlock = some k → k ≠ b) :
  ImV W.heap.size V.heap.size b X Y v L V := ⟨hat, hown, hb, hat.lt, fun k hk => ⟨(hown.lt k hk).2, hn k hk⟩, Nat.le_refl _⟩
end Go.Proofs.YtokniebejilcbaaGreat
namespace Go.Proofs.YtokniebejilcbaaGreat
open Go.RowKit
theorem ints_form {w : World} {L : List Int} {d : Value} {bs : List Nat} (h : repInts.R w L [d] bs) : (∃ A c, d = .slice A L.length c) ∧ RdI w d L := ⟨(repInts_rd h).form, repInts_rd h⟩
theorem ints_own {w w0 : World} {L : List Int} {d : Value} (h : w.ownsRow w0.heap.size 3 1 d L.length (intCells L)) : repInts.Own w0.heap.size w L [d] d.ownBlock.toList := repInts_own h
theorem r_sf {w : World} {f : Sf} {d : Value} {bs : List Nat} (h : repSf.R w f [.int .i64 f.id, .int .i64 f.x, .int .i64 f.y, .int .i64 f.w, .int .i64 f.h, .int .i64 f.alpha, .int .i64 f.orient, .bool f.vis, .int .i64 f.bw, .int .i64 f.bh, d] bs) : repInts.R w f.data [d] bs := by
 obtain ⟨d', e, h⟩ := h
 have e2 : d = d' := by simpa [sfCells] using e
 subst e2
 exact h
theorem r_ed {w : World} {f : Ed} {d : Value} {bs : List Nat} (h : repEd.R w f [.int .i64 f.kind, .int .i64 f.id, .int .i64 f.a, .int .i64 f.b, .int .i64 f.bw, .int .i64 f.bh, d] bs) : repInts.R w f.data [d] bs := by
 obtain ⟨d', e, h⟩ := h
 have e2 : d = d' := by simpa [edCells] using e
 subst e2
 exact h
end Go.Proofs.YtokniebejilcbaaGreat
namespace Go.Proofs.YtokniebejilcbaaGreat
open Go.RowKit
def repEds : Rep (List Ed) := repSl repEd 94 7
def lenFs (L : List Sf) : Nat := (L.map fun f => f.data.length).sum
def sizFs (L : List Sf) : Nat := L.length + lenFs L
def cntFs (L : List Sf) : Nat := L.length * 10 + lenFs L
theorem lenFs_take {L : List Sf} {k : Nat} {f : Sf} (h : L[k]? = some f) : lenFs (L.take (k + 1)) = lenFs (L.take k) + f.data.length := by
 unfold lenFs
 rw [List.take_add_one, h, Option.toList_some, List.map_append, List.sum_append]
 simp
theorem lenFs_le (L : List Sf) (k : Nat) : lenFs (L.take k) ≤ lenFs L := by
 unfold lenFs
 conv => rhs; rw [← List.take_append_drop k L, List.map_append, List.sum_append]
 omega
theorem lenFs_at {L : List Sf} {k : Nat} {f : Sf} (h : L[k]? = some f) : f.data.length ≤ lenFs L := by
 have := lenFs_le L (k + 1); rw [lenFs_take h] at this; omega
theorem cnt_le_siz (L : List Sf) : cntFs L ≤ 10 * sizFs L := by unfold cntFs sizFs; omega
section
variable {α : Type} {M L : List α} {k : Nat}
end
end Go.Proofs.YtokniebejilcbaaGreat
namespace Go.Proofs.YtokniebejilcbaaGreat
open Go.RowKit
structure SlU {α : Type} (E : Rep α) (e : TypeId) (s : Nat) (w : World) (L : List α) (g c n : Nat) (xs : List (List Value)) (bss : List (List Nat)) : Prop where
 rr : rowsR E w L xs bss
 ls : ∀ x ∈ xs, x.length = s
 ow : w.ownsRow 0 e s (.slice (some ⟨g, 0, none⟩) n c) n xs.flatten
 hn : n = L.length
section
variable {α : Type} {E : Rep α} {e : TypeId} {s : Nat} {w w' : World} {L : List α} {g c n : Nat} {xs : List (List Value)} {bss : List (List Nat)}
theorem SlU.lt (h : SlU E e s w L g c n xs bss) : g < w.heap.size := (own_ltB h.ow g (by simp [Value.ownBlock])).2
theorem SlU.call (h : SlU E e s w L g c n xs bss) (hb : Below w.heap.size w w') : SlU E e s w' L g c n xs bss :=
 ⟨rowsR_keep h.rr fun b hb' => hb.block b (rowsR_ex h.rr b hb'), h.ls, own_keepB h.ow fun b hb' => hb.block b (own_ltB h.ow b hb').2, h.hn⟩
theorem SlU.at_ (h : SlU E e s w L g c n xs bss) {k : Nat} (hk : k < n) : ∃ a x b, L[k]? = some a ∧ xs[k]? = some x ∧ bss[k]? = some b ∧ x.length = s ∧ E.R w a x b ∧ ∀ j u, x[j]? = some u → w.cell? ⟨g, k * s + j, none⟩ = some u := by
 have hL := List.getElem?_eq_getElem (show k < L.length by rw [← h.hn]; exact hk)
 obtain ⟨x, b, hx, hb, hR⟩ := rowsR_at h.rr k _ hL
 have hl := h.ls x (List.mem_of_getElem? hx)
 refine ⟨_, x, b, hL, hx, hb, hl, hR, fun j u hu => ?_⟩
 have hj : j < s := by have := (List.getElem?_eq_some_iff.1 hu).1; omega
 exact own_cellI h.ow (by rw [flat_at h.ls k j hx hj]; exact hu)
theorem SlU.frozen (h : SlU E e s w L g c n xs bss) (j : Nat) : w.frozen? ⟨g, j, none⟩ = false := h.ow.frozenAt j
theorem SlU.rep (h : SlU E e s w L g c n xs bss) : (repSl E e s).R w L [.slice (some ⟨g, 0, none⟩) n c] (g :: bss.flatten) := ⟨_, xs, bss, rfl, h.rr, h.ls, by rw [← h.hn]; exact h.ow, by simp [Value.ownBlock]⟩
theorem SlU.of_rep {v : Value} {bs : List Nat} (h : (repSl E e s).R w L [v] bs) : (v = .slice none 0 0 ∧ L = [] ∧ bs = []) ∨ ∃ g c xs bss, v = .slice (some ⟨g, 0, none⟩) L.length c ∧ SlU E e s w L g c L.length xs bss ∧ bs = g :: bss.flatten := by
 obtain ⟨v', xs, bss, he, hr, hs, ho, rfl⟩ := h
 obtain rfl : v = v' := by simpa using he
 rcases ho.2 with ⟨rfl, h0⟩ | ⟨g, cap, cur, rfl, _⟩
 ·have hL : L = [] := List.eq_nil_of_length_eq_zero h0
  subst hL
  have := (rowsR_len hr).2
  obtain rfl : bss = [] := List.eq_nil_of_length_eq_zero this
  exact .inl ⟨rfl, rfl, rfl⟩
 ·exact .inr ⟨g, cap, xs, bss, rfl, ⟨hr, hs, ho, rfl⟩, by simp [Value.ownBlock]⟩
theorem own_setK {xs : List (List Value)} (ls : ∀ x ∈ xs, x.length = s) (ow : w.ownsRow 0 e s (.slice (some ⟨g, 0, none⟩) n c) n xs.flatten) {k j : Nat} {x : List Value} (hx : xs[k]? = some x) (hj : j < s) (v : Value) :
  (∀ y ∈ xs.set k (x.set j v), y.length = s) ∧ (w.setCell ⟨g, k * s + j, none⟩ v).ownsRow 0 e s (.slice (some ⟨g, 0, none⟩) n c) n (xs.set k (x.set j v)).flatten ∧ w.grownBy (w.setCell ⟨g, k * s + j, none⟩ v) (some g) := by
 obtain ⟨p1, p2⟩ := ow.stored (k * s + j) v
 rw [flat_set ls k j hx v hj] at p1
 refine ⟨fun y hy => ?_, p1, p2⟩
 rcases List.mem_or_eq_of_mem_set hy with h | rfl
 ·exact ls y h
 ·rw [List.length_set]; exact ls x (List.mem_of_getElem? hx)
end
structure SetK (e : TypeId) (s : Nat) (w w' : World) (g c n k : Nat) (xs : List (List Value)) (x' : List Value) : Prop where
 ls : ∀ y ∈ xs.set k x', y.length = s
 ow : w'.ownsRow 0 e s (.slice (some ⟨g, 0, none⟩) n c) n (xs.set k x').flatten
 gr : w.grownBy w' (some g)
theorem SetK.put {e : TypeId} {s : Nat} {w w' : World} {g c n k : Nat} {xs : List (List Value)} {x' y : List Value} (h : SetK e s w w' g c n k xs x') (hk : k < xs.length) (j : Nat) (hj : j < s) (v : Value) (hv : x'.set j v = y) : SetK e s w (w'.setCell ⟨g, k * s + j, none⟩ v) g c n k xs y := by
 obtain ⟨p1, p2, p3⟩ := own_setK h.ls h.ow (k := k) (j := j) (x := x') (by rw [List.getElem?_set_self hk]) hj v
 rw [List.set_set, hv] at p1 p2
 exact ⟨p1, p2, h.gr.trans p3⟩
theorem SetK.zero {α : Type} {E : Rep α} {e : TypeId} {s : Nat} {w : World} {L : List α} {g c n k : Nat} {xs : List (List Value)} {bss : List (List Nat)} {x : List Value} (h : SlU E e s w L g c n xs bss) (hx : xs[k]? = some x) : SetK e s w w g c n k xs x := by
 have hs : xs.set k x = xs := by
  apply List.ext_getElem?
  intro j
  by_cases e : j = k
  ·subst e; rw [List.getElem?_set_self (List.getElem?_eq_some_iff.1 hx).1, hx]
  ·rw [List.getElem?_set_ne (Ne.symm e)]
 exact ⟨by rw [hs]; exact h.ls, by rw [hs]; exact h.ow, World.grownBy.refl _ _⟩
theorem SlU.upd {α : Type} {E : Rep α} {e : TypeId} {s : Nat} {w w' : World} {L : List α} {g c n k : Nat} {xs : List (List Value)} {bss : List (List Nat)} {a' : α} {x' : List Value} {b' : List Nat} (h : SlU E e s w L g c n xs bss) (hk : k < n)
  (ow : w'.ownsRow 0 e s (.slice (some ⟨g, 0, none⟩) n c) n (xs.set k x').flatten) (ls : ∀ y ∈ xs.set k x', y.length = s) (hR : E.R w' a' x' b')
  (hn : ∀ (j : Nat) (d : List Nat), j ≠ k → bss[j]? = some d → ∀ b ∈ d, w'.heap[b]? = w.heap[b]?) : SlU E e s w' (L.set k a') g c n (xs.set k x') (bss.set k b') :=
 ⟨rowsR_upd h.rr k (by rw [← h.hn]; exact hk) hR hn, ls, ow, by rw [List.length_set]; exact h.hn⟩
theorem SlU.own {α : Type} {E : Rep α} {e : TypeId} {s : Nat} {B : Nat} {w : World} {L : List α} {g c n : Nat} {xs : List (List Value)} {bss : List (List Nat)} (h : SlU E e s w L g c n xs bss) (h1 : g ∉ bss.flatten) (h2 : bss.flatten.Nodup) (h3 : B ≤ g) (h4 : ∀ b ∈ bss.flatten, B ≤ b) : (repSl E e s).Own B w L [.slice (some ⟨g, 0, none⟩) n c] (g :: bss.flatten) :=
 ⟨h.rep, List.nodup_cons.2 ⟨h1, h2⟩, fun b hb => by rcases List.mem_cons.1 hb with rfl | hb; exact h3; exact h4 b hb⟩
theorem flat_mem {bss : List (List Nat)} {k : Nat} {d : List Nat} (h : bss[k]? = some d) {b : Nat} (hb : b ∈ d) : b ∈ bss.flatten := List.mem_flatten.2 ⟨d, List.mem_of_getElem? h, hb⟩
theorem set_same {bss : List (List Nat)} {k : Nat} {d : List Nat} (h : bss[k]? = some d) : bss.set k d = bss := by
 apply List.ext_getElem?
 intro j
 by_cases e : j = k
 ·subst e; rw [List.getElem?_set_self (List.getElem?_eq_some_iff.1 h).1, h]
 ·rw [List.getElem?_set_ne (Ne.symm e)]
end Go.Proofs.YtokniebejilcbaaGreat
namespace Go.Proofs.YtokniebejilcbaaGreat
open Go.RowKit
theorem form_lEs {w : World} {v : Value} {L : List Ed} {bs : List Nat} (h : repEds.R w L [v] bs) : (∃ A c, v = .slice A L.length c) ∧ L.length ≤ maxLen := by
 rcases SlU.of_rep h with ⟨rfl, rfl, rfl⟩ | ⟨g, c, xs, bss, rfl, hU, rfl⟩
 ·exact ⟨⟨none, 0, rfl⟩, Nat.zero_le _⟩
 ·rcases hU.ow.2 with ⟨he, _⟩ | ⟨g', cap, cur, he, _, _, hn, hc, _⟩
  ·cases he
  ·exact ⟨⟨_, _, rfl⟩, by omega⟩
theorem at_lEs {w : World} {A : Option Addr} {n c k : Nat} {L : List Ed} {bs : List Nat} (h : repEds.R w L [.slice A n c] bs) (hk : k < L.length) : ∃ g f d b, A = some ⟨g, 0, none⟩ ∧ L[k]? = some f ∧ repEd.R w f (edCells f d) b ∧ ∀ j u, (edCells f d)[j]? = some u → w.cell? ⟨g, k * 7 + j, none⟩ = some u := by
 rcases SlU.of_rep h with ⟨_, rfl, _⟩ | ⟨g, c', xs, bss, he, hU, _⟩
 ·simp at hk
 ·injection he with e1 e2 e3
  subst e1
  obtain ⟨f, x, b, hf, hx, hb, hl, hR, hc⟩ := hU.at_ hk
  have hR2 := hR
  obtain ⟨d, rfl, _⟩ := hR2
  exact ⟨g, f, d, b, rfl, hf, hR, hc⟩
end Go.Proofs.YtokniebejilcbaaGreat
namespace Go.Proofs.YtokniebejilcbaaGreat
open Go.RowKit
theorem rows_one {w : World} : ∀ {L : List Sf} {xs : List (List Value)} {bss : List (List Nat)}, rowsR repSf w L xs bss → ∀ u ∈ xs.flatten, u.oneCell' = true
  | [], [], [], _, u, hu => by simp at hu
  | f :: L, x :: xs, b :: bss, h, u, hu => by
    rw [List.flatten_cons, List.mem_append] at hu
    rcases hu with hu | hu
    · obtain ⟨d, rfl, hd⟩ := h.1
      obtain ⟨⟨A, c, rfl⟩, _⟩ := ints_form hd
      simp only [sfCells, List.mem_cons, List.not_mem_nil, or_false] at hu
      rcases hu with rfl | rfl | rfl | rfl | rfl | rfl | rfl | rfl | rfl | rfl | rfl <;> rfl
    · exact rows_one h.2 u hu
theorem info2_sf : ∃ i0, Tryz.prog.info? 153 = some i0 ∧ i0.zero = some (.agg #[.int .i64 0, .int .i64 0, .int .i64 0, .int .i64 0, .int .i64 0, .int .i64 0, .int .i64 0, .bool false, .int .i64 0, .int .i64 0, .slice none 0 0]) ∧ i0.size = 11 ∧ i0.bytes ≤ 1000 := by
  have h : (Tryz.prog.info? 153).map (fun i => (i.zero, i.size, decide (i.bytes ≤ 1000))) = some (some (.agg #[.int .i64 0, .int .i64 0, .int .i64 0, .int .i64 0, .int .i64 0, .int .i64 0, .int .i64 0, .bool false, .int .i64 0, .int .i64 0, .slice none 0 0]), 11, true) := by kernel_rfl
  cases e : Tryz.prog.info? 153 with
  | none => rw [e] at h; simp at h
  | some i =>
    rw [e] at h
    simp only [Option.map_some, Option.some.injEq, Prod.mk.injEq, decide_eq_true_eq] at h
    exact ⟨i, rfl, h.1, h.2.1, h.2.2⟩
end Go.Proofs.YtokniebejilcbaaGreat
namespace Go.Proofs.YtokniebejilcbaaGreat
open Go.RowKit
def SnAns (s : Sn) (w : World) (e : Ending) (w' : World) : Prop := ∃ u bs, e = .returned (.agg #[.int .i64 s.w, .int .i64 s.h, .int .i64 s.back, u]) ∧ repSfs.Own w.heap.size w' s.fs [u] bs ∧ Below w.heap.size w w'
end Go.Proofs.YtokniebejilcbaaGreat
namespace Go.Proofs.YtokniebejilcbaaGreat
open Go.RowKit
def edNew (e : Ed) : Sf := ⟨e.id, e.a, e.b, 0, 0, 255, 0, true, e.bw, e.bh, e.data⟩
def edF (e : Ed) (f : Sf) : Sf :=
 if e.kind = 2 then { f with x := e.a, y := e.b } else if e.kind = 5 then { f with bw := e.bw, bh := e.bh, data := e.data } else if e.kind = 6 then { f with alpha := e.a } else if e.kind = 7 then { f with orient := e.a } else if e.kind = 8 then { f with w := e.a, h := e.b } else { f with vis := e.a == 1 }
def edL (e : Ed) (L : List Sf) (k : Nat) (f : Sf) : List Sf :=
 if e.kind = 0 then L ++ [edNew e] else if e.kind = 1 then L.eraseIdx k else if e.kind = 3 then L.eraseIdx k ++ [f] else if e.kind = 4 then f :: L.eraseIdx k else L.set k (edF e f)
def edS (s : Sn) (e : Ed) : Sn :=
 if e.kind = 10 then { s with back := e.a } else { s with fs := edL e s.fs (idxF s.fs e.id).toNat ((s.fs[(idxF s.fs e.id).toNat]?).getD sfZero) }
def edOk (s : Sn) (e : Ed) : Prop := (0 ≤ e.kind ∧ e.kind ≤ 10) ∧ (e.kind = 0 ∨ e.kind = 10 ∨ 0 ≤ idxF s.fs e.id)
open Classical in
noncomputable def doE (s : Sn) (e : Ed) : Sn × Bool := if snOk s ∧ edOk s e ∧ snOk (edS s e) then (edS s e, true) else (s, false)
theorem doE_yes {s : Sn} {e : Ed} (h : snOk s) (he : edOk s e) (h2 : snOk (edS s e)) : doE s e = (edS s e, true) := if_pos ⟨h, he, h2⟩
theorem doE_no {s : Sn} {e : Ed} (h : ¬ (snOk s ∧ edOk s e ∧ snOk (edS s e))) : doE s e = (s, false) := if_neg h
theorem doE_ok {s : Sn} (e : Ed) (h : snOk s) : snOk (doE s e).1 := by
 by_cases h2 : snOk s ∧ edOk s e ∧ snOk (edS s e)
 ·rw [doE_yes h2.1 h2.2.1 h2.2.2]; exact h2.2.2
 ·rw [doE_no h2]; exact h
theorem edS_size (s : Sn) (e : Ed) : (edS s e).w = s.w ∧ (edS s e).h = s.h := by unfold edS; split <;> exact ⟨rfl, rfl⟩
theorem doE_size (s : Sn) (e : Ed) : (doE s e).1.w = s.w ∧ (doE s e).1.h = s.h := by
 by_cases h2 : snOk s ∧ edOk s e ∧ snOk (edS s e)
 ·rw [doE_yes h2.1 h2.2.1 h2.2.2]; exact edS_size s e
 ·rw [doE_no h2]; exact ⟨rfl, rfl⟩
theorem sn_small {s : Sn} (h : snOk s) : s.fs.length ≤ 6 ∧ lenFs s.fs ≤ 1536 := by
  refine ⟨h.2.2.1, ?_⟩
  have hall : ∀ L : List Sf, (∀ f ∈ L, f.data.length ≤ 256) → lenFs L ≤ L.length * 256 := by
    intro L hL
    induction L with
    | nil => simp [lenFs]
    | cons f L ih =>
      have h1 := ih fun g hg => hL g (by simp [hg])
      have h2 := hL f (by simp)
      unfold lenFs at h1 ⊢
      simp only [List.map_cons, List.sum_cons, List.length_cons]
      omega
  have h1 := hall s.fs fun f hf => by
    obtain ⟨k, hk⟩ := List.getElem?_of_mem hf
    have hs := (h.2.2.2 k f hk).1
    have him := hs.2.2.2.2.2.2
    have hsz := sz_mul him.1
    have hlen := him.2.1
    omega
  have h2 := h.2.2.1
  omega
theorem sn_siz {s : Sn} (h : snOk s) : sizFs s.fs ≤ 2097152 ∧ cntFs s.fs ≤ 100000000 := by
 have := sn_small h; unfold sizFs cntFs; omega
theorem idx_get {L : List Sf} {i : Int} (h : 0 ≤ idxF L i) : ∃ (k : Nat) (f : Sf), idxF L i = (k : Int) ∧ k < L.length ∧ L[k]? = some f ∧ f.id = i := by
 rcases idxF_is (L := L) (i := i) with ⟨e, _⟩ | ⟨k, f, e, hf, hi, _⟩
 ·omega
 ·exact ⟨k, f, e, (List.getElem?_eq_some_iff.1 hf).1, hf, hi⟩
theorem edS_k {s : Sn} {e : Ed} {k : Nat} {f : Sf} (hk : idxF s.fs e.id = (k : Int)) (hf : s.fs[k]? = some f) (h10 : e.kind ≠ 10) : edS s e = { s with fs := edL e s.fs k f } := by
 unfold edS; rw [if_neg h10, hk, Int.toNat_natCast, hf]; rfl
theorem edS_add {s : Sn} {e : Ed} (h : e.kind = 0) : edS s e = { s with fs := s.fs ++ [edNew e] } := by
 unfold edS edL; rw [if_neg (by omega), if_pos h]
theorem edS_back {s : Sn} {e : Ed} (h : e.kind = 10) : edS s e = { s with back := e.a } := by unfold edS; rw [if_pos h]
noncomputable def doEs : Sn → List Ed → Sn × Nat
 | s, [] => (s, 0)
 | s, e :: L => ((doEs (doE s e).1 L).1, (if (doE s e).2 then 1 else 0) + (doEs (doE s e).1 L).2)
theorem doEs_ok {s : Sn} (L : List Ed) (h : snOk s) : snOk (doEs s L).1 := by
 induction L generalizing s with
 | nil => exact h
 | cons e L ih => exact ih (doE_ok e h)
theorem doEs_size (s : Sn) (L : List Ed) : (doEs s L).1.w = s.w ∧ (doEs s L).1.h = s.h := by
 induction L generalizing s with
 | nil => exact ⟨rfl, rfl⟩
 | cons e L ih => have h1 := ih (doE s e).1; have h2 := doE_size s e; exact ⟨h1.1.trans h2.1, h1.2.trans h2.2⟩
theorem doEs_snoc (s : Sn) (L : List Ed) (e : Ed) : doEs s (L ++ [e]) = ((doE (doEs s L).1 e).1, (doEs s L).2 + (if (doE (doEs s L).1 e).2 then 1 else 0)) := by
 induction L generalizing s with
 | nil => rcases h : (doE s e).2 with _ | _ <;> simp [doEs, h]
 | cons a L ih => rcases h : (doE (doEs (doE s a).1 L).1 e).2 with _ | _ <;> simp [doEs, ih, h, Nat.add_assoc]
theorem doE_siz {s : Sn} (e : Ed) (h : sizFs s.fs ≤ 1048576) : sizFs (doE s e).1.fs ≤ 1048576 ∧ cntFs (doE s e).1.fs ≤ 100000000 := by
 by_cases h2 : snOk s ∧ edOk s e ∧ snOk (edS s e)
 ·rw [doE_yes h2.1 h2.2.1 h2.2.2]; have := sn_small h2.2.2; show sizFs (edS s e).fs ≤ _ ∧ cntFs (edS s e).fs ≤ _; unfold sizFs cntFs; omega
 ·rw [doE_no h2]; have := cnt_le_siz s.fs; exact ⟨h, by show cntFs s.fs ≤ _; omega⟩
end Go.Proofs.YtokniebejilcbaaGreat
namespace Go.Proofs.YtokniebejilcbaaGreat
open Go.RowKit
theorem below_grown0 {w w' : World} (h : w.grownBy w' none) : Below w.heap.size w w' := ⟨h.os, h.tape, h.output, h.size, fun k hk => h.block k hk (by simp)⟩
end Go.Proofs.YtokniebejilcbaaGreat
namespace Go.Proofs.YtokniebejilcbaaGreat
open Go.RowKit
theorem info2_rc : ∃ i0, Tryz.prog.info? 111 = some i0 ∧ i0.zero = some (.agg #[.int .i64 0, .int .i64 0, .int .i64 0, .int .i64 0]) ∧ i0.size = 4 ∧ i0.bytes = 32 := by
 obtain ⟨i0, hi, h0, h1, h2⟩ := info_parts infoRect
 exact ⟨i0, hi, h0, h1, h2⟩
end Go.Proofs.YtokniebejilcbaaGreat
namespace Go.Proofs.YtokniebejilcbaaGreat
open Go.RowKit
def RgQ (Q : List Rc) (w : World) (e : Ending) (w' : World) : Prop := ∃ v, e = .returned (.agg #[v]) ∧ w'.ownsRow w.heap.size 111 4 v Q.length (rcsCells Q) ∧ Below w.heap.size w w'
end Go.Proofs.YtokniebejilcbaaGreat
namespace Go.Proofs.YtokniebejilcbaaGreat
open Go.RowKit
theorem ly_flat {W H : Nat} {p : Int} : (flatN (W : Int) (H : Int) p).length = W * H := by
 unfold flatN
 rw [tabI_length, ← Int.natCast_mul, Int.toNat_natCast]
end Go.Proofs.YtokniebejilcbaaGreat
namespace Go.Proofs.YtokniebejilcbaaGreat
open Go.RowKit
def sfR (v : Value) : Option (DataW Value × List MemPlace) := some (.held v, [])
theorem keyI : Maps.Keyed Tryz.prog 3 := Maps.int_keyed Tryz.underlying3
structure DmD (w : World) (D : DataW Value) (L : List Sf) : Prop where
 keys : ∀ kl, Maps.has D kl = true → ∃ f ∈ L, kl = .int .i64 f.id
 at_ : ∀ f ∈ L, Maps.has D (.int .i64 f.id) = true ∧ ∃ d, RdI w d f.data ∧ ∀ z, D.atKey (.int .i64 f.id) z = .held (.agg #[.int .i64 f.id, .int .i64 f.x, .int .i64 f.y, .int .i64 f.w, .int .i64 f.h, .int .i64 f.alpha, .int .i64 f.orient, .bool f.vis, .int .i64 f.bw, .int .i64 f.bh, d])
theorem lit_ne {i j : Int} (h : ¬ i = j) : (Lit.int .i64 i) ≠ .int .i64 j := fun e => h (by injection e)
theorem DmD.made (w : World) : DmD w (.map []) [] := ⟨fun kl h => by simp [Maps.has] at h, fun f h => by cases h⟩
theorem DmD.put {w : World} {D : DataW Value} {L : List Sf} (h : DmD w D L) (hm : Maps.IsMap D) {f : Sf} {d : Value} (hn : ∀ g ∈ L, ¬ g.id = f.id) (hd : RdI w d f.data) :
  DmD w (D.put (.int .i64 f.id) (.held (.agg #[.int .i64 f.id, .int .i64 f.x, .int .i64 f.y, .int .i64 f.w, .int .i64 f.h, .int .i64 f.alpha, .int .i64 f.orient, .bool f.vis, .int .i64 f.bw, .int .i64 f.bh, d]))) (L ++ [f]) := by
 refine ⟨fun kl hk => ?_, fun g hg => ?_⟩
 ·by_cases e : kl = .int .i64 f.id
  ·exact ⟨f, List.mem_append.2 (.inr (List.mem_singleton.2 rfl)), e⟩
  ·rw [Maps.has_put_other e] at hk
   obtain ⟨g, hg, e2⟩ := h.keys kl hk
   exact ⟨g, List.mem_append.2 (.inl hg), e2⟩
 ·rcases List.mem_append.1 hg with hg | hg
  ·have e := lit_ne (hn g hg)
   rw [Maps.has_put_other e]
   obtain ⟨h1, d', h2, h3⟩ := h.at_ g hg
   exact ⟨h1, d', h2, fun z => by rw [Maps.atKey_put_other e]; exact h3 z⟩
  ·obtain rfl := List.mem_singleton.1 hg
   exact ⟨Maps.has_put_same hm (show WideAt.IsKeyLit (.int .i64 g.id) from trivial) _, d, hd, fun z => Maps.atKey_put_same hm (show WideAt.IsKeyLit (.int .i64 g.id) from trivial) _ _⟩
theorem DmD.del {w : World} {D : DataW Value} {L : List Sf} (h : DmD w D L) (i : Int) {M : List Sf} (hM : ∀ f, f ∈ M ↔ (f ∈ L ∧ ¬ f.id = i)) : DmD w (D.del (.int .i64 i)) M := by
 refine ⟨fun kl hk => ?_, fun g hg => ?_⟩
 ·by_cases e : kl = .int .i64 i
  ·rw [e, Maps.has_del_same] at hk; cases hk
  ·rw [Maps.has_del_other e] at hk
   obtain ⟨g, hg, rfl⟩ := h.keys kl hk
   exact ⟨g, (hM g).2 ⟨hg, fun h => e (by rw [h])⟩, rfl⟩
 ·obtain ⟨h1, h2⟩ := (hM g).1 hg
  have e := lit_ne h2
  rw [Maps.has_del_other e]
  obtain ⟨h3, d', h4, h5⟩ := h.at_ g h1
  exact ⟨h3, d', h4, fun z => by rw [Maps.atKey_del_other e]; exact h5 z⟩
theorem wf_id {f : Sf} (h : sfOk f) : (Lit.int .i64 f.id).wf = true := by have := h.1; exact WalkArith.wf_i64 ⟨by omega, by omega⟩
theorem sfR_held {v : Value} {D : DataW Value} {ps : List MemPlace} (h : sfR v = some (D, ps)) : D = .held v := by
 unfold sfR at h; injection h with h; injection h with h _; exact h.symm
theorem zeroSf (w : World) : (zeroValue 153).run Tryz.prog w = .ok (.agg #[.int .i64 0, .int .i64 0, .int .i64 0, .int .i64 0, .int .i64 0, .int .i64 0, .int .i64 0, .bool false, .int .i64 0, .int .i64 0, .slice none 0 0]) w := by kernel_rfl
theorem look_hit {V w : World} {b n : Nat} {D : DataW Value} {L : List Sf} (hown : V.ownsMap Tryz.prog 3 sfR b n D) (hD : DmD w D L) {f : Sf} (hf : f ∈ L) (hs : sfOk f) :
  ∃ d, RdI w d f.data ∧ (Instr.lookup 171 (.map (some b)) (.int .i64 f.id) false).run Tryz.prog V = .ok (.agg #[.int .i64 f.id, .int .i64 f.x, .int .i64 f.y, .int .i64 f.w, .int .i64 f.h, .int .i64 f.alpha, .int .i64 f.orient, .bool f.vis, .int .i64 f.bw, .int .i64 f.bh, d]) V := by
 obtain ⟨_, d, hd, hat⟩ := hD.at_ f hf
 obtain ⟨v, ps, hrun, hv⟩ := hown.lookup keyI Tryz.underlying171 (zeroSf V) (zd := .held _) (zp := []) rfl (Maps.keyOf_int_mk Tryz.underlying3 (wf_id hs))
 rw [hat] at hv
 have e := sfR_held hv
 injection e with e
 subst e
 exact ⟨d, hd, hrun⟩
theorem look_miss {V w : World} {b n : Nat} {D : DataW Value} {L : List Sf} (hown : V.ownsMap Tryz.prog 3 sfR b n D) (hD : DmD w D L) {f : Sf} (hf : ∀ g ∈ L, ¬ g.id = f.id) (hs : sfOk f) :
  (Instr.lookup 171 (.map (some b)) (.int .i64 f.id) false).run Tryz.prog V = .ok (.agg #[.int .i64 0, .int .i64 0, .int .i64 0, .int .i64 0, .int .i64 0, .int .i64 0, .int .i64 0, .bool false, .int .i64 0, .int .i64 0, .slice none 0 0]) V := by
 have hh : Maps.has D (.int .i64 f.id) = false := by
  rcases e : Maps.has D (.int .i64 f.id) with _ | _
  ·rfl
  ·obtain ⟨g, hg, e2⟩ := hD.keys _ e
   injection e2 with _ e3
   exact absurd e3.symm (hf g hg)
 obtain ⟨v, ps, hrun, hv⟩ := hown.lookup keyI Tryz.underlying171 (zeroSf V) (zd := .held _) (zp := []) rfl (Maps.keyOf_int_mk Tryz.underlying3 (wf_id hs))
 rw [Maps.atKey_of_not_has hh] at hv
 have e := sfR_held hv
 have e := DataW.held.inj e
 subst e
 exact hrun
set_option maxRecDepth 10000 in
theorem wpList_next_sf {ops : Array Oper} {rest : List Oper} {o : Oper} {a : Act} {w : World} {Q : Exit → Act → World → Prop} (hg : o.guard = none) (it : Operand) (hop : o.op = Op.next it false) (b r n : Nat) (D : DataW Value) (left : Lit → Bool) (cnt : Nat)
  (hit : a.eval it = .pointer (some ⟨r, 0, none⟩)) (h : w.ranges Tryz.prog 3 sfR b r n D left cnt) {w0 : World} {L : List Sf} (hD : DmD w0 D L)
  (hDone : (∀ kl, left kl = false) → wpList Tryz.prog ops Q rest (a.put o.dst (.tuple #[.bool false])) w)
  (hMore : ∀ (f : Sf) (d : Value) (w' : World) (cnt' : Nat), f ∈ L → left (.int .i64 f.id) = true → RdI w0 d f.data → w'.ranges Tryz.prog 3 sfR b r n D (fun z => left z && !z.sameKey (.int .i64 f.id)) cnt' → cnt' < cnt → w.grownBy w' (some r) → w'.heap.size = w.heap.size →
   (Instr.entry (.pointer (some ⟨r, 0, none⟩))).run Tryz.prog w' = .ok (.tuple #[.int .i64 f.id, .agg #[.int .i64 f.id, .int .i64 f.x, .int .i64 f.y, .int .i64 f.w, .int .i64 f.h, .int .i64 f.alpha, .int .i64 f.orient, .bool f.vis, .int .i64 f.bw, .int .i64 f.bh, d]]) w' →
   wpList Tryz.prog ops Q rest (a.put o.dst (.tuple #[.bool true, .int .i64 f.id, .agg #[.int .i64 f.id, .int .i64 f.x, .int .i64 f.y, .int .i64 f.w, .int .i64 f.h, .int .i64 f.alpha, .int .i64 f.orient, .bool f.vis, .int .i64 f.bw, .int .i64 f.bh, d]])) w') :
  wpList Tryz.prog ops Q (o :: rest) a w := by
 refine wpList_next_ranges w hg it hop 3 keyI sfR (fun v : Value => v) (fun v : Value => v) (fun key _ _ => ⟨key, rfl⟩) (fun v _ _ => ⟨v, rfl⟩) b r n D left cnt hit h (fun _ => hDone) fun x c kl y w' cnt' hkey hl hv hat hrg hlt hgr hs hen => ?_
 obtain ⟨f, hf, rfl⟩ := hD.keys kl (Maps.has_true_of_atKey hat)
 obtain ⟨x', ex, e2, _⟩ := Maps.keyOf_int_inv Tryz.underlying3 hkey
 injection e2 with _ e3
 subst ex e3
 obtain ⟨_, d, hd, hat2⟩ := hD.at_ f hf
 obtain ⟨y1, y2⟩ := y
 have e := sfR_held hv
 have e4 := hat (.held c)
 rw [hat2] at e4
 dsimp only at e4
 rw [e] at e4
 injection e4 with e4
 subst e4
 exact hMore f d w' cnt' hf hl hd hrg hlt hgr hs hen
end Go.Proofs.YtokniebejilcbaaGreat
namespace Go.Proofs.YtokniebejilcbaaGreat
open Go.RowKit
noncomputable def ssB (f g : Sf) : Bool := @decide (f = g) (Classical.propDecidable _)
theorem ssB_yes (f : Sf) : ssB f f = true := by unfold ssB; simp
theorem ssB_no {f g : Sf} (h : ¬ f = g) : ssB f g = false := by unfold ssB; simp only [decide_eq_false_iff_not]; exact h
theorem ssB_im {i x y w h a o : Int} {v : Bool} {p q p2 q2 : Int} {L M : List Int} : sameM p q L p2 q2 M = ssB ⟨i, x, y, w, h, a, o, v, p, q, L⟩ ⟨i, x, y, w, h, a, o, v, p2, q2, M⟩ := by
 by_cases e : p = p2 ∧ q = q2 ∧ L = M
 ·obtain ⟨rfl, rfl, rfl⟩ := e
  rw [sameM_yes, ssB_yes]
 ·rw [sameM_no e, ssB_no (fun h => e (by injection h with _ _ _ _ _ _ _ _ h1 h2 h3; exact ⟨h1, h2, h3⟩))]
def SsAns (f g : Sf) (w : World) (e : Ending) (w' : World) : Prop := e = .returned (.bool (ssB f g)) ∧ Below w.heap.size w w'
set_option maxHeartbeats 1000000 in
theorem ssI (f g : Sf) (d u : Value) (w : World) (hv : RdI w d f.data) (hu : RdI w u g.data) :
  Calls Tryz.prog 144 #[.agg #[.int .i64 f.id, .int .i64 f.x, .int .i64 f.y, .int .i64 f.w, .int .i64 f.h, .int .i64 f.alpha, .int .i64 f.orient, .bool f.vis, .int .i64 f.bw, .int .i64 f.bh, d], .agg #[.int .i64 g.id, .int .i64 g.x, .int .i64 g.y, .int .i64 g.w, .int .i64 g.h, .int .i64 g.alpha, .int .i64 g.orient, .bool g.vis, .int .i64 g.bw, .int .i64 g.bh, u]] w (SsAns f g w) := by
 obtain ⟨A, c, rfl⟩ := hv.form
 obtain ⟨B, m, rfl⟩ := hu.form
 obtain ⟨fid, fx, fy, fw, fh, falpha, forient, fvis, fbw, fbh, fdata⟩ := f
 obtain ⟨gid, gx, gy, gw, gh, galpha, gorient, gvis, gbw, gbh, gdata⟩ := g
 dsimp only at hv hu ⊢
 obtain ⟨nf, hnf⟩ : ∃ n, n = fdata.length := ⟨_, rfl⟩
 obtain ⟨ng, hng⟩ : ∃ n, n = gdata.length := ⟨_, rfl⟩
 rw [← hnf] at hv ⊢
 rw [← hng] at hu ⊢
 clear hnf hng
 have hB := belI_box w (.cells #[.int .i64 fid, .int .i64 fx, .int .i64 fy, .int .i64 fw, .int .i64 fh, .int .i64 falpha, .int .i64 forient, .bool fvis, .int .i64 fbw, .int .i64 fbh, .slice A nf c] 153)
 have hB2 := belI_box (w.alloc (.cells #[.int .i64 fid, .int .i64 fx, .int .i64 fy, .int .i64 fw, .int .i64 fh, .int .i64 falpha, .int .i64 forient, .bool fvis, .int .i64 fbw, .int .i64 fbh, .slice A nf c] 153)) (.cells #[.int .i64 gid, .int .i64 gx, .int .i64 gy, .int .i64 gw, .int .i64 gh, .int .i64 galpha, .int .i64 gorient, .bool gvis, .int .i64 gbw, .int .i64 gbh, .slice B ng m] 153)
 have hX := (BkAt.new w 153 #[.int .i64 fid, .int .i64 fx, .int .i64 fy, .int .i64 fw, .int .i64 fh, .int .i64 falpha, .int .i64 forient, .bool fvis, .int .i64 fbw, .int .i64 fbh, .slice A nf c]).call hB2
 have hY := BkAt.newAt (g := w.heap.size + 1) (show (w.alloc (.cells #[.int .i64 fid, .int .i64 fx, .int .i64 fy, .int .i64 fw, .int .i64 fh, .int .i64 falpha, .int .i64 forient, .bool fvis, .int .i64 fbw, .int .i64 fbh, .slice A nf c] 153)).heap.size = w.heap.size + 1 by simp) 153 #[.int .i64 gid, .int .i64 gx, .int .i64 gy, .int .i64 gw, .int .i64 gh, .int .i64 galpha, .int .i64 gorient, .bool gvis, .int .i64 gbw, .int .i64 gbh, .slice B ng m]
 have HC := sameII fbw fbh _ fdata gbw gbh _ gdata _ ((hv.call hB).call hB2) ((hu.call hB).call hB2)
 unfold SameMAns at HC
 unfold SsAns
 replace hB := belI_call hB hB2
 clear hB2 hv hu
 have x0 := hX.cell 0 rfl
 have x1 := hX.cell 1 rfl
 have x2 := hX.cell 2 rfl
 have x3 := hX.cell 3 rfl
 have x4 := hX.cell 4 rfl
 have x5 := hX.cell 5 rfl
 have x6 := hX.cell 6 rfl
 have x7 := hX.cell 7 rfl
 have x8 := hX.cell 8 rfl
 have x9 := hX.cell 9 rfl
 have x10 := hX.cell 10 rfl
 have y0 := hY.cell 0 rfl
 have y1 := hY.cell 1 rfl
 have y2 := hY.cell 2 rfl
 have y3 := hY.cell 3 rfl
 have y4 := hY.cell 4 rfl
 have y5 := hY.cell 5 rfl
 have y6 := hY.cell 6 rfl
 have y7 := hY.cell 7 rfl
 have y8 := hY.cell 8 rfl
 have y9 := hY.cell 9 rfl
 have y10 := hY.cell 10 rfl
 have HB := Lib.hid hB
 have HC := Lib.hid HC
 clear hX hY hB
 by_cases e : fid = gid
 rotate_left
 ·have Hn := Lib.hid (ssB_no (f := ⟨fid, fx, fy, fw, fh, falpha, forient, fvis, fbw, fbh, fdata⟩) (g := ⟨gid, gx, gy, gw, gh, galpha, gorient, gvis, gbw, gbh, gdata⟩) fun h => e (by injection h))
  have eb : (fid == gid) = false := by rw [beq_eq_false_iff_ne]; exact e
  go_enter Tryz.func144, Tryz.ntmps144
  go_wp2_with fail
  go_ret
  exact ⟨ret_bool Hn.out.symm, HB.out⟩
 subst e
 by_cases e : fx = gx
 rotate_left
 ·have Hn := Lib.hid (ssB_no (f := ⟨fid, fx, fy, fw, fh, falpha, forient, fvis, fbw, fbh, fdata⟩) (g := ⟨fid, gx, gy, gw, gh, galpha, gorient, gvis, gbw, gbh, gdata⟩) fun h => e (by injection h))
  have eb : (fx == gx) = false := by rw [beq_eq_false_iff_ne]; exact e
  go_enter Tryz.func144, Tryz.ntmps144
  go_wp2_with fail
  go_ret
  exact ⟨ret_bool Hn.out.symm, HB.out⟩
 subst e
 by_cases e : fy = gy
 rotate_left
 ·have Hn := Lib.hid (ssB_no (f := ⟨fid, fx, fy, fw, fh, falpha, forient, fvis, fbw, fbh, fdata⟩) (g := ⟨fid, fx, gy, gw, gh, galpha, gorient, gvis, gbw, gbh, gdata⟩) fun h => e (by injection h))
  have eb : (fy == gy) = false := by rw [beq_eq_false_iff_ne]; exact e
  go_enter Tryz.func144, Tryz.ntmps144
  go_wp2_with fail
  go_ret
  exact ⟨ret_bool Hn.out.symm, HB.out⟩
 subst e
 by_cases e : fw = gw
 rotate_left
 ·have Hn := Lib.hid (ssB_no (f := ⟨fid, fx, fy, fw, fh, falpha, forient, fvis, fbw, fbh, fdata⟩) (g := ⟨fid, fx, fy, gw, gh, galpha, gorient, gvis, gbw, gbh, gdata⟩) fun h => e (by injection h))
  have eb : (fw == gw) = false := by rw [beq_eq_false_iff_ne]; exact e
  go_enter Tryz.func144, Tryz.ntmps144
  go_wp2_with fail
  go_ret
  exact ⟨ret_bool Hn.out.symm, HB.out⟩
 subst e
 by_cases e : fh = gh
 rotate_left
 ·have Hn := Lib.hid (ssB_no (f := ⟨fid, fx, fy, fw, fh, falpha, forient, fvis, fbw, fbh, fdata⟩) (g := ⟨fid, fx, fy, fw, gh, galpha, gorient, gvis, gbw, gbh, gdata⟩) fun h => e (by injection h))
  have eb : (fh == gh) = false := by rw [beq_eq_false_iff_ne]; exact e
  go_enter Tryz.func144, Tryz.ntmps144
  go_wp2_with fail
  go_ret
  exact ⟨ret_bool Hn.out.symm, HB.out⟩
 subst e
 by_cases e : falpha = galpha
 rotate_left
 ·have Hn := Lib.hid (ssB_no (f := ⟨fid, fx, fy, fw, fh, falpha, forient, fvis, fbw, fbh, fdata⟩) (g := ⟨fid, fx, fy, fw, fh, galpha, gorient, gvis, gbw, gbh, gdata⟩) fun h => e (by injection h))
  have eb : (falpha == galpha) = false := by rw [beq_eq_false_iff_ne]; exact e
  go_enter Tryz.func144, Tryz.ntmps144
  go_wp2_with fail
  go_ret
  exact ⟨ret_bool Hn.out.symm, HB.out⟩
 subst e
 by_cases e : forient = gorient
 rotate_left
 ·have Hn := Lib.hid (ssB_no (f := ⟨fid, fx, fy, fw, fh, falpha, forient, fvis, fbw, fbh, fdata⟩) (g := ⟨fid, fx, fy, fw, fh, falpha, gorient, gvis, gbw, gbh, gdata⟩) fun h => e (by injection h))
  have eb : (forient == gorient) = false := by rw [beq_eq_false_iff_ne]; exact e
  go_enter Tryz.func144, Tryz.ntmps144
  go_wp2_with fail
  go_ret
  exact ⟨ret_bool Hn.out.symm, HB.out⟩
 subst e
 by_cases e : fvis = gvis
 rotate_left
 ·have Hn := Lib.hid (ssB_no (f := ⟨fid, fx, fy, fw, fh, falpha, forient, fvis, fbw, fbh, fdata⟩) (g := ⟨fid, fx, fy, fw, fh, falpha, forient, gvis, gbw, gbh, gdata⟩) fun h => e (by injection h))
  cases fvis <;> cases gvis
  ·exact absurd rfl e
  ·clear e
   go_enter Tryz.func144, Tryz.ntmps144
   go_wp2_with fail
   go_ret
   exact ⟨ret_bool Hn.out.symm, HB.out⟩
  ·clear e
   go_enter Tryz.func144, Tryz.ntmps144
   go_wp2_with fail
   go_ret
   exact ⟨ret_bool Hn.out.symm, HB.out⟩
  ·exact absurd rfl e
 subst e
 rw [ssB_im (i := fid) (x := fx) (y := fy) (w := fw) (h := fh) (a := falpha) (o := forient) (v := fvis)] at HC
 go_enter Tryz.func144, Tryz.ntmps144
 go_wp2_with fail
 refine HC.out.mono ?_
 rintro e w1 ⟨rfl, hb⟩
 go_wp2_with fail
 go_ret
 exact ⟨rfl, belI_call HB.out hb⟩
end Go.Proofs.YtokniebejilcbaaGreat
