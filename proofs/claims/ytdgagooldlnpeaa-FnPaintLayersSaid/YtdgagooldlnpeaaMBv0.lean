/- Texts of mine in one file: ImC, ImN, ImM, ImD, ImE, CpyB, CpyJ, FilB, FilS, CrpB, DfsM, Law, Lk, SnM, SlU, SlC, SnC, EdM, OrdB, OrdS, OrdI, OrdA, SclB, SclI, SclL, CmI, OcH, LyR. No statement is proved here. -/
import Derived.Test.YtdgagooldlnpeaaMAv0
import Derived.Test.YtdgagooldlnpeaaMA
import Derived.Test.YtdgagooldlnpeaaMB
import Derived.Test.YtdgagooldlnpeaaProg
import Derived.WalkKit
import Derived.ProofKit
import Derived.OpenShut
import Derived.WalkLawsBesides
import Derived.WalkSpells
import Derived.ShutString
import Derived.ChangeOld
import Derived.Below
import Derived.Lib.Hide
import Derived.BigQuiet
import Derived.Deep.QuietTactic
import Derived.Maps.AppendAt
import Derived.Deep.OwnRows
import Derived.Handy
import Derived.Deep.Draws
import Derived.OwnWalk
import Derived.Deep.AppendLies
import Derived.Deep.LoopGhost
import Derived.Deep.Onto
import Derived.Test.YtdgagooldlnpeaaShelf
import Derived.Laws.CopyOwn
import Derived.Deep.RegionLaw
import Derived.Deep.RegionHeld3
import Derived.Deep.DeepCutAuto
import Derived.Great.BuildSlice
import Derived.Laws.BitsAllLaws
import Derived.Lib.QuoteBits
import Derived.Deep.MidRow
import Derived.Deep.WholeRow
import Derived.Laws.AppendOwn
import Derived.Shelf.RegionOpenPlain
import Derived.Lib.SliceRun
import Derived.ChangeKeysEq
import Derived.Deep.RegionWith
namespace Go.Proofs.Ytdgagooldlnpeaa
open Go.RowKit
theorem splice_get {α : Type} (L C : List α) (off k : Nat) (h : off + C.length ≤ L.length) : (splice L off C)[k]? = if off ≤ k ∧ k < off + C.length then C[k - off]? else L[k]? := by
 unfold splice
 by_cases h1 : k < off
 ·rw [if_neg (by omega), List.getElem?_append_left (by rw [List.length_take]; omega), List.getElem?_take_of_lt h1]
 ·have ht : (L.take off).length = off := by rw [List.length_take]; omega
  rw [List.getElem?_append_right (by omega), ht]
  by_cases h2 : k < off + C.length
  ·rw [if_pos ⟨by omega, h2⟩, List.getElem?_append_left (by omega)]
  ·rw [if_neg (by omega), List.getElem?_append_right (by omega), List.getElem?_drop]
   congr 1
   omega
theorem splice_tabI (n : Nat) (f : Nat → Int) (k m : Nat) (h : Nat → Int) (hk : k + m ≤ n) :
  splice (intCells (tabI n f)) k (intCells (tabI m h)) = intCells (tabI n (fun j => if k ≤ j ∧ j < k + m then h (j - k) else f j)) := by
 apply List.ext_getElem?
 intro j
 rw [splice_get _ _ _ _ (by rw [intCells_length, intCells_length, tabI_length, tabI_length]; exact hk), intCells_length, tabI_length, intCells_get, intCells_get, intCells_get]
 by_cases hj : j < n
 ·rw [tabI_get n f j hj, tabI_get n _ j hj]
  by_cases h1 : k ≤ j ∧ j < k + m
  ·rw [if_pos h1, if_pos h1, tabI_get m h (j - k) (by omega)]
  ·rw [if_neg h1, if_neg h1]
 ·rw [if_neg (by omega), List.getElem?_eq_none (by rw [tabI_length]; omega), List.getElem?_eq_none (by rw [tabI_length]; omega)]
theorem list_take_splice {α : Type} (cur cs : List α) (off n : Nat) (h : off + cs.length ≤ n) (hn : n ≤ cur.length) : (cur.take off ++ cs ++ cur.drop (off + cs.length)).take n = splice (cur.take n) off cs := by
 have e : cur.take off ++ cs ++ cur.drop (off + cs.length) = splice cur off cs := by unfold splice; rw [List.append_assoc]
 rw [e]
 apply List.ext_getElem?
 intro j
 by_cases hj : j < n
 ·rw [List.getElem?_take_of_lt hj, splice_get _ _ _ _ (by omega), splice_get _ _ _ _ (by rw [List.length_take]; omega), List.getElem?_take_of_lt hj]
 ·rw [List.getElem?_eq_none (by rw [List.length_take]; omega), List.getElem?_eq_none (by rw [length_splice _ _ _ (by rw [List.length_take]; omega), List.length_take]; omega)]
theorem run_copy_own {P : Program} (w : World) (dT sT ty elem : TypeId) (base : Nat) (g off n cap dLen dCap : Nat) (ad : Addr) (sLen sCap : Nat) (xs cs : List Value) (m : Nat) (hcm : cs.length = m)
  (hu : P.underlying dT = some (.slice elem)) (hs : (P.info? elem).map (·.size) = some 1)
  (hown : w.ownsRow base elem 1 (.slice (some ⟨g, 0, none⟩) n cap) n xs) (hn : m = Nat.min sLen dLen)
  (hsrc : ∀ j v, cs[j]? = some v → w.cell? (ad.add j) = some v) (hfit : off + m ≤ n) (h1 : ∀ v ∈ cs, v.oneCell' = true) :
  ∃ w', (Builtin.copy_ #[dT, sT] ty #[.slice (some ⟨g, off, none⟩) dLen dCap, .slice (some ad) sLen sCap]).run P w = .ok (goInt m) w' ∧
   w'.ownsRow base elem 1 (.slice (some ⟨g, 0, none⟩) n cap) n (splice xs off cs) ∧ w.grownBy w' (some g) := by
 subst hcm
 obtain ⟨hl, h⟩ := hown
 rcases h with ⟨h, _⟩ | ⟨g', cap', cur, he, hB, hh, hnc, hcm, hcs, ht⟩
 ·cases h
 ·cases he
  refine ⟨_, run_copy_row (P := P) w dT sT ty elem g off dLen dCap ad sLen sCap cur elem cs hu hs hh hn hsrc (by rw [hcs]; omega) h1, ?_, ?_⟩
  ·have hcl : cur.toList.length = cap := by rw [Array.length_toList]; omega
   refine ⟨by rw [length_splice _ _ _ (by rw [hl]; omega)]; exact hl, .inr ⟨g, cap, _, rfl, hB, setRow_heap w g cur _ _ _ hh, hnc, hcm, ?_, ?_⟩⟩
   ·simp; omega
   ·rw [← ht]
    show List.take (n * 1) _ = splice (List.take (n * 1) cur.toList) off cs
    rw [Nat.mul_one]
    exact list_take_splice _ _ _ _ hfit (by omega)
  ·exact ⟨rfl, rfl, rfl, by simp [World.setRow], fun k _ hk => setRow_other w g k _ (fun e => hk (by rw [e]))⟩
theorem step_copy_mine {P : Program} {ops : Array Oper} {o : Oper} {a : Act} {w : World} {K : Act → World → Prop} {Q : Exit → Act → World → Prop} {E : Prop} (hgd : o.guard = none) (d s : Operand) (dT sT : TypeId)
  (ho : o.op = .call { callee := .builtin .copy, args := #[d, s], argTypes := #[dT, sT] }) (elem : TypeId) (hu : P.underlying dT = some (.slice elem)) (hsz : (P.info? elem).map (·.size) = some 1)
  (base g off n cap dLen dCap : Nat) (ad : Addr) (sLen sCap : Nat) (xs cs : List Value) (m : Nat) (hcm : cs.length = m) (hd : a.eval d = .slice (some ⟨g, off, none⟩) dLen dCap) (hs : a.eval s = .slice (some ad) sLen sCap)
  (hown : w.ownsRow base elem 1 (.slice (some ⟨g, 0, none⟩) n cap) n xs) (hn : m = Nat.min sLen dLen)
  (hsrc : ∀ j v, cs[j]? = some v → w.cell? (ad.add j) = some v) (hfit : off + m ≤ n) (h1 : ∀ v ∈ cs, v.oneCell' = true)
  (h : ∀ w', Hid (w'.ownsRow base elem 1 (.slice (some ⟨g, 0, none⟩) n cap) n (splice xs off cs)) → Hid (w.grownBy w' (some g)) → K (a.put o.dst (goInt m)) w') :
  if Region.wanted o (yielded ops a.tmps) = true then Oper.wp P o a w K Q else E := by
 have hw : Region.wanted o (yielded ops a.tmps) = true := by simp [Region.wanted, hgd]
 rw [if_pos hw]
 obtain ⟨w', hrun, h2, h3⟩ := run_copy_own (P := P) w dT sT o.type elem base g off n cap dLen dCap ad sLen sCap xs cs m hcm hu hsz hown hn hsrc hfit h1
 unfold Oper.wp
 simp [execOp, ho, resolve, invoke, builtin, hd, hs, hrun, Result.andThen]
 exact h w' h2 h3
theorem wrap_in (x : Int) (h0 : -9223372036854775808 ≤ x) (h1 : x ≤ 9223372036854775807) : IntKind.i64.wrap x = x := by
 simp [IntKind.wrap, IntKind.bits, IntKind.signed]; omega
theorem cell_new1 (w : World) (v : Value) (t : TypeId) : (w.alloc (.cells #[v] t)).cell? ⟨w.heap.size, 0, none⟩ = some v := by
 rw [cell_of_row _ _ _ _ _ _ (heap_alloc_new w _)]; rfl
theorem cell_newAt {w : World} {g : Nat} (h : w.heap.size = g) (v : Value) (t : TypeId) : (w.alloc (.cells #[v] t)).cell? ⟨g, 0, none⟩ = some v := h ▸ cell_new1 w v t
theorem szInt : (Try.prog.info? 3).map (·.size) = some 1 := by kernel_rfl
theorem mul_one' (n : Nat) (h : n ≤ 256) (w : World) :
  Calls Try.prog 161 #[.int .u64 1, .int .u64 n] w fun e w' => e = .returned (.tuple #[.int .u64 0, .int .u64 n]) ∧ w' = w := by
 have h1 := Try.bits_Mul 1 n (by omega) (by omega) w
 rw [Nat.one_mul, Nat.div_eq_of_lt (by omega), Nat.mod_eq_of_lt (by omega)] at h1
 exact h1
def fillF (p : Int) (k : Nat) : Nat → Int := fun j => if j < k then p else 0
theorem fillF_more (p : Int) (n k m : Nat) (hk : k + m ≤ n) : splice (intCells (tabI n (fillF p k))) k (intCells (tabI m (fun _ => p))) = intCells (tabI n (fillF p (k + m))) := by
 rw [splice_tabI n _ k m _ hk]
 congr 1
 refine tabI_congr n fun j _ => ?_
 unfold fillF
 by_cases h1 : k ≤ j ∧ j < k + m
 ·rw [if_pos h1, if_pos h1.2]
 ·rw [if_neg h1]
  by_cases h2 : j < k
  ·rw [if_pos h2, if_pos (by omega)]
  ·rw [if_neg h2, if_neg (by omega)]
theorem fillF_own {w : World} {B g n cap k m : Nat} {p : Int} (h : w.ownsRow B 3 1 (.slice (some ⟨g, 0, none⟩) n cap) n (intCells (tabI n (fillF p k)))) (hm : m ≤ k) (hk : m ≤ n) :
  ∀ j v, (intCells (tabI m (fun _ => p)))[j]? = some v → w.cell? ((⟨g, 0, none⟩ : Addr).add j) = some v := by
 intro j v hv
 rw [intCells_get] at hv
 obtain ⟨x, hx, rfl⟩ := Option.map_eq_some_iff.1 hv
 have hj : j < m := by have := (List.getElem?_eq_some_iff.1 hx).1; rwa [tabI_length] at this
 rw [tabI_get m _ j hj] at hx
 injection hx with hx
 subst hx
 refine h.cells (g := g) rfl j _ ?_
 rw [intCells_get, tabI_get n _ j (by omega)]
 unfold fillF
 rw [if_pos (by omega)]
 rfl
def RepAns (n : Nat) (p : Int) (w : World) (e : Ending) (w' : World) : Prop :=
 ∃ v, e = .returned v ∧ w'.ownsRow w.heap.size 3 1 v n (intCells (tabI n (fun _ => p))) ∧ Below w.heap.size w w'
set_option maxHeartbeats 600000 in
set_option maxRecDepth 10000 in
theorem repI (p : Int) (n : Nat) (h1 : 1 ≤ n) (h2 : n ≤ 256) (g : Nat) (w : World) (hc : w.cell? ⟨g, 0, none⟩ = some (.int .i64 p)) :
  Calls Try.prog 132 #[.slice (some ⟨g, 0, none⟩) 1 1, .int .i64 n] w (RepAns n p w) := by
 have hgl := World.block_lt_of_cell? w _ hc
 have hmk := fun W => run_make_row' (P := Try.prog) 39 3 (.int .i64 0) 8 Try.underlying39 infoInt rfl .i64 .i64 n (by omega) (by omega) W
 have n0 : (1 : Int) ≤ (n : Int) := by omega
 have n1 : (n : Int) ≤ 256 := by omega
 have hx0 : tabI 1 (fun _ => p) = [p] := rfl
 go_enter Try.func132, Try.ntmps132
 go_wp2_with fail
 refine (mul_one' n h2 _).mono ?_
 rintro e w' ⟨rfl, rfl⟩
 go_wp2_with fail
 have hown0 : (w'.alloc (.cells (madeCells #[.int .i64 0] n) 3)).ownsRow w'.heap.size 3 1 (.slice (some ⟨w'.heap.size, 0, none⟩) n n) n (intCells (tabI n (fillF p 0))) :=
  own_of_rowIs (World.rowIs_made _ _ _ _) (Nat.le_refl _) (by unfold maxLen; omega) (tabI_length _ _) (fun j x hx => by
   have hj : j < n := by have := (List.getElem?_eq_some_iff.1 hx).1; rwa [tabI_length] at this
   rw [tabI_get n _ j hj] at hx
   injection hx with hx
   rw [← hx]; rfl)
 obtain ⟨w2, hrun, hown2, hgr2⟩ := run_copy_own (P := Try.prog) _ 39 39 3 3 w'.heap.size w'.heap.size 0 n n n n ⟨g, 0, none⟩ 1 1 _ (intCells (tabI 1 (fun _ => p))) 1 (by rw [intCells_length, tabI_length]) Try.underlying39 szInt hown0
  (by show 1 = min 1 n; omega)
  (by
   intro j v hv
   rw [hx0] at hv
   have hj : j = 0 := by have := (List.getElem?_eq_some_iff.1 hv).1; simp [intCells] at this; exact this
   subst hj
   simp [intCells] at hv
   subst hv
   exact (World.cell?_of_block (Below.heap_alloc w' _ g hgl)).trans hc) (by omega) (intCells_one _)
 rw [fillF_more p n 0 1 (by omega)] at hown2
 have hb2 : Below w'.heap.size w' w2 := ((Below.refl _ _).alloc (Nat.le_refl _) _).grown hgr2 (by simp) (fun k hk => by injection hk with hk; omega)
 have Hown2 := Lib.hid hown2
 simp only [hrun, Result.andThen_ok]
 clear hrun hown0 hown2 hgr2 hmk hx0
 go_wp2_with fail
 go_loopw [8] (fun s wr => ∃ k : Nat, 1 ≤ k ∧ k ≤ n ∧ s = .int .i64 k ∧ Hid (wr.ownsRow w'.heap.size 3 1 (.slice (some ⟨w'.heap.size, 0, none⟩) n n) n (intCells (tabI n (fillF p k)))) ∧ Below w'.heap.size w' wr) (fun s _ => n - (intOf s).toNat)
 case atStart => exact ⟨1, Nat.le_refl _, h1, rfl, Hown2, hb2⟩
 case round =>
  clear hb2 Hown2 hc
  obtain ⟨k, hk1, hk2, rfl, Hown, hb⟩ := hrel
  by_cases hlt : k < n
  ·obtain ⟨m, hm⟩ : ∃ m, m = Nat.min k (n - k) := ⟨_, rfl⟩
   have hm2 : m = min k (n - k) := hm
   have hm3 : 1 ≤ m ∧ m ≤ k ∧ k + m ≤ n := by omega
   obtain ⟨m1, m2, m4⟩ := hm3
   have k0 : (0 : Int) ≤ (k : Int) := by omega
   have k1 : (k : Int) < (n : Int) := by omega
   have Hm := Lib.hid hm
   clear hm hm2
   go_wp2_with fail
   go_region_held3 (fun _ => True) (trivial) ((refine step_copy_mine rfl (.tmp 41) (.tmp 44) 39 39 (by rfl) 3 Try.underlying39 szInt w'.heap.size w'.heap.size k n n (n - k) (n - k) ⟨w'.heap.size, 0, none⟩ k n _ (intCells (tabI m (fun _ => p))) m (by rw [intCells_length, tabI_length]) (by simp [Act.eval]; omega) (by simp [Act.eval]) (by first | exact Hown.out | exact Hown.out.drew) Hm.out (by first | exact fillF_own Hown.out m2 (by omega) | exact fillF_own Hown.out.drew m2 (by omega)) m4 (intCells_one _) ?_; intro w3 hown3 hgr3))
   go_wp2_with fail
   have hb3 : Below w'.heap.size w' w3 := (show Below w'.heap.size w' wr.drew from hb.drew).grown hgr3.out (by have := hb.size; simpa using this) (fun k hk => by injection hk with hk; omega)
   have e : Value.int .i64 (IntKind.i64.wrap ((k : Int) + (m : Int))) = .int .i64 ((k + m : Nat) : Int) := by rw [wrap_in _ (by omega) (by omega)]; simp
   rw [e]
   refine ⟨⟨k + m, by omega, m4, rfl, ?_, hb3⟩, by simp [intOf]; omega⟩
   have h := hown3.out
   rw [fillF_more p n k m m4] at h
   exact h
  ·obtain rfl : k = n := by omega
   go_wp2_with fail
   go_ret
   refine ⟨_, rfl, ?_, hb⟩
   have h := Hown.out
   rw [tabI_congr k (g := fun _ => p) (fun j hj => by unfold fillF; rw [if_pos hj])] at h
   exact h
end Go.Proofs.Ytdgagooldlnpeaa
namespace Go.Proofs.Ytdgagooldlnpeaa
open Go.RowKit
structure Im where
 w : Int
 h : Int
 d : List Int
def zeroIm : Im := ⟨0, 0, []⟩
def flatN (W H p : Int) : List Int := tabI (W * H).toNat (fun _ => p)
open Classical in
noncomputable def newIm (W H p : Int) : Im := if szOk W H ∧ pixOk p then ⟨W, H, flatN W H p⟩ else zeroIm
theorem new_yes {W H p : Int} (h1 : szOk W H) (h2 : pixOk p) : newIm W H p = ⟨W, H, flatN W H p⟩ := if_pos ⟨h1, h2⟩
theorem new_no {W H p : Int} (h : ¬ (szOk W H ∧ pixOk p)) : newIm W H p = zeroIm := if_neg h
def AnsIm (I : Im) (w : World) (e : Ending) (w' : World) : Prop := ImAns I.w I.h I.d w e w'
theorem flat_size {W H : Int} (h : szOk W H) (p : Int) : ∃ n : Nat, 1 ≤ n ∧ n ≤ 256 ∧ (n : Int) = W * H ∧ flatN W H p = tabI n (fun _ => p) := by
 have h1 := sz_mul h
 have h2 := sz_pos h
 exact ⟨(W * H).toNat, by omega, by omega, by omega, rfl⟩
theorem zeroIm_ans {w w' : World} (hb : Below w.heap.size w w') : AnsIm zeroIm w (.returned (.agg #[.int .i64 0, .int .i64 0, .slice none 0 0])) w' :=
 ⟨_, rfl, World.ownsRow_nil _ _ _ _, hb⟩
set_option maxHeartbeats 600000 in
set_option maxRecDepth 10000 in
theorem newI (W H p : Int) (w : World) : Calls Try.prog 85 #[.int .i64 W, .int .i64 H, .int .i64 p] w (AnsIm (newIm W H p) w) := by
 have hR := ImAt.new w 46 0 0 (.slice none 0 0)
 have hw := (Below.refl w.heap.size w).alloc (Nat.le_refl _) (.cells #[.int .i64 0, .int .i64 0, .slice none 0 0] 46)
 by_cases hs : szOk W H
 ·by_cases hp : pixOk p
  ·obtain ⟨n, n1, n2, hn, hd⟩ := flat_size hs p
   have HA := Lib.hid (show newIm W H p = ⟨W, H, tabI n (fun _ => p)⟩ by rw [new_yes hs hp, hd])
   have Hs := Lib.hid hs
   have Hp := Lib.hid hp
   have hn' : W * H = (n : Int) := hn.symm
   have HR := Lib.hid hR
   have Hw := Lib.hid hw
   clear hs hp hd hn hR hw
   go_enter Try.func85, Try.ntmps85
   go_wp2_with (first | (go_at_call 80; (with_reducible refine (szI_yes _ _ Hs.out _).mono ?_); rintro e w' ⟨rfl, rfl⟩) | (go_at_call 131; (with_reducible refine (pixI_yes _ Hp.out _).mono ?_); rintro e w' ⟨rfl, rfl⟩))
   have hc : ((w.alloc (.cells #[.int .i64 0, .int .i64 0, .slice none 0 0] 46)).alloc (.cells #[.int .i64 p] 3)).cell? ⟨w.heap.size + 1, 0, none⟩ = some (.int .i64 p) := cell_newAt (by simp) _ _
   refine (repI p n n1 n2 (w.heap.size + 1) _ hc).mono ?_
   rintro e w2 ⟨v, rfl, hown, hb⟩
   have hI := (HR.out.alloc _).call hb
   have hz := hb.size
   obtain ⟨A, c, hv⟩ := ownI_shape hown
   subst hv
   obtain ⟨c0, c1, c2⟩ := hI.cells
   have f0 := hI.frozen 0
   have f1 := hI.frozen 1
   have f2 := hI.frozen 2
   have Hown := Lib.hid hown
   have Hb := Lib.hid (Hw.out.trans ((belI_call ((Below.refl _ _).alloc (Nat.le_refl _) _) hb).mono (by simp)))
   have HI := Lib.hid hI
   simp at hz
   clear hown hb hI hc
   go_wp2_with fail
   have j := HI.out.set3 W H (.slice A n c)
   obtain ⟨x0, x1, x2⟩ := j.cells
   refine bodyPost_ret (v := .agg #[.int .i64 W, .int .i64 H, .slice A n c]) (by simp [results, Try.results85, go_sem, x0, x1, x2]) rfl ?_
   rw [HA.out]
   refine ⟨_, rfl, ?_, ((Hb.out.setCell (by simp) _).setCell (by simp) _).setCell (by simp) _⟩
   have hlt := fun g hg => (Hown.out.lt g hg).1
   have h3 := ownI_far (ownI_far (ownI_far (Hown.out.mono (show w.heap.size ≤ _ by simp; omega)) (p := ⟨w.heap.size, 0, none⟩) (fun g hg => by have := hlt g hg; simp at this ⊢; omega) (.int .i64 W)) (p := ⟨w.heap.size, 1, none⟩) (fun g hg => by have := hlt g hg; simp at this ⊢; omega) (.int .i64 H)) (p := ⟨w.heap.size, 2, none⟩) (fun g hg => by have := hlt g hg; simp at this ⊢; omega) (.slice A n c)
   rw [tabI_length]
   exact h3
  ·have HA := Lib.hid (show newIm W H p = zeroIm from new_no fun h => hp h.2)
   have Hs := Lib.hid hs
   have Hp := Lib.hid hp
   obtain ⟨c0, c1, c2⟩ := hR.cells
   have f0 := hR.frozen 0
   have f1 := hR.frozen 1
   have f2 := hR.frozen 2
   clear hs hp
   go_enter Try.func85, Try.ntmps85
   go_wp2_with (first | (go_at_call 80; (with_reducible refine (szI_yes _ _ Hs.out _).mono ?_); rintro e w' ⟨rfl, rfl⟩) | (go_at_call 131; (with_reducible refine (pixI_no _ Hp.out _).mono ?_); rintro e w' ⟨rfl, rfl⟩))
   refine bodyPost_ret (v := .agg #[.int .i64 0, .int .i64 0, .slice none 0 0]) (by simp [results, Try.results85, go_sem]) rfl ?_
   rw [HA.out]
   exact zeroIm_ans (by repeat (first | exact hw | refine Below.setCell ?_ (by simp) _))
 ·have HA := Lib.hid (show newIm W H p = zeroIm from new_no fun h => hs h.1)
  have Hs := Lib.hid hs
  obtain ⟨c0, c1, c2⟩ := hR.cells
  have f0 := hR.frozen 0
  have f1 := hR.frozen 1
  have f2 := hR.frozen 2
  clear hs
  go_enter Try.func85, Try.ntmps85
  go_wp2_with (first | (go_at_call 80; (with_reducible refine (szI_no _ _ Hs.out _).mono ?_); rintro e w' ⟨rfl, rfl⟩))
  refine bodyPost_ret (v := .agg #[.int .i64 0, .int .i64 0, .slice none 0 0]) (by simp [results, Try.results85, go_sem]) rfl ?_
  rw [HA.out]
  exact zeroIm_ans (by repeat (first | exact hw | refine Below.setCell ?_ (by simp) _))
theorem tabI_snoc (k : Nat) (f : Nat → Int) : tabI (k + 1) f = tabI k f ++ [f k] := by simp [tabI, List.range_succ]
structure NiSt (w : World) (W H p : Int) (k : Nat) (v : Value) (wr : World) : Prop where
 rs : ImAt wr w.heap.size 46 0 0 (.slice none 0 0)
 im : ImAt wr (w.heap.size + 1) 46 W H v
 own : wr.ownsRow (w.heap.size + 2) 3 1 v k (intCells (tabI k (fun _ => p)))
 bw : Below w.heap.size w wr
theorem NiSt.next {w wr w2 : World} {W H p : Int} {k : Nat} {v v' : Value} {o : Obj} (h : NiSt w W H p k v wr)
  (hown : w2.ownsRow (w.heap.size + 2) 3 1 v' (k + 1) (intCells (tabI k (fun _ => p)) ++ [.int .i64 p])) (hgr : (wr.alloc o).grownBy w2 v.ownBlock) :
  NiSt w W H p (k + 1) v' (w2.setCell ⟨w.heap.size + 1, 2, none⟩ v') := by
 have hlow : ∀ b, b < w.heap.size + 2 → some b ≠ v.ownBlock := fun b hb e => by have := (h.own.lt b e.symm).1; omega
 refine ⟨(((h.rs.alloc o).grown hgr (hlow _ (by omega))).far (by simp) _), ((h.im.alloc o).grown hgr (hlow _ (by omega))).set2 v', ?_, ((h.bw.alloc h.bw.size o).grown hgr (by have := h.bw.size; simp; omega) (fun b hb => by have := (h.own.lt b hb).1; omega)).setCell (by simp) _⟩
 have h2 := ownI_far hown (p := ⟨w.heap.size + 1, 2, none⟩) (fun g hg => by have := (hown.lt g hg).1; simp; omega) v'
 rw [tabI_snoc, show intCells (tabI k (fun _ => p) ++ [p]) = intCells (tabI k (fun _ => p)) ++ [.int .i64 p] by simp [intCells]]
 exact h2
theorem NiSt.mid {w wr w2 : World} {W H p : Int} {k : Nat} {v : Value} {o : Obj} (h : NiSt w W H p k v wr) (hgr : (wr.alloc o).grownBy w2 v.ownBlock) :
  ImAt w2 (w.heap.size + 1) 46 W H v := (h.im.alloc o).grown hgr (fun e => by have := (h.own.lt _ e.symm).1; omega)
set_option maxHeartbeats 600000 in
set_option maxRecDepth 10000 in
theorem newS (W H p : Int) (w : World) : Calls Try.prog 157 #[.int .i64 W, .int .i64 H, .int .i64 p] w (AnsIm (newIm W H p) w) := by
 have hR := ImAt.new w 46 0 0 (.slice none 0 0)
 have hw := (Below.refl w.heap.size w).alloc (Nat.le_refl _) (.cells #[.int .i64 0, .int .i64 0, .slice none 0 0] 46)
 obtain ⟨i0, hi, hz0, hz1, hz2⟩ := info_parts infoInt
 by_cases hs : szOk W H
 ·have hs2 := hs
  obtain ⟨s1, s2, s3, s4⟩ := hs2
  by_cases hp : pixOk p
  ·obtain ⟨n, n1, n2, hn, hd⟩ := flat_size hs p
   have HA := Lib.hid (show newIm W H p = ⟨W, H, tabI n (fun _ => p)⟩ by rw [new_yes hs hp, hd])
   have Hp := Lib.hid hp
   have hn' : W * H = (n : Int) := hn.symm
   have hS0 : NiSt w W H p 0 (.slice none 0 0) ((w.alloc (.cells #[.int .i64 0, .int .i64 0, .slice none 0 0] 46)).alloc (.cells #[.int .i64 W, .int .i64 H, .slice none 0 0] 46)) :=
    ⟨hR.alloc _, ImAt.newAt (by simp) _ _ _ _, World.ownsRow_nil _ _ _ _, hw.alloc (by simp) _⟩
   clear hs hp hd hn hR hw
   go_enter Try.func157, Try.ntmps157
   go_wp2_with (first | (go_at_call 70; (with_reducible refine (inS_yes _ _ _ _ (by omega) (by omega)).mono ?_); rintro e w' ⟨rfl, rfl⟩) | (go_at_call 96; (with_reducible refine (pixS_yes _ Hp.out _).mono ?_); rintro e w' ⟨rfl, rfl⟩))
   go_loopw [8] (fun s wr => ∃ (k : Nat) (v : Value), k ≤ n ∧ s = .int .i64 k ∧ NiSt w W H p k v wr) (fun s _ => n - (intOf s).toNat)
   case atStart => exact ⟨0, _, Nat.zero_le _, rfl, hS0⟩
   case round =>
    clear hS0
    obtain ⟨k, v, hk, rfl, hS⟩ := hrel
    obtain ⟨A, c, hv⟩ := ownI_shape hS.own
    subst hv
    obtain ⟨c0, c1, c2⟩ := hS.im.cells
    by_cases hlt : k < n
    ·have k1 : (k : Int) < (n : Int) := by omega
     go_wp2_with (at_builtin; refine wpList_append_own _ rfl _ _ 39 rfl (w.heap.size + 2) 3 i0 (.int .i64 0) 1 8 Try.underlying39 hi hz0 hz1 hz2 rfl (by decide) _ _ _ rfl (hS.own.alloc _) ⟨_, 0, none⟩ 1 1 _ rfl rfl (World.news_of_block (cs := #[.int .i64 p]) (fr := (0, 0)) (heap_alloc_new _ _)) (by intro u hu; simp at hu; subst hu; rfl) (by unfold maxLen; omega) (by omega) (by have := hS.im.lt; simp; omega) ?_)
     intro v2 w2 hown2 hgrow _
     obtain ⟨gq, cq, hvq, _, _⟩ := hown2.form (by omega)
     subst hvq
     have hM := hS.mid hgrow
     obtain ⟨d0, d1, d2⟩ := hM.cells
     have f2 := hM.frozen 2
     have hS := hS.next hown2 hgrow
     clear hown2 hgrow c0 c1 c2 hM
     go_wp2_with fail
     go_roundw
     case rel => exact ⟨k + 1, _, by omega, by go_num, hS⟩
     case measure => simp [intOf]; omega
    ·obtain rfl : k = n := by omega
     obtain ⟨d0, d1, d2⟩ := hS.rs.cells
     have f0 := hS.rs.frozen 0
     have f1 := hS.rs.frozen 1
     have f2 := hS.rs.frozen 2
     go_wp2_with fail
     have j := hS.rs.set3 W H (.slice A k c)
     obtain ⟨x0, x1, x2⟩ := j.cells
     refine bodyPost_ret (v := .agg #[.int .i64 W, .int .i64 H, .slice A k c]) (by simp [results, Try.results157, go_sem, x0, x1, x2]) rfl ?_
     rw [HA.out]
     refine ⟨_, rfl, ?_, ((hS.bw.setCell (by simp) _).setCell (by simp) _).setCell (by simp) _⟩
     have hlt := fun g hg => (hS.own.lt g hg).1
     have h3 := ownI_far (ownI_far (ownI_far (hS.own.mono (show w.heap.size ≤ _ by omega)) (p := ⟨w.heap.size, 0, none⟩) (fun g hg => by have := hlt g hg; simp at this ⊢; omega) (.int .i64 W)) (p := ⟨w.heap.size, 1, none⟩) (fun g hg => by have := hlt g hg; simp at this ⊢; omega) (.int .i64 H)) (p := ⟨w.heap.size, 2, none⟩) (fun g hg => by have := hlt g hg; simp at this ⊢; omega) (.slice A k c)
     rw [tabI_length]
     exact h3
  ·have HA := Lib.hid (show newIm W H p = zeroIm from new_no fun h => hp h.2)
   have Hp := Lib.hid hp
   obtain ⟨c0, c1, c2⟩ := hR.cells
   have f0 := hR.frozen 0
   have f1 := hR.frozen 1
   have f2 := hR.frozen 2
   clear hs hp
   go_enter Try.func157, Try.ntmps157
   go_wp2_with (first | (go_at_call 70; (with_reducible refine (inS_yes _ _ _ _ (by omega) (by omega)).mono ?_); rintro e w' ⟨rfl, rfl⟩) | (go_at_call 96; (with_reducible refine (pixS_no _ Hp.out _).mono ?_); rintro e w' ⟨rfl, rfl⟩))
   refine bodyPost_ret (v := .agg #[.int .i64 0, .int .i64 0, .slice none 0 0]) (by simp [results, Try.results157, go_sem]) rfl ?_
   rw [HA.out]
   exact zeroIm_ans (by repeat (first | exact hw | refine Below.setCell ?_ (by simp) _))
 ·have HA := Lib.hid (show newIm W H p = zeroIm from new_no fun h => hs h.1)
  obtain ⟨c0, c1, c2⟩ := hR.cells
  have f0 := hR.frozen 0
  have f1 := hR.frozen 1
  have f2 := hR.frozen 2
  unfold szOk at hs
  by_cases h1 : 1 ≤ W ∧ W ≤ 16
  ·obtain ⟨h1, h2⟩ := h1
   have h7 : H < 1 ∨ 16 < H := by omega
   have H7 := Lib.hid h7
   clear h7 hs
   go_enter Try.func157, Try.ntmps157
   go_wp2_with (first | (go_at_call 70; (with_reducible refine (inS_yes _ _ _ _ (by omega) (by omega)).mono ?_); rintro e w' ⟨rfl, rfl⟩) | (go_at_call 70; (with_reducible refine (inS_no _ _ _ _ H7.out).mono ?_); rintro e w' ⟨rfl, rfl⟩))
   refine bodyPost_ret (v := .agg #[.int .i64 0, .int .i64 0, .slice none 0 0]) (by simp [results, Try.results157, go_sem]) rfl ?_
   rw [HA.out]
   exact zeroIm_ans (by repeat (first | exact hw | refine Below.setCell ?_ (by simp) _))
  ·have h7 : W < 1 ∨ 16 < W := by omega
   have H7 := Lib.hid h7
   clear h7 hs h1
   go_enter Try.func157, Try.ntmps157
   go_wp2_with (first | (go_at_call 70; (with_reducible refine (inS_no _ _ _ _ H7.out).mono ?_); rintro e w' ⟨rfl, rfl⟩))
   refine bodyPost_ret (v := .agg #[.int .i64 0, .int .i64 0, .slice none 0 0]) (by simp [results, Try.results157, go_sem]) rfl ?_
   rw [HA.out]
   exact zeroIm_ans (by repeat (first | exact hw | refine Below.setCell ?_ (by simp) _))
end Go.Proofs.Ytdgagooldlnpeaa
namespace Go.Proofs.Ytdgagooldlnpeaa
open Go.RowKit
theorem plc_div {W x : Nat} (y : Nat) (hx : x < W) : (y * W + x) / W = y := by
 rw [Nat.mul_comm, Nat.mul_add_div (by omega), Nat.div_eq_of_lt hx, Nat.add_zero]
theorem plc_mod {W x : Nat} (y : Nat) (hx : x < W) : (y * W + x) % W = x := by
 rw [Nat.mul_comm, Nat.mul_add_mod, Nat.mod_eq_of_lt hx]
theorem plc_eq (k W : Nat) : k / W * W + k % W = k := by rw [Nat.mul_comm]; exact Nat.div_add_mod k W
theorem plc_lt {W H x y : Nat} (hx : x < W) (hy : y < H) : y * W + x < W * H := by
 have h1 : (y + 1) * W ≤ H * W := Nat.mul_le_mul_right _ hy
 rw [Nat.add_mul, Nat.one_mul, Nat.mul_comm H W] at h1
 omega
theorem plc_row {W H k : Nat} (h : k < W * H) : k / W < H := Nat.div_lt_of_lt_mul h
theorem plc_iff {W x : Nat} (y k : Nat) (hx : x < W) : k = y * W + x ↔ k / W = y ∧ k % W = x := by
 constructor
 ·rintro rfl; exact ⟨plc_div y hx, plc_mod y hx⟩
 ·rintro ⟨rfl, rfl⟩; exact (plc_eq k W).symm
theorem plc_pos {W H k : Nat} (h : k < W * H) : 0 < W := by
 rcases Nat.eq_zero_or_pos W with rfl | h0
 ·simp at h
 ·exact h0
theorem im_nat {X Y : Int} {L : List Int} (h : imOk X Y L) : ∃ W H : Nat, X = W ∧ Y = H ∧ 1 ≤ W ∧ W ≤ 16 ∧ 1 ≤ H ∧ H ≤ 16 ∧ L.length = W * H := by
 obtain ⟨⟨s1, s2, s3, s4⟩, hl, _⟩ := h
 obtain ⟨W, rfl⟩ := Int.eq_ofNat_of_zero_le (show 0 ≤ X by omega)
 obtain ⟨H, rfl⟩ := Int.eq_ofNat_of_zero_le (show 0 ≤ Y by omega)
 exact ⟨W, H, rfl, rfl, by omega, by omega, by omega, by omega, by exact_mod_cast hl⟩
theorem mul_256 {W H : Nat} (h1 : W ≤ 16) (h2 : H ≤ 16) : W * H ≤ 256 := Nat.mul_le_mul h1 h2
def copyF (W W2 H2 : Nat) (L F : List Int) (g : Nat → Bool) : Nat → Int := fun k =>
 if k % W < W2 ∧ k / W < H2 ∧ g (k / W * 16 + k % W) = true then F.getD (k / W * W2 + k % W) 0 else L.getD k 0
open Classical in
noncomputable def copyIm (X Y : Int) (L : List Int) (X2 Y2 : Int) (F : List Int) (R : List Rc) : Im :=
 if imOk X Y L ∧ imOk X2 Y2 F ∧ okL R = true then ⟨X, Y, tabI L.length (copyF X.toNat X2.toNat Y2.toNat L F (gridOf R))⟩ else ⟨X, Y, L⟩
theorem copy_yes {X Y X2 Y2 : Int} {L F : List Int} {R : List Rc} (h1 : imOk X Y L) (h2 : imOk X2 Y2 F) (h3 : okL R = true) :
  copyIm X Y L X2 Y2 F R = ⟨X, Y, tabI L.length (copyF X.toNat X2.toNat Y2.toNat L F (gridOf R))⟩ := if_pos ⟨h1, h2, h3⟩
theorem copy_no {X Y X2 Y2 : Int} {L F : List Int} {R : List Rc} (h : ¬ (imOk X Y L ∧ imOk X2 Y2 F ∧ okL R = true)) : copyIm X Y L X2 Y2 F R = ⟨X, Y, L⟩ := if_neg h
theorem gridOf_one (r : Rc) (k : Nat) : gridOf [r] k = hasB r (k % 16 : Nat) (k / 16 : Nat) := by
 rw [Bool.eq_iff_iff, gridOf_iff]
 unfold hasB
 rw [decide_eq_true_iff]
 constructor
 ·rintro ⟨s, hs, h⟩
  obtain rfl := List.mem_singleton.1 hs
  exact h
 ·intro h
  exact ⟨r, List.mem_singleton.2 rfl, h⟩
end Go.Proofs.Ytdgagooldlnpeaa
namespace Go.Proofs.Ytdgagooldlnpeaa
open Go.RowKit
theorem size26 : (Try.prog.info? 46).map (·.size) = some 3 := by kernel_rfl
theorem wp_store_im {op : Oper} {a : Act} {w : World} {K : Act → World → Prop} {Q : Exit → Act → World → Prop} (t : TypeId) (hsz : (Try.prog.info? t).map (·.size) = some 3) (x y : Operand) (ho : op.op = .store t x y)
  (b : Nat) (X0 Y0 : Int) (v0 : Value) (X Y : Int) (A : Option Addr) (n c : Nat) (hx : a.eval x = .pointer (some ⟨b, 0, none⟩)) (hy : a.eval y = .agg #[.int .i64 X, .int .i64 Y, .slice A n c]) (hI : ImAt w b t X0 Y0 v0)
  (h : ∀ W', ImAt W' b t X Y (.slice A n c) → w.grownBy W' (some b) → K (a.put op.dst undef) W') : op.wp Try.prog a w K Q := by
 have hs : (storeVar t ⟨b, 0, none⟩ (.agg #[.int .i64 X, .int .i64 Y, .slice A n c])).run Try.prog w = .ok () (w.setRow b #[.int .i64 X, .int .i64 Y, .slice A n c]) :=
  run_storeVar_row w b _ _ #[.int .i64 X0, .int .i64 Y0, v0] #[.int .i64 X, .int .i64 Y, .slice A n c] hI hsz rfl (by simp [Value.oneCell'])
 have h1 := h (w.setRow b #[.int .i64 X, .int .i64 Y, .slice A n c]) (setRow_heap w b _ _ t _ hI) ⟨rfl, rfl, rfl, by simp [World.setRow], fun k _ hk => setRow_other w b k _ (fun e => hk (by rw [e]))⟩
 unfold Oper.wp execOp
 simp only [ho, hx, hy, Instr.storeAt, Instr.sureAddr, Sem.run_bind, Sem.run_pure, Result.andThen_ok, hs]
 exact h1
theorem run_build0I (w : World) : (Instr.buildSlice 39 0 #[]).run Try.prog w = .ok (.slice (some ⟨w.heap.size, 0, none⟩) 0 0) (w.alloc (.cells #[] 3)) := by
 kernel_rfl
theorem wp_build0I {op : Oper} {a : Act} {w : World} {K : Act → World → Prop} {Q : Exit → Act → World → Prop} (d : Nat) (ho : op.op = .buildSlice 39 0 #[]) (hd : op.dst = some d)
  (h : ∀ v W', Below w.heap.size w W' → W'.ownsRow w.heap.size 3 1 v 0 [] → K (a.put (some d) v) W') : op.wp Try.prog a w K Q := by
 have h1 := h (.slice (some ⟨w.heap.size, 0, none⟩) 0 0) (w.alloc (.cells #[] 3)) (belI_box _ _)
  ⟨rfl, .inr ⟨w.heap.size, 0, #[], rfl, Nat.le_refl _, heap_alloc_new w _, Nat.le_refl _, by unfold maxLen; omega, rfl, rfl⟩⟩
 have hz := run_build0I w
 unfold Oper.wp execOp
 simp only [ho, List.map_toArray, List.map_nil, Sem.run_bind, hz, Result.andThen_ok, Sem.run_pure]
 rw [← hd] at h1
 exact h1
theorem run_append_noneI {P : Program} (w : World) (base : Nat) (t ty e : TypeId) (i : TypeInfo) (size : Nat) (ht : P.underlying t = some (.slice e)) (hi : P.info? e = some i)
  (v : Value) (n : Nat) (xs : List Value) (hown : w.ownsRow base e size v n xs) :
  (Builtin.append_ #[t, t] ty #[v, .slice none 0 0]).run P w = .ok v w := by
 rcases hown.2 with ⟨rfl, rfl⟩ | ⟨g, cap, cur, rfl, _, _, hn, _, _, _⟩
 ·simp [Builtin.append_, run_underlying ht, sizeOf, typeInfo, hi, Builtin.lenOf, Builtin.firstCells]
 ·simp [Builtin.append_, run_underlying ht, sizeOf, typeInfo, hi, Builtin.lenOf, Builtin.firstCells, loadCells, storeCells, hn]
theorem wp_appendI {o : Oper} {a : Act} {w : World} {K : Act → World → Prop} {Q : Exit → Act → World → Prop} (s x : Operand)
  (ho : o.op = .call { callee := .builtin .append, args := #[s, x], argTypes := #[39, 39] })
  (base : Nat) (v : Value) (n : Nat) (xs : List Value) (hs : a.eval s = v) (hown : w.ownsRow base 3 1 v n xs)
  (u : Value) (L : List Int) (hx : a.eval x = u) (hu : RdI w u L) (h63 : n + L.length ≤ 17592186044416) (hbase : base ≤ w.heap.size)
  (h : ∀ v' w', w'.ownsRow base 3 1 v' (n + L.length) (xs ++ intCells L) → w.grownBy w' v.ownBlock → (v'.ownBlock = v.ownBlock ∨ v'.ownBlock = some w.heap.size) → K (a.put o.dst v') w') : o.wp Try.prog a w K Q := by
 obtain ⟨i0, hi, hz0, hz1, hz2⟩ := info_parts infoInt
 rcases hu with ⟨rfl, rfl⟩ | ⟨g, c, rfl, hm, hlc, hc⟩
 ·have hr := run_append_noneI w base 39 o.type 3 i0 1 Try.underlying39 hi v n xs hown
  unfold Oper.wp execOp
  simp only [ho, resolve, invoke, builtin, Sem.run_bind, Sem.run_pure, Result.andThen_ok, List.map_toArray, List.map_cons, List.map_nil, hs, hx, hr]
  exact h v w (by simpa [intCells] using hown) ⟨rfl, rfl, rfl, Nat.le_refl _, fun _ _ _ => rfl⟩ (.inl rfl)
 ·obtain ⟨v', w', hr, h2, h3, _, h5⟩ := run_append_own_at (P := Try.prog) w base 39 o.type 3 i0 (.int .i64 0) 1 8 Try.underlying39 hi hz0 hz1 hz2 rfl (by decide) v n xs hown ⟨g, 0, none⟩ L.length c (intCells L) (by rw [intCells_length, Nat.mul_one])
   (fun j w' hj => by
    rw [intCells_get] at hj
    obtain ⟨y, hy, rfl⟩ := Option.map_eq_some_iff.1 hj
    rw [addr_add]
    exact hc j y hy) (intCells_one _) (by unfold maxLen; omega) (by omega) hbase
  unfold Oper.wp execOp
  simp only [ho, resolve, invoke, builtin, Sem.run_bind, Sem.run_pure, Result.andThen_ok, List.map_toArray, List.map_cons, List.map_nil, hs, hx, hr]
  exact h v' w' h2 h3 h5
end Go.Proofs.Ytdgagooldlnpeaa
namespace Go.Proofs.Ytdgagooldlnpeaa
open Go.RowKit
theorem ownI_ne {v : Value} {b : Nat} (h : ∀ g, v.ownBlock = some g → g ≠ b) : v.ownBlock = none ∨ v.ownBlock ≠ some b := by
 by_cases hv : v.ownBlock = none
 ·exact .inl hv
 ·exact .inr fun e => h b e rfl
theorem l05_end {w W : World} {X Y : Int} {A : Option Addr} {c B : Nat} {L : List Int} (h : W.ownsRow B 3 1 (.slice A (0 + L.length) c) (0 + L.length) ([] ++ intCells L)) (hB : w.heap.size ≤ B) (K : Below w.heap.size w W) :
  ImAns X Y L w (.returned (.agg #[.int .i64 X, .int .i64 Y, .slice A (0 + L.length) c])) W := by
 rw [Nat.zero_add, List.nil_append] at h
 rw [Nat.zero_add]
 exact ⟨_, rfl, h.mono hB, K⟩
set_option maxHeartbeats 600000 in
set_option maxRecDepth 10000 in
theorem l05Copy_any (X Y : Int) (v : Value) (L : List Int) (w : World) (hm : L.length ≤ 2097152) (hv : RdI w v L) :
  Calls Try.prog 71 #[.agg #[.int .i64 X, .int .i64 Y, v]] w (ImAns X Y L w) := by
 obtain ⟨A, c, rfl⟩ := hv.form
 have Hm := Lib.hid hm
 obtain ⟨w0, hw0⟩ : ∃ w0, w0 = w.alloc (.cells #[.int .i64 X, .int .i64 Y, .slice A L.length c] 46) := ⟨_, rfl⟩
 have hz : w0.heap.size = w.heap.size + 1 := by rw [hw0]; simp
 have hb0 : Below w.heap.size w w0 := by rw [hw0]; exact belI_box _ _
 have hv2 : RdI w0 (.slice A L.length c) L := by rw [hw0]; exact hv.alloc _
 have hC : ImAt w0 w.heap.size 46 X Y (.slice A L.length c) := by rw [hw0]; exact ImAt.new _ _ _ _ _
 have hR : ImAt (w0.alloc (.cells #[.int .i64 0, .int .i64 0, .slice none 0 0] 46)).drew (w.heap.size + 1) 46 0 0 (.slice none 0 0) := ImAt.newAt hz _ _ _ _
 have hst : Below w0.heap.size w0 (w0.alloc (.cells #[.int .i64 0, .int .i64 0, .slice none 0 0] 46)).drew := (belI_box _ _).drew
 rw [hw0] at hst hR
 clear hm hv
 go_enter Try.func71, Try.ntmps71
 go_upto_region 1 with fail
 rw [← hw0] at *
 refine wp_region_held_drew (S := fun W => Below w0.heap.size w0 W) (by kernel_rfl) hst (fun hS => ?_)
 refine tcH (i := 0) (v := .pointer (some ⟨w.heap.size, 0, none⟩)) rfl (by intro w' hSw; (try dsimp only at hSw); (obtain ⟨c0, c1, c2⟩ := (hC.call hSw).cells); go_simp) ?_
 refine tcH (i := 1) (v := .int .i64 X) rfl (by intro w' hSw; (try dsimp only at hSw); (obtain ⟨c0, c1, c2⟩ := (hC.call hSw).cells); go_simp) ?_
 refine tcH (i := 2) (v := .pointer (some ⟨w.heap.size, 1, none⟩)) rfl (by intro w' hSw; (try dsimp only at hSw); (obtain ⟨c0, c1, c2⟩ := (hC.call hSw).cells); go_simp) ?_
 refine tcH (i := 3) (v := .int .i64 Y) rfl (by intro w' hSw; (try dsimp only at hSw); (obtain ⟨c0, c1, c2⟩ := (hC.call hSw).cells); go_simp) ?_
 refine tcH (i := 5) (v := .pointer (some ⟨w.heap.size, 2, none⟩)) rfl (by intro w' hSw; (try dsimp only at hSw); (obtain ⟨c0, c1, c2⟩ := (hC.call hSw).cells); go_simp) ?_
 refine tcH (i := 6) (v := .slice A L.length c) rfl (by intro w' hSw; (try dsimp only at hSw); (obtain ⟨c0, c1, c2⟩ := (hC.call hSw).cells); go_simp) ?_
 (try simp only [Act.put]); (try simp only [zPa]); (try simp only [zPb, zPc])
 refine wpAnyH_ready (rs := [4]) (by kernel_rfl) (by simp) ?_
 refine (AllReadyH.cons rfl (fun K hK => ?_) AllReadyH.nil)
 ·rw [if_pos (by kernel_rfl)]
  (try simp only [zGa]); (try simp only [zGb]); (try simp only [zGc])
  have hRl := hR.lt
  refine wp_build0I 7 rfl rfl ?_
  intro v0 W' hb own0
  have hR := hR.call hb
  refine hK.out _ _ (belI_call hS hb) (fun hS => ?_)
  clear hK
  (try simp only [Act.put]); (try simp only [zPa]); (try simp only [zPb, zPc])
  refine wpAnyH_ready (rs := [7]) (by kernel_rfl) (by simp) ?_
  refine (AllReadyH.cons rfl (fun K hK => ?_) AllReadyH.nil)
  ·rw [if_pos (by kernel_rfl)]
   (try simp only [zGa]); (try simp only [zGb]); (try simp only [zGc])
   refine wp_appendI (.tmp 7) (.tmp 9) rfl _ v0 0 [] rfl own0 (.slice A L.length c) L rfl (hv2.call hS) (by have := Hm.out; omega) hb.size ?_
   intro v1 W2 hown hg hat
   obtain ⟨Au, cu, hu⟩ := ownI_shape hown
   subst hu
   have hR := hR.grown hg (fun e => by have := (own0.lt _ e.symm).1; omega)
   refine hK.out _ _ (hS.grown hg hS.size (fun k hk => by have := (own0.lt k hk).1; omega)) (fun hS => ?_)
   clear hK
   (try simp only [Act.put]); (try simp only [zPa]); (try simp only [zPb, zPc])
   refine tcH (i := 8) (v := .agg #[.int .i64 X, .int .i64 Y, .slice Au (0 + L.length) cu]) rfl (by intro w' hSw; (try dsimp only at hSw); (obtain ⟨c0, c1, c2⟩ := (hC.call hSw).cells); go_simp) ?_
   (try simp only [Act.put]); (try simp only [zPa]); (try simp only [zPb, zPc])
   refine wpAnyH_ready (rs := [9]) (by kernel_rfl) (by simp) ?_
   refine (AllReadyH.cons rfl (fun K hK => ?_) AllReadyH.nil)
   ·rw [if_pos (by kernel_rfl)]
    (try simp only [zGa]); (try simp only [zGb]); (try simp only [zGc])
    refine wp_store_im 46 size26 (.tmp 2) (.tmp 11) rfl (w.heap.size + 1) 0 0 (.slice none 0 0) X Y Au (0 + L.length) cu rfl rfl hR ?_
    intro W3 hI hg3
    skip
    refine hK.out _ _ (hS.grown hg3 hS.size (fun k hk => by injection hk with hk; omega)) (fun hS => ?_)
    clear hK
    (try simp only [Act.put]); (try simp only [zPa]); (try simp only [zPb, zPc])
    refine wpAnyH_done (by kernel_rfl) ?_ _
    have hlt := fun g hg => (hown.lt g hg).1
    have hown3 := hown.kept hg3 (ownI_ne (fun g hg => by have := hlt g hg; omega))
    have K := hb0.trans (hS.mono (by omega))
    obtain ⟨x0, x1, x2⟩ := hI.cells
    clear hR hC hv2 hS hb own0 hg hg3 hown hst
    go_wp2_with fail
    exact bodyPost_ret (v := .agg #[.int .i64 X, .int .i64 Y, .slice Au (0 + L.length) cu]) (by simp [results, Try.results71, go_sem, x0, x1, x2]) rfl (l05_end hown3 (by omega) K)
end Go.Proofs.Ytdgagooldlnpeaa
namespace Go.Proofs.Ytdgagooldlnpeaa
open Go.RowKit
theorem ans_set {w W : World} {lo b n : Nat} {X Y : Int} {A : Option Addr} {c : Nat} {L : List Int} (h : W.ownsRow lo 3 1 (.slice A n c) n (intCells L)) (hn : L.length = n) (hb1 : w.heap.size ≤ b) (hb2 : b < lo) (K : Below w.heap.size w W) :
  ImAns X Y L w (.returned (.agg #[.int .i64 X, .int .i64 Y, .slice A n c])) (((W.setCell ⟨b, 0, none⟩ (.int .i64 X)).setCell ⟨b, 1, none⟩ (.int .i64 Y)).setCell ⟨b, 2, none⟩ (.slice A n c)) := by
 subst hn
 have hlt := fun g hg => (h.lt g hg).1
 exact ⟨_, rfl, ownI_far (ownI_far (ownI_far (h.mono (by omega)) (fun g hg => by have := hlt g hg; dsimp only; omega) _) (fun g hg => by have := hlt g hg; dsimp only; omega) _) (fun g hg => by have := hlt g hg; dsimp only; omega) _, ((K.setCell hb1 _).setCell hb1 _).setCell hb1 _⟩
theorem grown_setI (w : World) (g o : Nat) (v : Value) : w.grownBy (w.setCell ⟨g, o, none⟩ v) (some g) :=
 ⟨rfl, rfl, rfl, by simp, fun k _ hk => Below.heap_setCell w ⟨g, o, none⟩ v k (fun e => hk (by rw [e]))⟩
theorem sizeRc : (Try.prog.info? 81).map (·.size) = some 4 := by kernel_rfl
theorem wp_store_rc {op : Oper} {a : Act} {w : World} {K : Act → World → Prop} {Q : Exit → Act → World → Prop} (x y : Operand) (ho : op.op = .store 81 x y)
  (b : Nat) (r0 r : Rc) (hx : a.eval x = .pointer (some ⟨b, 0, none⟩)) (hy : a.eval y = .agg #[.int .i64 r.x, .int .i64 r.y, .int .i64 r.w, .int .i64 r.h]) (hI : RcAt w b r0)
  (h : ∀ W', RcAt W' b r → w.grownBy W' (some b) → K (a.put op.dst undef) W') : op.wp Try.prog a w K Q := by
 have hs : (storeVar 81 ⟨b, 0, none⟩ (.agg #[.int .i64 r.x, .int .i64 r.y, .int .i64 r.w, .int .i64 r.h])).run Try.prog w = .ok () (w.setRow b #[.int .i64 r.x, .int .i64 r.y, .int .i64 r.w, .int .i64 r.h]) :=
  run_storeVar_row w b _ _ #[.int .i64 r0.x, .int .i64 r0.y, .int .i64 r0.w, .int .i64 r0.h] #[.int .i64 r.x, .int .i64 r.y, .int .i64 r.w, .int .i64 r.h] hI sizeRc rfl (by simp [Value.oneCell'])
 have h1 := h (w.setRow b #[.int .i64 r.x, .int .i64 r.y, .int .i64 r.w, .int .i64 r.h]) (setRow_heap w b _ _ _ _ hI) ⟨rfl, rfl, rfl, by simp [World.setRow], fun k _ hk => setRow_other w b k _ (fun e => hk (by rw [e]))⟩
 unfold Oper.wp execOp
 simp only [ho, hx, hy, Instr.storeAt, Instr.sureAddr, Sem.run_bind, Sem.run_pure, Result.andThen_ok, hs]
 exact h1
theorem RcAt.grownI {w w' : World} {g : Nat} {row : Option Nat} {r : Rc} (h : RcAt w g r) (hb : w.grownBy w' row) (hg : some g ≠ row) : RcAt w' g r := (hb.block g h.lt hg).trans h
theorem rd_block {w : World} {u : Value} {F : List Int} (h : RdI w u F) (h0 : 0 < F.length) : ∃ g c, u = .slice (some ⟨g, 0, none⟩) F.length c ∧ g < w.heap.size ∧ F.length ≤ c := by
 rcases h with ⟨_, rfl⟩ | ⟨g, c, rfl, hm, hlc, hc⟩
 ·simp at h0
 ·exact ⟨g, c, rfl, World.block_lt_of_cell? w _ (hc 0 _ (List.getElem?_eq_getElem h0)), hlc⟩
end Go.Proofs.Ytdgagooldlnpeaa
namespace Go.Proofs.Ytdgagooldlnpeaa
open Go.RowKit
theorem part_nat (r : Rc) (M2 M : Nat) (a1 : 1 ≤ M2) (a2 : M2 ≤ 16) (b1 : 1 ≤ M) (b2 : M ≤ 16) :
  ∃ X Y n h : Nat, isect r ⟨0, 0, M2, M⟩ = ⟨X, Y, n, h⟩ ∧ X + n ≤ M2 ∧ Y + h ≤ M ∧ (h = 0 ∨ 1 ≤ n) ∧ ∀ p q : Nat, ((X ≤ p ∧ p < X + n ∧ Y ≤ q ∧ q < Y + h) ↔ (hasB r p q = true ∧ p < M2 ∧ q < M)) := by
 have hf : (⟨0, 0, M2, M⟩ : Rc).ok := by unfold Rc.ok; dsimp only; omega
 by_cases ho : r.ok
 ·rcases isect_cases r _ ho hf with ⟨hi, e⟩ | ⟨hi, e⟩
  ·rw [e]
   unfold isectRaw
   unfold isectIn at hi
   dsimp only at hi ⊢
   obtain ⟨X, hX⟩ := Int.eq_ofNat_of_zero_le (show 0 ≤ max r.x 0 by omega)
   obtain ⟨Y, hY⟩ := Int.eq_ofNat_of_zero_le (show 0 ≤ max r.y 0 by omega)
   obtain ⟨n, hn⟩ := Int.eq_ofNat_of_zero_le (show 0 ≤ min (r.x + r.w) (0 + (M2 : Int)) - max r.x 0 by omega)
   obtain ⟨h, hh⟩ := Int.eq_ofNat_of_zero_le (show 0 ≤ min (r.y + r.h) (0 + (M : Int)) - max r.y 0 by omega)
   refine ⟨X, Y, n, h, by rw [hn, hh, hX, hY], by omega, by omega, by omega, fun p q => ?_⟩
   unfold hasB
   rw [decide_eq_true_iff]
   constructor
   ·intro k; exact ⟨⟨ho, by omega⟩, by omega, by omega⟩
   ·rintro ⟨⟨_, k⟩, k1, k2⟩; omega
  ·refine ⟨0, 0, 0, 0, e, by omega, by omega, .inl rfl, fun p q => ?_⟩
   unfold hasB
   rw [decide_eq_true_iff]
   unfold isectIn at hi
   dsimp only at hi
   constructor
   ·intro k; omega
   ·rintro ⟨⟨_, k⟩, k1, k2⟩; omega
 ·refine ⟨0, 0, 0, 0, isect_no fun h => ho h.1, by omega, by omega, .inl rfl, fun p q => ?_⟩
  unfold hasB
  rw [decide_eq_true_iff]
  constructor
  ·intro k; omega
  ·rintro ⟨⟨k, _⟩, _⟩; exact absurd k ho
end Go.Proofs.Ytdgagooldlnpeaa
namespace Go.Proofs.Ytdgagooldlnpeaa
open Go.RowKit
theorem okL_canon (g : Nat → Bool) : okL (canon g) = true := by
 unfold okL; rw [canon_idem]; exact sameL_yes rfl
noncomputable def fillIm (X Y : Int) (L : List Int) (r : Rc) (p : Int) : Im := copyIm X Y L (newIm X Y p).w (newIm X Y p).h (newIm X Y p).d (canon (gridOf [r]))
def rectF (W : Nat) (L : List Int) (r : Rc) (p : Int) : Nat → Int := fun k => if hasB r (k % W : Nat) (k / W : Nat) = true then p else L.getD k 0
theorem flat_ok {W H p : Int} (h : szOk W H) (hp : pixOk p) : imOk W H (flatN W H p) :=
 ⟨h, by unfold flatN; rw [tabI_length]; exact Int.toNat_of_nonneg (sz_mul h).1, fun k x hx => by obtain ⟨j, _, rfl⟩ := tabI_mem (List.mem_of_getElem? hx); exact hp⟩
theorem fill_val (W H : Nat) (L : List Int) (r : Rc) (p : Int) (h1 : imOk W H L) (hp : pixOk p) (hL : L.length = W * H) (wh : W ≤ 16) (hh : H ≤ 16) :
  fillIm W H L r p = ⟨W, H, tabI L.length (rectF W L r p)⟩ := by
 unfold fillIm
 rw [new_yes h1.1 hp]
 dsimp only
 rw [copy_yes h1 (flat_ok h1.1 hp) (okL_canon _)]
 congr 1
 refine tabI_congr _ fun k hk => ?_
 rw [hL] at hk
 have h2 := plc_row hk
 have h3 := Nat.mod_lt k (plc_pos hk)
 have h4 := plc_eq k W
 unfold copyF rectF
 simp only [Int.toNat_natCast]
 rw [gridOf_canon _ _ (by omega), gridOf_one, show (k / W * 16 + k % W) % 16 = k % W by omega, show (k / W * 16 + k % W) / 16 = k / W by omega]
 by_cases h : hasB r (k % W : Nat) (k / W : Nat) = true
 ·rw [if_pos h, if_pos ⟨h3, h2, h⟩, h4]
  unfold flatN
  exact tabI_getD _ _ _ (by rw [← Int.natCast_mul, Int.toNat_natCast]; exact hk)
 ·rw [if_neg h, if_neg fun h' => h h'.2.2]
theorem fill_no {X Y : Int} {L : List Int} {r : Rc} {p : Int} (h : ¬ (imOk X Y L ∧ r.ok ∧ pixOk p)) : fillIm X Y L r p = ⟨X, Y, L⟩ := by
 by_cases h1 : imOk X Y L
 ·by_cases hp : pixOk p
  ·obtain ⟨W, H, rfl, rfl, _, wh, _, hh, hL⟩ := im_nat h1
   rw [fill_val W H L r p h1 hp hL wh hh]
   congr 1
   exact (tabI_ext rfl fun k x hx => by
    unfold rectF
    rw [if_neg (by rw [has_no (fun h' => h ⟨h1, h'.1, hp⟩)]; simp), List.getD_eq_getElem?_getD, hx]; rfl).symm
  ·unfold fillIm
   rw [new_no fun h' => hp h'.2]
   exact copy_no fun h' => by have := h'.2.1.1; unfold szOk zeroIm at this; dsimp only at this; omega
 ·exact copy_no fun h' => h1 h'.1
def rectS (W : Nat) (p : Int) (f : Nat → Int) (X Y n y x : Nat) : Nat → Int := fun k =>
 if X ≤ k % W ∧ k % W < X + n ∧ Y ≤ k / W ∧ (k / W < y ∨ k / W = y ∧ k % W < x) then p else f k
theorem rectS_start (W : Nat) (p : Int) (f : Nat → Int) (X Y n k : Nat) : rectS W p f X Y n Y X k = f k := if_neg (by omega)
theorem rectS_row (W : Nat) (p : Int) (f : Nat → Int) (X Y n y k : Nat) : rectS W p f X Y n y (X + n) k = rectS W p f X Y n (y + 1) X k := by
 unfold rectS
 by_cases h : X ≤ k % W ∧ k % W < X + n ∧ Y ≤ k / W ∧ (k / W < y ∨ k / W = y ∧ k % W < X + n)
 ·rw [if_pos h, if_pos (by omega)]
 ·rw [if_neg h, if_neg (by omega)]
theorem rectS_set (W : Nat) (p : Int) (f : Nat → Int) (X Y n y x k : Nat) (hW : x < W) (hx : X ≤ x) (hx2 : x < X + n) (hy : Y ≤ y) :
  (if k = y * W + x then p else rectS W p f X Y n y x k) = rectS W p f X Y n y (x + 1) k := by
 by_cases e : k = y * W + x
 ·rw [if_pos e]
  obtain ⟨e1, e2⟩ := (plc_iff y k hW).1 e
  unfold rectS
  rw [e1, e2, if_pos ⟨hx, hx2, hy, by omega⟩]
 ·rw [if_neg e]
  have e' := mt (plc_iff y k hW).2 e
  unfold rectS
  by_cases h : X ≤ k % W ∧ k % W < X + n ∧ Y ≤ k / W ∧ (k / W < y ∨ k / W = y ∧ k % W < x)
  ·rw [if_pos h, if_pos (by omega)]
  ·rw [if_neg h, if_neg (by omega)]
theorem rectS_end (W H : Nat) (p : Int) (L : List Int) (r : Rc) (X Y n h k : Nat) (hk : k < W * H) (hI : ∀ p q : Nat, ((X ≤ p ∧ p < X + n ∧ Y ≤ q ∧ q < Y + h) ↔ (hasB r p q = true ∧ p < W ∧ q < H))) :
  rectS W p (fun k => L.getD k 0) X Y n (Y + h) X k = rectF W L r p k := by
 have h1 := plc_row hk
 have h2 := Nat.mod_lt k (plc_pos hk)
 have hi := hI (k % W) (k / W)
 unfold rectS rectF
 by_cases c : X ≤ k % W ∧ k % W < X + n ∧ Y ≤ k / W ∧ k / W < Y + h
 ·rw [if_pos (by omega), if_pos (hi.1 c).1]
 ·rw [if_neg (by omega), if_neg fun e => c (hi.2 ⟨e, h2, h1⟩)]
theorem run_build1 (r : Rc) (w : World) : (Instr.buildSlice 26 1 #[(0, .agg #[.int .i64 r.x, .int .i64 r.y, .int .i64 r.w, .int .i64 r.h])]).run Try.prog w = .ok (.slice (some ⟨w.heap.size, 0, none⟩) 1 1) (w.alloc (.cells #[.int .i64 r.x, .int .i64 r.y, .int .i64 r.w, .int .i64 r.h] 81)) := by
 kernel_rfl
theorem RdR.one {W : World} {g : Nat} {r : Rc} (h : RcAt W g r) : RdR W (.slice (some ⟨g, 0, none⟩) 1 1) [r] := by
 obtain ⟨h0, h1, h2, h3⟩ := h.cells
 refine ⟨by simp [maxLen], _, 1, rfl, fun _ => ⟨g, rfl, fun k s hs => ?_⟩⟩
 cases k with
 | zero => injection hs with hs; subst hs; exact ⟨h0, h1, h2, h3⟩
 | succ k => simp at hs
structure FlA (w : World) (X Y : Int) (v : Value) (r : Rc) (W : World) : Prop where
 a : ImAt W w.heap.size 46 X Y v
 b : RcAt W (w.heap.size + 1) r
 bw : Below w.heap.size w W
theorem FlA.call {w : World} {X Y : Int} {v : Value} {r : Rc} {W W' : World} (h : FlA w X Y v r W) (k : Below W.heap.size W W') : FlA w X Y v r W' :=
 ⟨h.a.call k, h.b.below k h.b.lt, belI_call h.bw k⟩
theorem FlA.grown {w : World} {X Y : Int} {v : Value} {r : Rc} {W W' : World} {g : Nat} (h : FlA w X Y v r W) (hg : W.grownBy W' (some g)) (hk : w.heap.size + 2 ≤ g) : FlA w X Y v r W' :=
 ⟨h.a.grown hg (by simp; omega), (hg.block _ h.b.lt (by simp; omega)).trans h.b, h.bw.grown hg h.bw.size (fun k hk => by injection hk with hk; omega)⟩
theorem FlA.born (w : World) (X Y : Int) (v : Value) (r : Rc) :
  FlA w X Y v r (((w.alloc (.cells #[.int .i64 X, .int .i64 Y, v] 46)).alloc (.cells #[.int .i64 r.x, .int .i64 r.y, .int .i64 r.w, .int .i64 r.h] 81)).alloc (.cells #[.int .i64 0, .int .i64 0, .slice none 0 0] 46)) :=
 ⟨((ImAt.new w _ _ _ _).alloc _).alloc _, (RcAt.newAt (w := w.alloc (.cells #[.int .i64 X, .int .i64 Y, v] 46)) (by simp) r).alloc _, belI_call (belI_call (belI_box _ _) (belI_box _ _)) (belI_box _ _)⟩
theorem fl_res (w : World) (X Y : Int) (v : Value) (r : Rc) :
  ImAt (((w.alloc (.cells #[.int .i64 X, .int .i64 Y, v] 46)).alloc (.cells #[.int .i64 r.x, .int .i64 r.y, .int .i64 r.w, .int .i64 r.h] 81)).alloc (.cells #[.int .i64 0, .int .i64 0, .slice none 0 0] 46)) (w.heap.size + 2) 46 0 0 (.slice none 0 0) :=
 ImAt.newAt (w := (w.alloc (.cells #[.int .i64 X, .int .i64 Y, v] 46)).alloc (.cells #[.int .i64 r.x, .int .i64 r.y, .int .i64 r.w, .int .i64 r.h] 81)) (by simp) _ _ _ _
end Go.Proofs.Ytdgagooldlnpeaa
namespace Go.Proofs.Ytdgagooldlnpeaa
open Go.RowKit
theorem partS (r : Rc) (M2 M : Nat) (a1 : 1 ≤ M2) (a2 : M2 ≤ 16) (b1 : 1 ≤ M) (b2 : M ≤ 16) (w : World) :
  Calls Try.prog 54 #[.agg #[.int .i64 r.x, .int .i64 r.y, .int .i64 r.w, .int .i64 r.h], .agg #[.int .i64 0, .int .i64 0, .int .i64 M2, .int .i64 M]] w
   fun e w' => (∃ X Y n h : Nat, e = .returned (.agg #[.int .i64 X, .int .i64 Y, .int .i64 n, .int .i64 h]) ∧ X + n ≤ M2 ∧ Y + h ≤ M ∧ (h = 0 ∨ 1 ≤ n) ∧ Hid (∀ p q : Nat, ((X ≤ p ∧ p < X + n ∧ Y ≤ q ∧ q < Y + h) ↔ (hasB r p q = true ∧ p < M2 ∧ q < M)))) ∧ Below w.heap.size w w' := by
 refine (isectS_any r ⟨0, 0, M2, M⟩ w).mono ?_
 rintro e w' ⟨rfl, hb⟩
 obtain ⟨X, Y, n, h, he, h1, h2, h3, h4⟩ := part_nat r M2 M a1 a2 b1 b2
 exact ⟨⟨X, Y, n, h, by rw [he], h1, h2, h3, h4⟩, hb⟩
set_option maxHeartbeats 1000000 in
set_option maxRecDepth 10000 in
theorem fillS_bad1 (X Y : Int) (v : Value) (L : List Int) (r : Rc) (p : Int) (w : World) (hm : L.length ≤ 2097152) (hv : RdI w v L) (h1 : ¬ imOk X Y L) :
  Calls Try.prog 158 #[.agg #[.int .i64 X, .int .i64 Y, v], .agg #[.int .i64 r.x, .int .i64 r.y, .int .i64 r.w, .int .i64 r.h], .int .i64 p] w (AnsIm (fillIm X Y L r p) w) := by
 have HA : Hid (fillIm X Y L r p = ⟨X, Y, L⟩) := Lib.hid (fill_no fun h => h1 h.1)
 have Ho := Lib.hid h1
 clear h1
 have Hm := Lib.hid hm
 obtain ⟨A, c, rfl⟩ := hv.form
 have hS := FlA.born w X Y (.slice A L.length c) r
 have hd := fl_res w X Y (.slice A L.length c) r
 have hv0 := (((hv.alloc (.cells #[.int .i64 X, .int .i64 Y, .slice A L.length c] 46)).alloc (.cells #[.int .i64 r.x, .int .i64 r.y, .int .i64 r.w, .int .i64 r.h] 81)).alloc (.cells #[.int .i64 0, .int .i64 0, .slice none 0 0] 46))
 clear hm hv
 obtain ⟨a0, a1, a2⟩ := hS.a.cells
 go_enter Try.func158, Try.ntmps158
 go_wp2_with fail
 refine (l05Copy_any X Y _ L _ Hm.out hv0).mono ?_
 rintro e w1 ⟨vo, rfl, hown, hb⟩
 obtain ⟨Ao, co, hvo⟩ := ownI_shape hown
 subst hvo
 have hv1 := hv0.call hb
 have hS1 := hS.call hb
 have hd1 := hd.call hb
 have hO := ImV.born (X := X) (Y := Y) hb hown
 have hl : w.heap.size + 3 ≤ (((w.alloc (.cells #[.int .i64 X, .int .i64 Y, .slice A L.length c] 46)).alloc (.cells #[.int .i64 r.x, .int .i64 r.y, .int .i64 r.w, .int .i64 r.h] 81)).alloc (.cells #[.int .i64 0, .int .i64 0, .slice none 0 0] 46)).heap.size := by simp
 obtain ⟨lo, hlo⟩ : ∃ lo, lo = (((w.alloc (.cells #[.int .i64 X, .int .i64 Y, .slice A L.length c] 46)).alloc (.cells #[.int .i64 r.x, .int .i64 r.y, .int .i64 r.w, .int .i64 r.h] 81)).alloc (.cells #[.int .i64 0, .int .i64 0, .slice none 0 0] 46)).heap.size := ⟨_, rfl⟩
 rw [← hlo] at hO hl
 replace hS := hS1.call (belI_box w1 (.cells #[.int .i64 X, .int .i64 Y, .slice Ao L.length co] 46))
 replace hd := hd1.call (belI_box w1 (.cells #[.int .i64 X, .int .i64 Y, .slice Ao L.length co] 46))
 have hv := hv1.call (belI_box w1 (.cells #[.int .i64 X, .int .i64 Y, .slice Ao L.length co] 46))
 clear hown hb hS1 hd1 hv1 hv0 a0 a1 a2 hlo
 obtain ⟨a0, a1, a2⟩ := hS.a.cells
 go_wp2_with fail
 refine (imS X Y _ L _ hv).mono ?_
 rintro e w2 ⟨rfl, hb⟩
 replace hS := hS.call hb
 replace hd := hd.call hb
 replace hO := hO.call hb
 clear hb hv a0 a1 a2
 rw [imB_no Ho.out]
 obtain ⟨d0, d1, d2⟩ := hd.cells
 obtain ⟨o0, o1, o2⟩ := hO.cells
 have f0 := hd.frozen 0
 have f1 := hd.frozen 1
 have f2 := hd.frozen 2
 go_wp2_with fail
 have j := hd.set3 X Y (.slice Ao L.length co)
 obtain ⟨x0, x1, x2⟩ := j.cells
 refine bodyPost_ret (v := .agg #[.int .i64 X, .int .i64 Y, .slice Ao L.length co]) (by simp [results, Try.results158, go_sem, x0, x1, x2]) rfl ?_
 unfold AnsIm
 rw [HA.out]
 exact ans_set hO.own rfl (by omega) (by omega) hS.bw
set_option maxHeartbeats 1000000 in
set_option maxRecDepth 10000 in
theorem fillS_bad2 (X Y : Int) (v : Value) (L : List Int) (r : Rc) (p : Int) (w : World) (hm : L.length ≤ 2097152) (hv : RdI w v L) (h1 : imOk X Y L) (h2 : ¬ r.ok) :
  Calls Try.prog 158 #[.agg #[.int .i64 X, .int .i64 Y, v], .agg #[.int .i64 r.x, .int .i64 r.y, .int .i64 r.w, .int .i64 r.h], .int .i64 p] w (AnsIm (fillIm X Y L r p) w) := by
 have HA : Hid (fillIm X Y L r p = ⟨X, Y, L⟩) := Lib.hid (fill_no fun h => h2 h.2.1)
 have Ho := Lib.hid h1
 have Hr := Lib.hid h2
 clear h1 h2
 have Hm := Lib.hid hm
 obtain ⟨A, c, rfl⟩ := hv.form
 have hS := FlA.born w X Y (.slice A L.length c) r
 have hd := fl_res w X Y (.slice A L.length c) r
 have hv0 := (((hv.alloc (.cells #[.int .i64 X, .int .i64 Y, .slice A L.length c] 46)).alloc (.cells #[.int .i64 r.x, .int .i64 r.y, .int .i64 r.w, .int .i64 r.h] 81)).alloc (.cells #[.int .i64 0, .int .i64 0, .slice none 0 0] 46))
 clear hm hv
 obtain ⟨a0, a1, a2⟩ := hS.a.cells
 go_enter Try.func158, Try.ntmps158
 go_wp2_with fail
 refine (l05Copy_any X Y _ L _ Hm.out hv0).mono ?_
 rintro e w1 ⟨vo, rfl, hown, hb⟩
 obtain ⟨Ao, co, hvo⟩ := ownI_shape hown
 subst hvo
 have hv1 := hv0.call hb
 have hS1 := hS.call hb
 have hd1 := hd.call hb
 have hO := ImV.born (X := X) (Y := Y) hb hown
 have hl : w.heap.size + 3 ≤ (((w.alloc (.cells #[.int .i64 X, .int .i64 Y, .slice A L.length c] 46)).alloc (.cells #[.int .i64 r.x, .int .i64 r.y, .int .i64 r.w, .int .i64 r.h] 81)).alloc (.cells #[.int .i64 0, .int .i64 0, .slice none 0 0] 46)).heap.size := by simp
 obtain ⟨lo, hlo⟩ : ∃ lo, lo = (((w.alloc (.cells #[.int .i64 X, .int .i64 Y, .slice A L.length c] 46)).alloc (.cells #[.int .i64 r.x, .int .i64 r.y, .int .i64 r.w, .int .i64 r.h] 81)).alloc (.cells #[.int .i64 0, .int .i64 0, .slice none 0 0] 46)).heap.size := ⟨_, rfl⟩
 rw [← hlo] at hO hl
 replace hS := hS1.call (belI_box w1 (.cells #[.int .i64 X, .int .i64 Y, .slice Ao L.length co] 46))
 replace hd := hd1.call (belI_box w1 (.cells #[.int .i64 X, .int .i64 Y, .slice Ao L.length co] 46))
 have hv := hv1.call (belI_box w1 (.cells #[.int .i64 X, .int .i64 Y, .slice Ao L.length co] 46))
 clear hown hb hS1 hd1 hv1 hv0 a0 a1 a2 hlo
 obtain ⟨a0, a1, a2⟩ := hS.a.cells
 go_wp2_with fail
 refine (imS X Y _ L _ hv).mono ?_
 rintro e w2 ⟨rfl, hb⟩
 replace hS := hS.call hb
 replace hd := hd.call hb
 replace hO := hO.call hb
 clear hb hv a0 a1 a2
 rw [imB_yes Ho.out]
 obtain ⟨b0, b1, b2, b3⟩ := hS.b.cells
 go_wp2_with fail
 refine (rectOkS_no r Hr.out _).mono ?_
 rintro e w3 ⟨rfl, hb⟩
 replace hS := hS.call hb
 replace hd := hd.call hb
 replace hO := hO.call hb
 clear hb b0 b1 b2 b3
 obtain ⟨d0, d1, d2⟩ := hd.cells
 obtain ⟨o0, o1, o2⟩ := hO.cells
 have f0 := hd.frozen 0
 have f1 := hd.frozen 1
 have f2 := hd.frozen 2
 go_wp2_with fail
 have j := hd.set3 X Y (.slice Ao L.length co)
 obtain ⟨x0, x1, x2⟩ := j.cells
 refine bodyPost_ret (v := .agg #[.int .i64 X, .int .i64 Y, .slice Ao L.length co]) (by simp [results, Try.results158, go_sem, x0, x1, x2]) rfl ?_
 unfold AnsIm
 rw [HA.out]
 exact ans_set hO.own rfl (by omega) (by omega) hS.bw
set_option maxHeartbeats 1000000 in
set_option maxRecDepth 10000 in
theorem fillS_bad3 (X Y : Int) (v : Value) (L : List Int) (r : Rc) (p : Int) (w : World) (hm : L.length ≤ 2097152) (hv : RdI w v L) (h1 : imOk X Y L) (h2 : r.ok) (h3 : ¬ pixOk p) :
  Calls Try.prog 158 #[.agg #[.int .i64 X, .int .i64 Y, v], .agg #[.int .i64 r.x, .int .i64 r.y, .int .i64 r.w, .int .i64 r.h], .int .i64 p] w (AnsIm (fillIm X Y L r p) w) := by
 have HA : Hid (fillIm X Y L r p = ⟨X, Y, L⟩) := Lib.hid (fill_no fun h => h3 h.2.2)
 have Ho := Lib.hid h1
 have Hr := Lib.hid h2
 have Hp := Lib.hid h3
 clear h1 h2 h3
 have Hm := Lib.hid hm
 obtain ⟨A, c, rfl⟩ := hv.form
 have hS := FlA.born w X Y (.slice A L.length c) r
 have hd := fl_res w X Y (.slice A L.length c) r
 have hv0 := (((hv.alloc (.cells #[.int .i64 X, .int .i64 Y, .slice A L.length c] 46)).alloc (.cells #[.int .i64 r.x, .int .i64 r.y, .int .i64 r.w, .int .i64 r.h] 81)).alloc (.cells #[.int .i64 0, .int .i64 0, .slice none 0 0] 46))
 clear hm hv
 obtain ⟨a0, a1, a2⟩ := hS.a.cells
 go_enter Try.func158, Try.ntmps158
 go_wp2_with fail
 refine (l05Copy_any X Y _ L _ Hm.out hv0).mono ?_
 rintro e w1 ⟨vo, rfl, hown, hb⟩
 obtain ⟨Ao, co, hvo⟩ := ownI_shape hown
 subst hvo
 have hv1 := hv0.call hb
 have hS1 := hS.call hb
 have hd1 := hd.call hb
 have hO := ImV.born (X := X) (Y := Y) hb hown
 have hl : w.heap.size + 3 ≤ (((w.alloc (.cells #[.int .i64 X, .int .i64 Y, .slice A L.length c] 46)).alloc (.cells #[.int .i64 r.x, .int .i64 r.y, .int .i64 r.w, .int .i64 r.h] 81)).alloc (.cells #[.int .i64 0, .int .i64 0, .slice none 0 0] 46)).heap.size := by simp
 obtain ⟨lo, hlo⟩ : ∃ lo, lo = (((w.alloc (.cells #[.int .i64 X, .int .i64 Y, .slice A L.length c] 46)).alloc (.cells #[.int .i64 r.x, .int .i64 r.y, .int .i64 r.w, .int .i64 r.h] 81)).alloc (.cells #[.int .i64 0, .int .i64 0, .slice none 0 0] 46)).heap.size := ⟨_, rfl⟩
 rw [← hlo] at hO hl
 replace hS := hS1.call (belI_box w1 (.cells #[.int .i64 X, .int .i64 Y, .slice Ao L.length co] 46))
 replace hd := hd1.call (belI_box w1 (.cells #[.int .i64 X, .int .i64 Y, .slice Ao L.length co] 46))
 have hv := hv1.call (belI_box w1 (.cells #[.int .i64 X, .int .i64 Y, .slice Ao L.length co] 46))
 clear hown hb hS1 hd1 hv1 hv0 a0 a1 a2 hlo
 obtain ⟨a0, a1, a2⟩ := hS.a.cells
 go_wp2_with fail
 refine (imS X Y _ L _ hv).mono ?_
 rintro e w2 ⟨rfl, hb⟩
 replace hS := hS.call hb
 replace hd := hd.call hb
 replace hO := hO.call hb
 clear hb hv a0 a1 a2
 rw [imB_yes Ho.out]
 obtain ⟨b0, b1, b2, b3⟩ := hS.b.cells
 go_wp2_with fail
 refine (rectOkS_yes r Hr.out _).mono ?_
 rintro e w3 ⟨rfl, hb⟩
 replace hS := hS.call hb
 replace hd := hd.call hb
 replace hO := hO.call hb
 clear hb b0 b1 b2 b3
 go_wp2_with fail
 refine (pixS_no p Hp.out _).mono ?_
 rintro e w4 ⟨rfl, rfl⟩
 obtain ⟨d0, d1, d2⟩ := hd.cells
 obtain ⟨o0, o1, o2⟩ := hO.cells
 have f0 := hd.frozen 0
 have f1 := hd.frozen 1
 have f2 := hd.frozen 2
 go_wp2_with fail
 have j := hd.set3 X Y (.slice Ao L.length co)
 obtain ⟨x0, x1, x2⟩ := j.cells
 refine bodyPost_ret (v := .agg #[.int .i64 X, .int .i64 Y, .slice Ao L.length co]) (by simp [results, Try.results158, go_sem, x0, x1, x2]) rfl ?_
 unfold AnsIm
 rw [HA.out]
 exact ans_set hO.own rfl (by omega) (by omega) hS.bw
set_option maxHeartbeats 1000000 in
set_option maxRecDepth 10000 in
theorem fillS_ok (X Y : Int) (v : Value) (L : List Int) (r : Rc) (p : Int) (w : World) (hm : L.length ≤ 2097152) (hv : RdI w v L) (h1 : imOk X Y L) (h2 : r.ok) (h3 : pixOk p) :
  Calls Try.prog 158 #[.agg #[.int .i64 X, .int .i64 Y, v], .agg #[.int .i64 r.x, .int .i64 r.y, .int .i64 r.w, .int .i64 r.h], .int .i64 p] w (AnsIm (fillIm X Y L r p) w) := by
 obtain ⟨W, H, rfl, rfl, wl, wh, hl1, hl2, hL⟩ := im_nat h1
 have HA : Hid (fillIm W H L r p = ⟨W, H, tabI L.length (rectF W L r p)⟩) := Lib.hid (fill_val W H L r p h1 h3 hL wh hl2)
 have hL0 : 0 < L.length := by rw [hL]; exact Nat.mul_pos wl hl1
 have hL256 : L.length ≤ 256 := by rw [hL]; exact mul_256 wh hl2
 have HL := Lib.hid hL
 have Ho := Lib.hid h1
 have Hr := Lib.hid h2
 have Hp := Lib.hid h3
 clear h1 h2 h3 hL
 have Hm := Lib.hid hm
 obtain ⟨A, c, rfl⟩ := hv.form
 have hS := FlA.born w W H (.slice A L.length c) r
 have hd := fl_res w W H (.slice A L.length c) r
 have hv0 := (((hv.alloc (.cells #[.int .i64 W, .int .i64 H, .slice A L.length c] 46)).alloc (.cells #[.int .i64 r.x, .int .i64 r.y, .int .i64 r.w, .int .i64 r.h] 81)).alloc (.cells #[.int .i64 0, .int .i64 0, .slice none 0 0] 46))
 clear hm hv
 obtain ⟨a0, a1, a2⟩ := hS.a.cells
 go_enter Try.func158, Try.ntmps158
 go_wp2_with fail
 refine (l05Copy_any W H _ L _ Hm.out hv0).mono ?_
 rintro e w1 ⟨vo, rfl, hown, hb⟩
 obtain ⟨gq, cq, hvq, hgq, _⟩ := hown.form hL0
 subst hvq
 have hv1 := hv0.call hb
 have hS1 := hS.call hb
 have hd1 := hd.call hb
 have hO := ImV.born (X := W) (Y := H) hb hown
 have hl : w.heap.size + 3 ≤ (((w.alloc (.cells #[.int .i64 W, .int .i64 H, .slice A L.length c] 46)).alloc (.cells #[.int .i64 r.x, .int .i64 r.y, .int .i64 r.w, .int .i64 r.h] 81)).alloc (.cells #[.int .i64 0, .int .i64 0, .slice none 0 0] 46)).heap.size := by simp
 obtain ⟨lo, hlo⟩ : ∃ lo, lo = (((w.alloc (.cells #[.int .i64 W, .int .i64 H, .slice A L.length c] 46)).alloc (.cells #[.int .i64 r.x, .int .i64 r.y, .int .i64 r.w, .int .i64 r.h] 81)).alloc (.cells #[.int .i64 0, .int .i64 0, .slice none 0 0] 46)).heap.size := ⟨_, rfl⟩
 rw [← hlo] at hO hl hgq
 replace hS := hS1.call (belI_box w1 (.cells #[.int .i64 W, .int .i64 H, .slice (some ⟨gq, 0, none⟩) L.length cq] 46))
 replace hd := hd1.call (belI_box w1 (.cells #[.int .i64 W, .int .i64 H, .slice (some ⟨gq, 0, none⟩) L.length cq] 46))
 have hv := hv1.call (belI_box w1 (.cells #[.int .i64 W, .int .i64 H, .slice (some ⟨gq, 0, none⟩) L.length cq] 46))
 clear hown hb hS1 hd1 hv1 hv0 a0 a1 a2 hlo
 obtain ⟨a0, a1, a2⟩ := hS.a.cells
 go_wp2_with fail
 refine (imS W H _ L _ hv).mono ?_
 rintro e w2 ⟨rfl, hb⟩
 replace hS := hS.call hb
 replace hd := hd.call hb
 replace hO := hO.call hb
 clear hb hv a0 a1 a2
 rw [imB_yes Ho.out]
 obtain ⟨b0, b1, b2, b3⟩ := hS.b.cells
 go_wp2_with fail
 refine (rectOkS_yes r Hr.out _).mono ?_
 rintro e w3 ⟨rfl, hb⟩
 replace hS := hS.call hb
 replace hd := hd.call hb
 replace hO := hO.call hb
 clear hb b0 b1 b2 b3
 go_wp2_with fail
 refine (pixS_yes p Hp.out _).mono ?_
 rintro e w4 ⟨rfl, rfl⟩
 obtain ⟨a0, a1, a2⟩ := hS.a.cells
 obtain ⟨b0, b1, b2, b3⟩ := hS.b.cells
 go_wp2_with fail
 refine (partS r W H wl wh hl1 hl2 _).mono ?_
 rintro e W1 ⟨⟨X, Y, n, h, rfl, hXn, hYh, hn1, HI⟩, hb⟩
 replace hS := hS.call hb
 replace hd := hd.call hb
 replace hO := hO.call hb
 clear hb a0 a1 a2 b0 b1 b2 b3
 have hgb := (hO.hk gq rfl).1
 have hgb2 := (hO.hk gq rfl).2
 have hhs := hO.hs
 obtain ⟨bt, hbt⟩ : ∃ bt, bt = W1.heap.size := ⟨_, rfl⟩
 have hS2 := hS.call (belI_box W1 (.cells #[.int .i64 X, .int .i64 Y, .int .i64 n, .int .i64 h] 81))
 have hd2 := hd.call (belI_box W1 (.cells #[.int .i64 X, .int .i64 Y, .int .i64 n, .int .i64 h] 81))
 have hO2 := hO.call (belI_box W1 (.cells #[.int .i64 X, .int .i64 Y, .int .i64 n, .int .i64 h] 81))
 have hT := RcAt.newAt (w := W1) hbt.symm ⟨X, Y, n, h⟩
 dsimp only at hT
 obtain ⟨V0, hV0⟩ : ∃ V0, V0 = W1.alloc (.cells #[.int .i64 X, .int .i64 Y, .int .i64 n, .int .i64 h] 81) := ⟨_, rfl⟩
 rw [← hV0] at hS2 hd2 hO2 hT
 have HV := Lib.hid hV0
 have HB := Lib.hid hbt
 have HN : Hid (some w.heap.size ≠ some gq ∧ some (w.heap.size + 1) ≠ some gq ∧ some (w.heap.size + 2) ≠ some gq ∧ some w1.heap.size ≠ some gq ∧ some bt ≠ some gq) := Lib.hid ⟨by simp; omega, by simp; omega, by simp; omega, by simp; omega, by simp; omega⟩
 have Hown : Hid (V0.ownsRow lo 3 1 (.slice (some ⟨gq, 0, none⟩) L.length cq) L.length (intCells (tabI L.length (rectS W p (fun k => L.getD k 0) X Y n Y X)))) := Lib.hid (by
  have h := hO2.own
  rw [tabI_congr L.length (fun k _ => rectS_start W p (fun k => L.getD k 0) X Y n k), ← tabI_self]
  exact h)
 have Hgr : Hid (V0.grownBy V0 (some gq)) := Lib.hid (World.grownBy.refl _ _)
 have HS := Lib.hid hS2
 have HO := Lib.hid hO2.at_
 have HD := Lib.hid hd2
 have HT := Lib.hid hT
 obtain ⟨t0, t1, t2, t3⟩ := hT.cells
 rw [hV0, hbt] at t0 t1 t2 t3
 clear hS hd hO hS2 hd2 hO2 hT hV0 hbt
 go_wp2_with fail
 rw [← HV.out, ← HB.out]
 clear t0 t1 t2 t3
 go_loopg [9] h (fun g9 s9 wr => ∃ (y : Nat) (V : World), V = wr ∧ Y ≤ y ∧ y ≤ Y + h ∧ g9 = Y + h - y ∧ s9 = .int .i64 y ∧ Hid (V.ownsRow lo 3 1 (.slice (some ⟨gq, 0, none⟩) L.length cq) L.length (intCells (tabI L.length (rectS W p (fun k => L.getD k 0) X Y n y X)))) ∧ Hid (V0.grownBy V (some gq)))
 case atStart => exact ⟨Y, _, rfl, Nat.le_refl _, by omega, by omega, rfl, Hown, Hgr⟩
 case round =>
  clear Hown Hgr
  obtain ⟨y, wy, hV, hy1, hy2, rfl, rfl, Hown, Hgr⟩ := hrel
  subst hV
  obtain ⟨t0, t1, t2, t3⟩ := (show RcAt wy bt ⟨X, Y, n, h⟩ from (Hgr.out.block _ HT.out.lt HN.out.2.2.2.2).trans HT.out).cells
  dsimp only at t0 t1 t2 t3
  by_cases hyl : y < Y + h
  ·have hyi : (y : Int) < (Y : Int) + (h : Int) := by omega
   go_wp2_with fail
   go_loopg [10] n (fun g10 s10 wz => ∃ (x : Nat) (V : World), V = wz ∧ X ≤ x ∧ x ≤ X + n ∧ g10 = X + n - x ∧ s10 = .int .i64 x ∧ Hid (V.ownsRow lo 3 1 (.slice (some ⟨gq, 0, none⟩) L.length cq) L.length (intCells (tabI L.length (rectS W p (fun k => L.getD k 0) X Y n y x)))) ∧ Hid (V0.grownBy V (some gq)))
   case atStart => exact ⟨X, _, rfl, Nat.le_refl _, by omega, by omega, rfl, Hown, Hgr⟩
   case round =>
    clear Hown Hgr t0 t1 t2 t3
    obtain ⟨x, wx, hV, hx1, hx2, rfl, rfl, Hown, Hgr⟩ := hrel
    subst hV
    obtain ⟨t0, t1, t2, t3⟩ := (show RcAt wx bt ⟨X, Y, n, h⟩ from (Hgr.out.block _ HT.out.lt HN.out.2.2.2.2).trans HT.out).cells
    dsimp only at t0 t1 t2 t3
    by_cases hxl : x < X + n
    ·have hxi : (x : Int) < (X : Int) + (n : Int) := by omega
     obtain ⟨m, hm⟩ : ∃ m, m = y * W := ⟨_, rfl⟩
     have e1 : (y : Int) * (W : Int) = (m : Int) := by rw [hm]; simp
     have l1 : m + x < L.length := by rw [hm, HL.out]; exact plc_lt (by omega) (by omega)
     have l3 : (m : Int) + (x : Int) < (L.length : Int) := by omega
     obtain ⟨a0, a1, a2⟩ := (HS.out.a.grown Hgr.out HN.out.1).cells
     obtain ⟨o0, o1, o2⟩ := (HO.out.grown Hgr.out HN.out.2.2.2.1).cells
     have cS : wx.cell? ⟨gq, m + x, none⟩ = some (.int .i64 (rectS W p (fun k => L.getD k 0) X Y n y x (m + x))) := by
      have h := Hown.out.cellAt (m + x) (by omega)
      rw [intCells_get, tabI_get _ _ _ l1] at h
      exact h
     have fS : wx.frozen? ⟨gq, m + x, none⟩ = false := Hown.out.frozenAt (m + x)
     have Hm1 := Lib.hid hm
     clear hm
     go_wp2_with fail
     go_roundg (X + n - (x + 1))
     case measure => omega
     case rel =>
      refine ⟨x + 1, _, rfl, by omega, by omega, rfl, by go_num, ?_, Lib.hid (Hgr.out.trans (grown_setI _ gq (m + x) _))⟩
      have h := (ownI_put Hown.out (m + x) p).1
      rw [tabI_set] at h
      rw [← tabI_congr L.length (fun k _ => rectS_set W p (fun k => L.getD k 0) X Y n y x k (by omega) hx1 hxl hy1), ← Hm1.out]
      exact Lib.hid h
    ·obtain rfl : x = X + n := by omega
     have hxi : ¬ ((X + n : Nat) : Int) < (X : Int) + (n : Int) := by omega
     go_wp2_with fail
     go_roundg (Y + h - (y + 1))
     case measure => omega
     case rel =>
      refine ⟨y + 1, _, rfl, by omega, by omega, rfl, by go_num, ?_, Hgr⟩
      rw [← tabI_congr L.length (fun k _ => rectS_row W p (fun k => L.getD k 0) X Y n y k)]
      exact Hown
  ·obtain rfl : y = Y + h := by omega
   have hyi : ¬ ((Y + h : Nat) : Int) < (Y : Int) + (h : Int) := by omega
   have hdd := HD.out.grown Hgr.out HN.out.2.2.1
   obtain ⟨d0, d1, d2⟩ := hdd.cells
   obtain ⟨o0, o1, o2⟩ := (HO.out.grown Hgr.out HN.out.2.2.2.1).cells
   have f0 := hdd.frozen 0
   have f1 := hdd.frozen 1
   have f2 := hdd.frozen 2
   go_wp2_with fail
   have j := hdd.set3 W H (.slice (some ⟨gq, 0, none⟩) L.length cq)
   obtain ⟨x0, x1, x2⟩ := j.cells
   refine bodyPost_ret (v := .agg #[.int .i64 W, .int .i64 H, .slice (some ⟨gq, 0, none⟩) L.length cq]) (by simp [results, Try.results158, go_sem, x0, x1, x2]) rfl ?_
   unfold AnsIm
   rw [HA.out]
   refine ans_set (lo := lo) (b := w.heap.size + 2) (n := L.length) ?_ (tabI_length _ _) (by omega) (by omega) (HS.out.bw.grown Hgr.out HS.out.bw.size (fun k hk => by injection hk with hk; omega))
   rw [← tabI_congr L.length (fun k hk => rectS_end W H p L r X Y n h k (by rw [← HL.out]; exact hk) HI.out)]
   exact Hown.out
theorem fillS_any (X Y : Int) (v : Value) (L : List Int) (r : Rc) (p : Int) (w : World) (hm : L.length ≤ 2097152) (hv : RdI w v L) :
  Calls Try.prog 158 #[.agg #[.int .i64 X, .int .i64 Y, v], .agg #[.int .i64 r.x, .int .i64 r.y, .int .i64 r.w, .int .i64 r.h], .int .i64 p] w (AnsIm (fillIm X Y L r p) w) := by
 by_cases h1 : imOk X Y L
 ·by_cases h2 : r.ok
  ·by_cases h3 : pixOk p
   ·exact fillS_ok X Y v L r p w hm hv h1 h2 h3
   ·exact fillS_bad3 X Y v L r p w hm hv h1 h2 h3
  ·exact fillS_bad2 X Y v L r p w hm hv h1 h2
 ·exact fillS_bad1 X Y v L r p w hm hv h1
end Go.Proofs.Ytdgagooldlnpeaa
namespace Go.Proofs.Ytdgagooldlnpeaa
open Go.RowKit
theorem intCells_append (L M : List Int) : intCells (L ++ M) = intCells L ++ intCells M := by simp [intCells]
end Go.Proofs.Ytdgagooldlnpeaa
namespace Go.Proofs.Ytdgagooldlnpeaa
open Go.RowKit
theorem fill_ok {X Y : Int} {L : List Int} (r : Rc) (p : Int) (h : imOk X Y L) : ∃ M, fillIm X Y L r p = ⟨X, Y, M⟩ ∧ imOk X Y M := by
 by_cases hp : pixOk p
 ·obtain ⟨W, H, rfl, rfl, wl, wh, hl, hh, hL⟩ := im_nat h
  refine ⟨_, fill_val W H L r p h hp hL wh hh, h.1, by rw [tabI_length]; exact h.2.1, fun k x hx => ?_⟩
  obtain ⟨j, hj, rfl⟩ := tabI_mem (List.mem_of_getElem? hx)
  unfold rectF
  split
  ·exact hp
  ·rw [List.getD_eq_getElem?_getD, List.getElem?_eq_getElem hj]; exact h.2.2 j _ (List.getElem?_eq_getElem hj)
 ·exact ⟨L, fill_no fun h' => hp h'.2.2, h⟩
end Go.Proofs.Ytdgagooldlnpeaa
namespace Go.Proofs.Ytdgagooldlnpeaa
open Go.RowKit
theorem ownA_ne {v : Value} {b : Nat} (h : ∀ g, v.ownBlock = some g → g ≠ b) : v.ownBlock = none ∨ v.ownBlock ≠ some b := by
 by_cases hv : v.ownBlock = none
 ·exact .inl hv
 ·exact .inr fun e => h b e rfl
end Go.Proofs.Ytdgagooldlnpeaa
namespace Go.Proofs.Ytdgagooldlnpeaa
open Go.RowKit
theorem r_ed {w : World} {f : Ed} {d : Value} {bs : List Nat} (h : repEd.R w f [.int .i64 f.kind, .int .i64 f.id, .int .i64 f.a, .int .i64 f.b, .int .i64 f.bw, .int .i64 f.bh, d] bs) : repInts.R w f.data [d] bs := by
 obtain ⟨d', e, h⟩ := h
 have e2 : d = d' := by simpa [edCells] using e
 subst e2
 exact h
end Go.Proofs.Ytdgagooldlnpeaa
namespace Go.Proofs.Ytdgagooldlnpeaa
open Go.RowKit
def repEds : Rep (List Ed) := repSl repEd 57 7
def lenFs (L : List Sf) : Nat := (L.map fun f => f.data.length).sum
def sizFs (L : List Sf) : Nat := L.length + lenFs L
def cntFs (L : List Sf) : Nat := L.length * 10 + lenFs L
theorem lenFs_take {L : List Sf} {k : Nat} {f : Sf} (h : L[k]? = some f) : lenFs (L.take (k + 1)) = lenFs (L.take k) + f.data.length := by
 unfold lenFs
 rw [List.take_add_one, h, Option.toList_some, List.map_append, List.sum_append]
 simp
theorem lenFs_le (L : List Sf) (k : Nat) : lenFs (L.take k) ≤ lenFs L := by
 unfold lenFs
 conv => rhs; rw [← List.take_append_drop k L, List.map_append, List.sum_append]
 omega
theorem lenFs_at {L : List Sf} {k : Nat} {f : Sf} (h : L[k]? = some f) : f.data.length ≤ lenFs L := by
 have := lenFs_le L (k + 1); rw [lenFs_take h] at this; omega
section
variable {α : Type} {M L : List α} {k : Nat}
end
end Go.Proofs.Ytdgagooldlnpeaa
namespace Go.Proofs.Ytdgagooldlnpeaa
open Go.RowKit
structure SlU {α : Type} (E : Rep α) (e : TypeId) (s : Nat) (w : World) (L : List α) (g c n : Nat) (xs : List (List Value)) (bss : List (List Nat)) : Prop where
 rr : rowsR E w L xs bss
 ls : ∀ x ∈ xs, x.length = s
 ow : w.ownsRow 0 e s (.slice (some ⟨g, 0, none⟩) n c) n xs.flatten
 hn : n = L.length
section
variable {α : Type} {E : Rep α} {e : TypeId} {s : Nat} {w w' : World} {L : List α} {g c n : Nat} {xs : List (List Value)} {bss : List (List Nat)}
theorem SlU.lt (h : SlU E e s w L g c n xs bss) : g < w.heap.size := (own_ltB h.ow g (by simp [Value.ownBlock])).2
theorem SlU.call (h : SlU E e s w L g c n xs bss) (hb : Below w.heap.size w w') : SlU E e s w' L g c n xs bss :=
 ⟨rowsR_keep h.rr fun b hb' => hb.block b (rowsR_ex h.rr b hb'), h.ls, own_keepB h.ow fun b hb' => hb.block b (own_ltB h.ow b hb').2, h.hn⟩
theorem SlU.at_ (h : SlU E e s w L g c n xs bss) {k : Nat} (hk : k < n) : ∃ a x b, L[k]? = some a ∧ xs[k]? = some x ∧ bss[k]? = some b ∧ x.length = s ∧ E.R w a x b ∧ ∀ j u, x[j]? = some u → w.cell? ⟨g, k * s + j, none⟩ = some u := by
 have hL := List.getElem?_eq_getElem (show k < L.length by rw [← h.hn]; exact hk)
 obtain ⟨x, b, hx, hb, hR⟩ := rowsR_at h.rr k _ hL
 have hl := h.ls x (List.mem_of_getElem? hx)
 refine ⟨_, x, b, hL, hx, hb, hl, hR, fun j u hu => ?_⟩
 have hj : j < s := by have := (List.getElem?_eq_some_iff.1 hu).1; omega
 exact own_cellI h.ow (by rw [flat_at h.ls k j hx hj]; exact hu)
theorem SlU.frozen (h : SlU E e s w L g c n xs bss) (j : Nat) : w.frozen? ⟨g, j, none⟩ = false := h.ow.frozenAt j
theorem SlU.rep (h : SlU E e s w L g c n xs bss) : (repSl E e s).R w L [.slice (some ⟨g, 0, none⟩) n c] (g :: bss.flatten) := ⟨_, xs, bss, rfl, h.rr, h.ls, by rw [← h.hn]; exact h.ow, by simp [Value.ownBlock]⟩
theorem SlU.of_rep {v : Value} {bs : List Nat} (h : (repSl E e s).R w L [v] bs) : (v = .slice none 0 0 ∧ L = [] ∧ bs = []) ∨ ∃ g c xs bss, v = .slice (some ⟨g, 0, none⟩) L.length c ∧ SlU E e s w L g c L.length xs bss ∧ bs = g :: bss.flatten := by
 obtain ⟨v', xs, bss, he, hr, hs, ho, rfl⟩ := h
 obtain rfl : v = v' := by simpa using he
 rcases ho.2 with ⟨rfl, h0⟩ | ⟨g, cap, cur, rfl, _⟩
 ·have hL : L = [] := List.eq_nil_of_length_eq_zero h0
  subst hL
  have := (rowsR_len hr).2
  obtain rfl : bss = [] := List.eq_nil_of_length_eq_zero this
  exact .inl ⟨rfl, rfl, rfl⟩
 ·exact .inr ⟨g, cap, xs, bss, rfl, ⟨hr, hs, ho, rfl⟩, by simp [Value.ownBlock]⟩
theorem own_setK {xs : List (List Value)} (ls : ∀ x ∈ xs, x.length = s) (ow : w.ownsRow 0 e s (.slice (some ⟨g, 0, none⟩) n c) n xs.flatten) {k j : Nat} {x : List Value} (hx : xs[k]? = some x) (hj : j < s) (v : Value) :
  (∀ y ∈ xs.set k (x.set j v), y.length = s) ∧ (w.setCell ⟨g, k * s + j, none⟩ v).ownsRow 0 e s (.slice (some ⟨g, 0, none⟩) n c) n (xs.set k (x.set j v)).flatten ∧ w.grownBy (w.setCell ⟨g, k * s + j, none⟩ v) (some g) := by
 obtain ⟨p1, p2⟩ := ow.stored (k * s + j) v
 rw [flat_set ls k j hx v hj] at p1
 refine ⟨fun y hy => ?_, p1, p2⟩
 rcases List.mem_or_eq_of_mem_set hy with h | rfl
 ·exact ls y h
 ·rw [List.length_set]; exact ls x (List.mem_of_getElem? hx)
end
structure SetK (e : TypeId) (s : Nat) (w w' : World) (g c n k : Nat) (xs : List (List Value)) (x' : List Value) : Prop where
 ls : ∀ y ∈ xs.set k x', y.length = s
 ow : w'.ownsRow 0 e s (.slice (some ⟨g, 0, none⟩) n c) n (xs.set k x').flatten
 gr : w.grownBy w' (some g)
theorem SetK.put {e : TypeId} {s : Nat} {w w' : World} {g c n k : Nat} {xs : List (List Value)} {x' y : List Value} (h : SetK e s w w' g c n k xs x') (hk : k < xs.length) (j : Nat) (hj : j < s) (v : Value) (hv : x'.set j v = y) : SetK e s w (w'.setCell ⟨g, k * s + j, none⟩ v) g c n k xs y := by
 obtain ⟨p1, p2, p3⟩ := own_setK h.ls h.ow (k := k) (j := j) (x := x') (by rw [List.getElem?_set_self hk]) hj v
 rw [List.set_set, hv] at p1 p2
 exact ⟨p1, p2, h.gr.trans p3⟩
theorem SetK.zero {α : Type} {E : Rep α} {e : TypeId} {s : Nat} {w : World} {L : List α} {g c n k : Nat} {xs : List (List Value)} {bss : List (List Nat)} {x : List Value} (h : SlU E e s w L g c n xs bss) (hx : xs[k]? = some x) : SetK e s w w g c n k xs x := by
 have hs : xs.set k x = xs := by
  apply List.ext_getElem?
  intro j
  by_cases e : j = k
  ·subst e; rw [List.getElem?_set_self (List.getElem?_eq_some_iff.1 hx).1, hx]
  ·rw [List.getElem?_set_ne (Ne.symm e)]
 exact ⟨by rw [hs]; exact h.ls, by rw [hs]; exact h.ow, World.grownBy.refl _ _⟩
theorem SlU.upd {α : Type} {E : Rep α} {e : TypeId} {s : Nat} {w w' : World} {L : List α} {g c n k : Nat} {xs : List (List Value)} {bss : List (List Nat)} {a' : α} {x' : List Value} {b' : List Nat} (h : SlU E e s w L g c n xs bss) (hk : k < n)
  (ow : w'.ownsRow 0 e s (.slice (some ⟨g, 0, none⟩) n c) n (xs.set k x').flatten) (ls : ∀ y ∈ xs.set k x', y.length = s) (hR : E.R w' a' x' b')
  (hn : ∀ (j : Nat) (d : List Nat), j ≠ k → bss[j]? = some d → ∀ b ∈ d, w'.heap[b]? = w.heap[b]?) : SlU E e s w' (L.set k a') g c n (xs.set k x') (bss.set k b') :=
 ⟨rowsR_upd h.rr k (by rw [← h.hn]; exact hk) hR hn, ls, ow, by rw [List.length_set]; exact h.hn⟩
theorem SlU.own {α : Type} {E : Rep α} {e : TypeId} {s : Nat} {B : Nat} {w : World} {L : List α} {g c n : Nat} {xs : List (List Value)} {bss : List (List Nat)} (h : SlU E e s w L g c n xs bss) (h1 : g ∉ bss.flatten) (h2 : bss.flatten.Nodup) (h3 : B ≤ g) (h4 : ∀ b ∈ bss.flatten, B ≤ b) : (repSl E e s).Own B w L [.slice (some ⟨g, 0, none⟩) n c] (g :: bss.flatten) :=
 ⟨h.rep, List.nodup_cons.2 ⟨h1, h2⟩, fun b hb => by rcases List.mem_cons.1 hb with rfl | hb; exact h3; exact h4 b hb⟩
theorem flat_mem {bss : List (List Nat)} {k : Nat} {d : List Nat} (h : bss[k]? = some d) {b : Nat} (hb : b ∈ d) : b ∈ bss.flatten := List.mem_flatten.2 ⟨d, List.mem_of_getElem? h, hb⟩
theorem set_same {bss : List (List Nat)} {k : Nat} {d : List Nat} (h : bss[k]? = some d) : bss.set k d = bss := by
 apply List.ext_getElem?
 intro j
 by_cases e : j = k
 ·subst e; rw [List.getElem?_set_self (List.getElem?_eq_some_iff.1 h).1, h]
 ·rw [List.getElem?_set_ne (Ne.symm e)]
end Go.Proofs.Ytdgagooldlnpeaa
namespace Go.Proofs.Ytdgagooldlnpeaa
open Go.RowKit
theorem rows_one {w : World} : ∀ {L : List Sf} {xs : List (List Value)} {bss : List (List Nat)}, rowsR repSf w L xs bss → ∀ u ∈ xs.flatten, u.oneCell' = true
  | [], [], [], _, u, hu => by simp at hu
  | f :: L, x :: xs, b :: bss, h, u, hu => by
    rw [List.flatten_cons, List.mem_append] at hu
    rcases hu with hu | hu
    · obtain ⟨d, rfl, hd⟩ := h.1
      obtain ⟨⟨A, c, rfl⟩, _⟩ := ints_form hd
      simp only [sfCells, List.mem_cons, List.not_mem_nil, or_false] at hu
      rcases hu with rfl | rfl | rfl | rfl | rfl | rfl | rfl | rfl | rfl | rfl | rfl <;> rfl
    · exact rows_one h.2 u hu
theorem info2_sf : ∃ i0, Try.prog.info? 48 = some i0 ∧ i0.zero = some (.agg #[.int .i64 0, .int .i64 0, .int .i64 0, .int .i64 0, .int .i64 0, .int .i64 0, .int .i64 0, .bool false, .int .i64 0, .int .i64 0, .slice none 0 0]) ∧ i0.size = 11 ∧ i0.bytes ≤ 1000 := by
  have h : (Try.prog.info? 48).map (fun i => (i.zero, i.size, decide (i.bytes ≤ 1000))) = some (some (.agg #[.int .i64 0, .int .i64 0, .int .i64 0, .int .i64 0, .int .i64 0, .int .i64 0, .int .i64 0, .bool false, .int .i64 0, .int .i64 0, .slice none 0 0]), 11, true) := by kernel_rfl
  cases e : Try.prog.info? 48 with
  | none => rw [e] at h; simp at h
  | some i =>
    rw [e] at h
    simp only [Option.map_some, Option.some.injEq, Prod.mk.injEq, decide_eq_true_eq] at h
    exact ⟨i, rfl, h.1, h.2.1, h.2.2⟩
end Go.Proofs.Ytdgagooldlnpeaa
namespace Go.Proofs.Ytdgagooldlnpeaa
open Go.RowKit
def SnAns (s : Sn) (w : World) (e : Ending) (w' : World) : Prop := ∃ u bs, e = .returned (.agg #[.int .i64 s.w, .int .i64 s.h, .int .i64 s.back, u]) ∧ repSfs.Own w.heap.size w' s.fs [u] bs ∧ Below w.heap.size w w'
end Go.Proofs.Ytdgagooldlnpeaa
namespace Go.Proofs.Ytdgagooldlnpeaa
open Go.RowKit
def edNew (e : Ed) : Sf := ⟨e.id, e.a, e.b, 0, 0, 255, 0, true, e.bw, e.bh, e.data⟩
def edF (e : Ed) (f : Sf) : Sf :=
 if e.kind = 2 then { f with x := e.a, y := e.b } else if e.kind = 5 then { f with bw := e.bw, bh := e.bh, data := e.data } else if e.kind = 6 then { f with alpha := e.a } else if e.kind = 7 then { f with orient := e.a } else if e.kind = 8 then { f with w := e.a, h := e.b } else { f with vis := e.a == 1 }
def edL (e : Ed) (L : List Sf) (k : Nat) (f : Sf) : List Sf :=
 if e.kind = 0 then L ++ [edNew e] else if e.kind = 1 then L.eraseIdx k else if e.kind = 3 then L.eraseIdx k ++ [f] else if e.kind = 4 then f :: L.eraseIdx k else L.set k (edF e f)
def edS (s : Sn) (e : Ed) : Sn :=
 if e.kind = 10 then { s with back := e.a } else { s with fs := edL e s.fs (idxF s.fs e.id).toNat ((s.fs[(idxF s.fs e.id).toNat]?).getD sfZero) }
def edOk (s : Sn) (e : Ed) : Prop := (0 ≤ e.kind ∧ e.kind ≤ 10) ∧ (e.kind = 0 ∨ e.kind = 10 ∨ 0 ≤ idxF s.fs e.id)
open Classical in
noncomputable def doE (s : Sn) (e : Ed) : Sn × Bool := if snOk s ∧ edOk s e ∧ snOk (edS s e) then (edS s e, true) else (s, false)
theorem doE_yes {s : Sn} {e : Ed} (h : snOk s) (he : edOk s e) (h2 : snOk (edS s e)) : doE s e = (edS s e, true) := if_pos ⟨h, he, h2⟩
theorem doE_no {s : Sn} {e : Ed} (h : ¬ (snOk s ∧ edOk s e ∧ snOk (edS s e))) : doE s e = (s, false) := if_neg h
theorem doE_ok {s : Sn} (e : Ed) (h : snOk s) : snOk (doE s e).1 := by
 by_cases h2 : snOk s ∧ edOk s e ∧ snOk (edS s e)
 ·rw [doE_yes h2.1 h2.2.1 h2.2.2]; exact h2.2.2
 ·rw [doE_no h2]; exact h
theorem sn_small {s : Sn} (h : snOk s) : s.fs.length ≤ 6 ∧ lenFs s.fs ≤ 1536 := by
  refine ⟨h.2.2.1, ?_⟩
  have hall : ∀ L : List Sf, (∀ f ∈ L, f.data.length ≤ 256) → lenFs L ≤ L.length * 256 := by
    intro L hL
    induction L with
    | nil => simp [lenFs]
    | cons f L ih =>
      have h1 := ih fun g hg => hL g (by simp [hg])
      have h2 := hL f (by simp)
      unfold lenFs at h1 ⊢
      simp only [List.map_cons, List.sum_cons, List.length_cons]
      omega
  have h1 := hall s.fs fun f hf => by
    obtain ⟨k, hk⟩ := List.getElem?_of_mem hf
    have hs := (h.2.2.2 k f hk).1
    have him := hs.2.2.2.2.2.2
    have hsz := sz_mul him.1
    have hlen := him.2.1
    omega
  have h2 := h.2.2.1
  omega
theorem sn_siz {s : Sn} (h : snOk s) : sizFs s.fs ≤ 2097152 ∧ cntFs s.fs ≤ 100000000 := by
 have := sn_small h; unfold sizFs cntFs; omega
theorem idx_get {L : List Sf} {i : Int} (h : 0 ≤ idxF L i) : ∃ (k : Nat) (f : Sf), idxF L i = (k : Int) ∧ k < L.length ∧ L[k]? = some f ∧ f.id = i := by
 rcases idxF_is (L := L) (i := i) with ⟨e, _⟩ | ⟨k, f, e, hf, hi, _⟩
 ·omega
 ·exact ⟨k, f, e, (List.getElem?_eq_some_iff.1 hf).1, hf, hi⟩
theorem edS_k {s : Sn} {e : Ed} {k : Nat} {f : Sf} (hk : idxF s.fs e.id = (k : Int)) (hf : s.fs[k]? = some f) (h10 : e.kind ≠ 10) : edS s e = { s with fs := edL e s.fs k f } := by
 unfold edS; rw [if_neg h10, hk, Int.toNat_natCast, hf]; rfl
theorem edS_add {s : Sn} {e : Ed} (h : e.kind = 0) : edS s e = { s with fs := s.fs ++ [edNew e] } := by
 unfold edS edL; rw [if_neg (by omega), if_pos h]
theorem edS_back {s : Sn} {e : Ed} (h : e.kind = 10) : edS s e = { s with back := e.a } := by unfold edS; rw [if_pos h]
end Go.Proofs.Ytdgagooldlnpeaa
namespace Go.Proofs.Ytdgagooldlnpeaa
open Go.RowKit
def orWn (W H : Nat) (o : Int) : Nat := if o % 2 = 1 then H else W
def orHn (W H : Nat) (o : Int) : Nat := if o % 2 = 1 then W else H
theorem orW_nat (W H : Nat) (o : Int) : orW W H o = (orWn W H o : Int) := by unfold orW orWn; split <;> rfl
theorem orH_nat (W H : Nat) (o : Int) : orH W H o = (orHn W H o : Int) := by unfold orH orHn; split <;> rfl
theorem or_area (W H : Nat) (o : Int) : orWn W H o * orHn W H o = W * H := by
 unfold orWn orHn; split
 ·rw [Nat.mul_comm]
 ·rfl
theorem or_small {W H : Nat} (o : Int) (h : 1 ≤ W ∧ W ≤ 16 ∧ 1 ≤ H ∧ H ≤ 16) : 1 ≤ orWn W H o ∧ orWn W H o ≤ 16 ∧ 1 ≤ orHn W H o ∧ orHn W H o ≤ 16 := by
 unfold orWn orHn; split <;> omega
theorem orW_undo {o : Int} (h : orOk o) (W H : Nat) : orWn (orWn W H o) (orHn W H o) (undoO o) = W ∧ orHn (orWn W H o) (orHn W H o) (undoO o) = H := by
 rcases h.cases with rfl | rfl | rfl | rfl | rfl | rfl | rfl | rfl <;> exact ⟨rfl, rfl⟩
def ptN (W H x y : Nat) : Pp := ⟨W, H, x, y⟩
theorem ptN_ok {W H x y : Nat} (h : 1 ≤ W ∧ W ≤ 16 ∧ 1 ≤ H ∧ H ≤ 16) (hx : x < W) (hy : y < H) : (ptN W H x y).ok := by
 unfold ptN Pp.ok; dsimp only; omega
theorem or_pt {W H x y : Nat} {o : Int} (h : 1 ≤ W ∧ W ≤ 16 ∧ 1 ≤ H ∧ H ≤ 16) (ho : orOk o) (hx : x < W) (hy : y < H) :
  ∃ a b : Nat, Pp.ori o (ptN W H x y) = ptN (orWn W H o) (orHn W H o) a b ∧ a < orWn W H o ∧ b < orHn W H o := by
 have hk := Pp.ori_ok o (ptN_ok h hx hy)
 have e1 := ori_w ho (ptN W H x y)
 have e2 := ori_h ho (ptN W H x y)
 rw [show (ptN W H x y).w = (W : Int) from rfl, show (ptN W H x y).h = (H : Int) from rfl, orW_nat] at e1
 rw [show (ptN W H x y).w = (W : Int) from rfl, show (ptN W H x y).h = (H : Int) from rfl, orH_nat] at e2
 rcases hq : Pp.ori o (ptN W H x y) with ⟨w', h', x', y'⟩
 rw [hq] at hk e1 e2
 unfold Pp.ok at hk
 dsimp only at hk e1 e2
 subst e1 e2
 refine ⟨x'.toNat, y'.toNat, ?_, by omega, by omega⟩
 unfold ptN
 rw [show ((x'.toNat : Nat) : Int) = x' by omega, show ((y'.toNat : Nat) : Int) = y' by omega]
def plcN (W H : Nat) (o : Int) (x y : Nat) : Nat := (Pp.ori o (ptN W H x y)).y.toNat * orWn W H o + (Pp.ori o (ptN W H x y)).x.toNat
def srcN (W H : Nat) (o : Int) (j : Nat) : Nat :=
 (Pp.ori (undoO o) (ptN (orWn W H o) (orHn W H o) (j % orWn W H o) (j / orWn W H o))).y.toNat * W + (Pp.ori (undoO o) (ptN (orWn W H o) (orHn W H o) (j % orWn W H o) (j / orWn W H o))).x.toNat
theorem plc_is {W H x y a b : Nat} {o : Int} (h : Pp.ori o (ptN W H x y) = ptN (orWn W H o) (orHn W H o) a b) : plcN W H o x y = b * orWn W H o + a := by
 unfold plcN; rw [h]; simp [ptN]
theorem idx_div {W x y : Nat} (hx : x < W) : (y * W + x) / W = y ∧ (y * W + x) % W = x := by
 constructor
 ·rw [Nat.add_comm, Nat.add_mul_div_right _ _ (by omega), Nat.div_eq_of_lt hx]; omega
 ·rw [Nat.add_comm, Nat.add_mul_mod_self_right, Nat.mod_eq_of_lt hx]
theorem src_is {W H j : Nat} {o : Int} (h : 1 ≤ W ∧ W ≤ 16 ∧ 1 ≤ H ∧ H ≤ 16) (ho : orOk o) (hj : j < W * H) :
  ∃ c d : Nat, Pp.ori (undoO o) (ptN (orWn W H o) (orHn W H o) (j % orWn W H o) (j / orWn W H o)) = ptN W H c d ∧ c < W ∧ d < H ∧ srcN W H o j = d * W + c := by
 have hs := or_small o h
 rw [← or_area W H o] at hj
 obtain ⟨c, d, e, hc, hd⟩ := or_pt (x := j % orWn W H o) (y := j / orWn W H o) hs (undoO_ok ho) (Nat.mod_lt _ (by omega)) (plc_row hj)
 rw [(orW_undo ho W H).1] at e hc
 rw [(orW_undo ho W H).2] at e hd
 refine ⟨c, d, e, hc, hd, ?_⟩
 unfold srcN; rw [e]; simp [ptN]
theorem pt_inj {W H x y a b : Nat} (h : ptN W H x y = ptN W H a b) : x = a ∧ y = b := by
 unfold ptN at h; injection h with _ _ h1 h2; omega
theorem src_iff {W H j x y : Nat} {o : Int} (h : 1 ≤ W ∧ W ≤ 16 ∧ 1 ≤ H ∧ H ≤ 16) (ho : orOk o) (hj : j < W * H) (hx : x < W) (hy : y < H) : srcN W H o j = y * W + x ↔ j = plcN W H o x y := by
 obtain ⟨c, d, e, hc, hd, hs⟩ := src_is h ho hj
 obtain ⟨a, b, e2, ha, hb⟩ := or_pt (x := x) (y := y) h ho hx hy
 rw [hs, plc_is e2]
 constructor
 ·intro h1
  have q1 := idx_div (y := d) hc
  have q2 := idx_div (y := y) hx
  rw [h1] at q1
  obtain rfl : d = y := q1.1.symm.trans q2.1
  obtain rfl : c = x := q1.2.symm.trans q2.2
  rw [← e, undo_undo ho] at e2
  obtain ⟨r1, r2⟩ := pt_inj e2
  rw [← r1, ← r2]
  exact (plc_eq j _).symm
 ·rintro rfl
  have q := idx_div (y := b) ha
  rw [q.1, q.2, ← e2, ori_undo ho] at e
  obtain ⟨r1, r2⟩ := pt_inj e
  rw [r1, r2]
theorem src_lt {W H j : Nat} {o : Int} (h : 1 ≤ W ∧ W ≤ 16 ∧ 1 ≤ H ∧ H ≤ 16) (ho : orOk o) (hj : j < W * H) : srcN W H o j < W * H := by
 obtain ⟨c, d, e, hc, hd, hs⟩ := src_is h ho hj
 rw [hs]; exact plc_lt hc hd
def orF (W H : Nat) (L : List Int) (o : Int) (k : Nat) : Nat → Int := fun j => if srcN W H o j < k then L.getD (srcN W H o j) 0 else 0
def orL (W H : Nat) (L : List Int) (o : Int) : List Int := tabI (W * H) (fun j => L.getD (srcN W H o j) 0)
theorem orF_end {W H : Nat} {L : List Int} {o : Int} (h : 1 ≤ W ∧ W ≤ 16 ∧ 1 ≤ H ∧ H ≤ 16) (ho : orOk o) : tabI (W * H) (orF W H L o (H * W)) = orL W H L o :=
 tabI_congr _ fun j hj => by unfold orF; rw [if_pos (by rw [Nat.mul_comm H W]; exact src_lt h ho hj)]
theorem orF_set {W H x y : Nat} {L : List Int} {o z : Int} (h : 1 ≤ W ∧ W ≤ 16 ∧ 1 ≤ H ∧ H ≤ 16) (ho : orOk o) (hx : x < W) (hy : y < H) (hz : L.getD (y * W + x) 0 = z) :
  (tabI (W * H) (orF W H L o (y * W + x))).set (plcN W H o x y) z = tabI (W * H) (orF W H L o (y * W + (x + 1))) := by
 rw [tabI_set]
 refine tabI_congr _ fun j hj => ?_
 have e := src_iff h ho hj hx hy
 unfold orF
 by_cases h1 : j = plcN W H o x y
 ·rw [if_pos h1, if_pos (by have := e.2 h1; omega), e.2 h1, hz]
 ·rw [if_neg h1]
  have h2 : srcN W H o j ≠ y * W + x := fun h => h1 (e.1 h)
  by_cases h3 : srcN W H o j < y * W + x
  ·rw [if_pos h3, if_pos (by omega)]
  ·rw [if_neg h3, if_neg (by omega)]
open Classical in
noncomputable def orIm (X Y : Int) (L : List Int) (o : Int) : Im := if imOk X Y L ∧ orOk o then ⟨orW X Y o, orH X Y o, orL X.toNat Y.toNat L o⟩ else zeroIm
theorem orIm_yes {W H : Nat} {L : List Int} {o : Int} (h1 : imOk W H L) (h2 : orOk o) : orIm W H L o = ⟨orWn W H o, orHn W H o, orL W H L o⟩ := by
 unfold orIm; rw [if_pos ⟨h1, h2⟩, orW_nat, orH_nat, Int.toNat_natCast, Int.toNat_natCast]
theorem orIm_no {X Y : Int} {L : List Int} {o : Int} (h : ¬ (imOk X Y L ∧ orOk o)) : orIm X Y L o = zeroIm := if_neg h
theorem orL_length (W H : Nat) (L : List Int) (o : Int) : (orL W H L o).length = W * H := tabI_length _ _
theorem orL_ok {W H : Nat} {L : List Int} {o : Int} (h : imOk W H L) (ho : orOk o) : imOk (orWn W H o) (orHn W H o) (orL W H L o) := by
 have h2 := h
 obtain ⟨W', H', e1, e2, wl, wh, hl, hh, hL⟩ := im_nat h2
 obtain rfl : W = W' := by exact_mod_cast e1
 obtain rfl : H = H' := by exact_mod_cast e2
 have hs := or_small o ⟨wl, wh, hl, hh⟩
 refine ⟨by unfold szOk; omega, ?_, fun k x hx => ?_⟩
 ·rw [orL_length, ← or_area W H o]; push_cast; rfl
 ·have hk : k < W * H := by have := (List.getElem?_eq_some_iff.1 hx).1; rwa [orL_length] at this
  unfold orL at hx
  rw [tabI_get _ _ k hk] at hx
  injection hx with hx
  have hs2 := src_lt (o := o) ⟨wl, wh, hl, hh⟩ ho hk
  rw [← hx, List.getD_eq_getElem?_getD, List.getElem?_eq_getElem (by omega)]
  exact h.2.2 _ _ (List.getElem?_eq_getElem (by omega))
structure OrA (w : World) (X Y : Int) (v : Value) (L : List Int) (W : World) : Prop where
 a : ImAt W w.heap.size 46 X Y v
 r : ImAt W (w.heap.size + 1) 46 0 0 (.slice none 0 0)
 rd : RdI W v L
 bw : Below w.heap.size w W
theorem OrA.call {w : World} {X Y : Int} {v : Value} {L : List Int} {W W' : World} (h : OrA w X Y v L W) (k : Below W.heap.size W W') : OrA w X Y v L W' := ⟨h.a.call k, h.r.call k, h.rd.call k, h.bw.trans (k.mono h.bw.size)⟩
end Go.Proofs.Ytdgagooldlnpeaa
namespace Go.Proofs.Ytdgagooldlnpeaa
open Go.RowKit
theorem own_at_put {w : World} {B gq n cap j : Nat} {e : TypeId} {L : List Int} (h : w.ownsRow B e 1 (.slice (some ⟨gq, 0, none⟩) n cap) n (intCells L)) (hj : j < n) (hl : L.length = n) : w.cell? ⟨gq, j, none⟩ = some (.int .i64 (L.getD j 0)) ∧ w.frozen? ⟨gq, j, none⟩ = false := by
 refine ⟨?_, h.frozenAt j⟩
 have h2 := h.cellAt j (by omega)
 rw [h2, intCells_get, List.getD_eq_getElem?_getD, List.getElem?_eq_getElem (by omega)]
 rfl
theorem grown_dr (w : World) (row : Option Nat) : w.grownBy w.drew row := ⟨rfl, rfl, rfl, Nat.le_refl _, fun _ _ _ => rfl⟩
end Go.Proofs.Ytdgagooldlnpeaa
namespace Go.Proofs.Ytdgagooldlnpeaa
open Go.RowKit
structure OrI (w : World) (W H gi n c P Q i j : Nat) (L : List Int) (bp gq : Nat) (V : World) : Prop where
 a : ImAt V w.heap.size 46 W H (.slice (some ⟨gi, 0, none⟩) n c)
 p : BkAt V bp 163 #[.int .i64 P, .int .i64 Q, .int .i64 i, .int .i64 j]
 rd : RdI V (.slice (some ⟨gi, 0, none⟩) n c) L
theorem OrI.drew {w : World} {W H gi n c P Q i j : Nat} {L : List Int} {bp gq : Nat} {V : World} (h : OrI w W H gi n c P Q i j L bp gq V) : OrI w W H gi n c P Q i j L bp gq V.drew := ⟨h.a, h.p, h.rd.drew⟩
theorem OrI.call {w : World} {W H gi n c P Q i j : Nat} {L : List Int} {bp gq : Nat} {V V' : World} (h : OrI w W H gi n c P Q i j L bp gq V) (hb : Below V.heap.size V V') : OrI w W H gi n c P Q i j L bp gq V' := ⟨h.a.call hb, h.p.call hb, h.rd.call hb⟩
theorem OrI.set {w : World} {W H gi n c P Q i j : Nat} {L : List Int} {bp gq : Nat} {V V' : World} (h : OrI w W H gi n c P Q i j L bp gq V) (hn : w.heap.size ≠ gq ∧ bp ≠ gq ∧ gi ≠ gq) (hg : V.grownBy V' (some gq)) : OrI w W H gi n c P Q i j L bp gq V' :=
 ⟨h.a.grown hg (fun e => hn.1 (Option.some.inj e)), h.p.grown hg (fun e => hn.2.1 (Option.some.inj e)), h.rd.grown hg (fun g hg e => hn.2.2 (by injection hg with hg; injection e with e; exact hg.trans e))⟩
set_option maxHeartbeats 2000000 in
set_option maxRecDepth 10000 in
theorem ordI_ok (W H : Nat) (v : Value) (L : List Int) (o : Int) (w : World) (h1 : imOk W H L) (ho : orOk o) (hv : RdI w v L) :
  Calls Try.prog 91 #[.agg #[.int .i64 W, .int .i64 H, v], .int .i64 o] w (AnsIm (orIm W H L o) w) := by
 have HA := Lib.hid (orIm_yes h1 ho)
 obtain ⟨W2, H2, e1, e2, wl, wh, hl, hh, hL⟩ := im_nat h1
 obtain rfl : W = W2 := by exact_mod_cast e1
 obtain rfl : H = H2 := by exact_mod_cast e2
 have hsm : 1 ≤ W ∧ W ≤ 16 ∧ 1 ≤ H ∧ H ≤ 16 := ⟨wl, wh, hl, hh⟩
 have hor := or_small o hsm
 have har := or_area W H o
 have SZ := fun W0 => osI W H o W0
 unfold TwoAns at SZ
 rw [os_yes (by unfold szOk; omega) ho, orW_nat, orH_nat] at SZ
 dsimp only at SZ
 obtain ⟨P, hP⟩ : ∃ P, P = orWn W H o := ⟨_, rfl⟩
 obtain ⟨Q, hQ⟩ : ∃ Q, Q = orHn W H o := ⟨_, rfl⟩
 obtain ⟨n, hn⟩ : ∃ n, n = W * H := ⟨_, rfl⟩
 rw [← hP, ← hQ] at hor har SZ
 rw [← hn] at har hL
 have n2 : n ≤ 256 := by rw [hn]; exact mul_256 wh hh
 have n1 : 1 ≤ n := by rw [hn]; exact Nat.mul_pos wl hl
 have e0 : (P : Int) * (Q : Int) = (n : Int) := by rw [← har]; simp
 obtain ⟨P1, P2, Q1, Q2⟩ := hor
 obtain ⟨A, c, rfl⟩ := hv.form
 rw [hL] at hv ⊢
 obtain ⟨gi, z0, hA, _, hc0⟩ := hv.at_ (k := 0) (by omega)
 have hgi : gi < w.heap.size := World.block_lt_of_cell? w _ hc0
 subst hA
 have hS : OrA w W H (.slice (some ⟨gi, 0, none⟩) n c) L ((w.alloc (.cells #[.int .i64 W, .int .i64 H, .slice (some ⟨gi, 0, none⟩) n c] 46)).alloc (.cells #[.int .i64 0, .int .i64 0, .slice none 0 0] 46)) :=
  ⟨(ImAt.new _ _ _ _ _).alloc _, ImAt.newAt (by simp) _ _ _ _, (hv.alloc _).alloc _, belI_call (belI_box _ _) (belI_box _ _)⟩
 have HZ := Lib.hid SZ
 have HP := Lib.hid hP
 have HQ := Lib.hid hQ
 have HL := Lib.hid hL
 have HM := Lib.hid hn
 have Ho := Lib.hid ho
 have Hi := Lib.hid h1
 have HG := Lib.hid hgi
 obtain ⟨o1, o2⟩ := ho
 clear SZ hP hQ hL hn h1 hv hc0 har hgi
 obtain ⟨a0, a1, a2⟩ := hS.a.cells
 go_enter Try.func91, Try.ntmps91
 go_wp2_with fail
 refine (imI W H _ L _ hS.rd).mono ?_
 rintro e w2 ⟨rfl, hb⟩
 replace hS := hS.call hb
 clear hb a0 a1 a2
 rw [imB_yes Hi.out]
 go_wp2_with fail
 refine (isOrI_yes o Ho.out _).mono ?_
 rintro e w' ⟨rfl, rfl⟩
 obtain ⟨a0, a1, a2⟩ := hS.a.cells
 go_wp2_with fail
 refine (HZ.out _).mono ?_
 rintro e w3 ⟨rfl, hb⟩
 replace hS := hS.call hb
 clear hb a0 a1 a2
 have hmk := fun W0 => run_make_row' (P := Try.prog) 39 3 (.int .i64 0) 8 Try.underlying39 infoInt rfl .i64 .i64 n (by omega) (by omega) W0
 obtain ⟨gq, hgq⟩ : ∃ g, g = w3.heap.size := ⟨_, rfl⟩
 have hown : (w3.alloc (.cells (madeCells #[.int .i64 0] n) 3)).ownsRow gq 3 1 (.slice (some ⟨gq, 0, none⟩) n n) n (intCells (tabI n (orF W H L o 0))) := by
  subst hgq
  exact own_of_rowIs (World.rowIs_made _ _ _ _) (Nat.le_refl _) (by unfold maxLen; omega) (tabI_length _ _) (fun j x hx => by
   have hj : j < n := by have := (List.getElem?_eq_some_iff.1 hx).1; rwa [tabI_length] at this
   rw [tabI_get n _ j hj] at hx
   injection hx with hx
   rw [← hx]; unfold orF; rw [if_neg (by omega)])
 obtain ⟨V0, hV0⟩ : ∃ V, V = w3.alloc (.cells (madeCells #[.int .i64 0] n) 3) := ⟨_, rfl⟩
 have hsz := hS.r.lt
 have HB := Lib.hid (show w.heap.size ≠ gq ∧ gq < V0.heap.size ∧ gi ≠ gq ∧ w.heap.size + 1 < gq from by have := HG.out; have h9 : V0.heap.size = w3.heap.size + 1 := (by rw [hV0]; simp); omega)
 have HV := Lib.hid hV0
 have Hq := Lib.hid hgq
 replace hS := hS.call (belI_box w3 (.cells (madeCells #[.int .i64 0] n) 3))
 rw [← hV0] at hown hS
 have Hown := Lib.hid hown
 have HS := Lib.hid hS
 have Hgr : Hid (V0.grownBy V0 (some gq)) := Lib.hid (World.grownBy.refl _ _)
 obtain ⟨a0, a1, a2⟩ := hS.a.cells
 rw [hV0] at a0 a1 a2
 clear hV0 hgq hown hS hsz
 go_wp2_with fail
 rw [← HV.out, ← Hq.out]
 clear hmk a0 a1 a2
 go_loopg [35] H (fun g8 s8 wr => ∃ (y : Nat) (V : World), V = wr ∧ y ≤ H ∧ g8 = H - y ∧ s8 = .int .i64 y ∧ Hid (V.ownsRow gq 3 1 (.slice (some ⟨gq, 0, none⟩) n n) n (intCells (tabI n (orF W H L o (y * W + 0))))) ∧ Hid (V0.grownBy V (some gq)))
 case atStart => exact ⟨0, _, rfl, Nat.zero_le _, by omega, rfl, by rw [Nat.zero_mul]; exact Hown, Hgr⟩
 case round =>
  clear Hown Hgr
  obtain ⟨y, wy, hV, hy2, rfl, rfl, Hown, Hgr⟩ := hrel
  subst hV
  obtain ⟨a0, a1, a2⟩ := (HS.out.a.grown Hgr.out (fun e => HB.out.1 (Option.some.inj e))).cells
  by_cases hyl : y < H
  ·have hyi : (y : Int) < (H : Int) := by omega
   go_wp2_with fail
   go_loopg [40] W (fun g9 s9 wz => ∃ (x : Nat) (V : World), V = wz ∧ x ≤ W ∧ g9 = W - x ∧ s9 = .int .i64 x ∧ Hid (V.ownsRow gq 3 1 (.slice (some ⟨gq, 0, none⟩) n n) n (intCells (tabI n (orF W H L o (y * W + x))))) ∧ Hid (V0.grownBy V (some gq)))
   case atStart => exact ⟨0, _, rfl, Nat.zero_le _, by omega, rfl, Hown, Hgr⟩
   case round =>
    clear Hown Hgr a0 a1 a2
    obtain ⟨x, wx, hV, hx2, rfl, rfl, Hown, Hgr⟩ := hrel
    subst hV
    obtain ⟨a0, a1, a2⟩ := (HS.out.a.grown Hgr.out (fun e => HB.out.1 (Option.some.inj e))).cells
    by_cases hxl : x < W
    ·have hxi : (x : Int) < (W : Int) := by omega
     obtain ⟨a, b, e, ha, hb⟩ := or_pt (x := x) (y := y) ⟨wl, wh, hl, hh⟩ Ho.out hxl hyl
     have R := fun W0 => orPt_any (ptN W H x y) o Ho.out (ptN_ok ⟨wl, wh, hl, hh⟩ hxl hyl) W0
     have hpl := plc_is e
     unfold PpAns at R
     rw [e, ← HP.out, ← HQ.out] at R
     dsimp only [ptN] at R
     rw [← HP.out] at ha
     rw [← HQ.out] at hb
     have HR := Lib.hid R
     have HE := Lib.hid hpl
     clear R e hpl
     go_wp2_with fail
     refine (HR.out _).mono ?_
     rintro e wu ⟨rfl, hbv⟩
     obtain ⟨bp, hbp⟩ : ∃ b, b = wu.heap.size := ⟨_, rfl⟩
     obtain ⟨wv, hwv⟩ : ∃ V, V = wu.alloc (.cells #[.int .i64 P, .int .i64 Q, .int .i64 a, .int .i64 b] 163) := ⟨_, rfl⟩
     have hpt : BkAt wv bp 163 #[.int .i64 P, .int .i64 Q, .int .i64 a, .int .i64 b] := by rw [hwv]; exact BkAt.newAt hbp.symm _ _
     have hbp2 : bp ≠ gq := by have := hbv.size; have := Hgr.out.size; have := HB.out.2.1; omega
     have hbw : Below wx.heap.size wx wv := by rw [hwv]; exact belI_call hbv (belI_box _ _)
     have hOw := ownI_call Hown.out hbw
     have Hgr2 := Lib.hid (grown_below Hgr.out hbw)
     obtain ⟨m, hm⟩ : ∃ m, m = y * W := ⟨_, rfl⟩
     obtain ⟨mb, hmb⟩ : ∃ m, m = b * P := ⟨_, rfl⟩
     have l1 : m + x < n := by rw [hm, HM.out]; exact plc_lt hxl hyl
     have l2 : mb + a < n := by rw [hmb, HM.out, ← or_area W H o, ← HP.out, ← HQ.out]; exact plc_lt ha hb
     have hrd := HS.out.rd.grown Hgr2.out (fun g hg e => HB.out.2.2.1 (by injection hg with hg; injection e with e; exact hg.trans e))
     obtain ⟨z, hz⟩ : ∃ z, L.getD (m + x) 0 = z := ⟨_, rfl⟩
     have HM3 := Lib.hid hz
     have HX : Hid (∀ (V : World), RdI V (.slice (some ⟨gi, 0, none⟩) n c) L → Calls Try.prog 134 #[.agg #[.int .i64 W, .int .i64 H, .slice (some ⟨gi, 0, none⟩) n c], .int .i64 (x : Int), .int .i64 (y : Int)] V fun e w' => e = .returned (.int .i64 z) ∧ Below V.heap.size V w') := Lib.hid (fun V h => by
      have h2 := pixelI W H x y _ L V Hi.out (by omega) (by omega) h
      rw [show ((y : Int) * (W : Int) + (x : Int)).toNat = m + x by rw [hm]; exact_mod_cast Int.toNat_natCast (y * W + x), hz] at h2
      exact h2)
     have HM2 : Hid ((m = y * W ∧ mb = b * P) ∧ plcN W H o x y = b * orWn W H o + a) := Lib.hid ⟨⟨hm, hmb⟩, HE.out⟩
     have q2 : IntKind.i64.wrap ((b : Int) * (P : Int)) = (mb : Int) := by rw [hmb, wrap_in _ (by omega) (by omega)]; simp
     have q4 := wrap_in ((mb : Int) + (a : Int)) (by omega) (by omega)
     have t2 : ((mb : Int) + (a : Int)).toNat = mb + a := by omega
     have u2 : (mb : Int) + (a : Int) < (n : Int) := by omega
     have v2 : (0 : Int) ≤ (mb : Int) + (a : Int) := by omega
     have hT : OrI w W H gi n c P Q a b L bp gq wv := ⟨HS.out.a.grown Hgr2.out (fun e => HB.out.1 (Option.some.inj e)), hpt, hrd⟩
     have hsep : w.heap.size ≠ gq ∧ bp ≠ gq ∧ gi ≠ gq := ⟨HB.out.1, hbp2, HB.out.2.2.1⟩
     clear hbv hm hmb hz a0 a1 a2 hpt hbp2 hbw hrd
     go_upto_region 12 with fail
     rw [← hwv, ← hbp]
     clear hwv hbp
     refine wp_region_held_drew (S := fun V => OrI w W H gi n c P Q a b L bp gq V) (by kernel_rfl) hT.drew (fun hS => ?_)
     replace hOw := show World.ownsRow wv.drew _ _ _ _ _ _ from hOw
     have hGr := show World.grownBy V0 wv.drew _ from Hgr2.out.trans (grown_dr _ _)
     refine tcH (i := 0) (v := .slice (some ⟨gq, 0, none⟩) n n) rfl (by intro w' hSw; (try dsimp only at hSw); (obtain ⟨a0, a1, a2⟩ := hSw.a.cells); (obtain ⟨p0, p1, p2, p3⟩ := hSw.p.cells4); go_simp) ?_
     refine tcH (i := 1) (v := .pointer (some ⟨bp, 3, none⟩)) rfl (by intro w' hSw; (try dsimp only at hSw); (obtain ⟨a0, a1, a2⟩ := hSw.a.cells); (obtain ⟨p0, p1, p2, p3⟩ := hSw.p.cells4); go_simp) ?_
     refine tcH (i := 2) (v := .int .i64 (b : Int)) rfl (by intro w' hSw; (try dsimp only at hSw); (obtain ⟨a0, a1, a2⟩ := hSw.a.cells); (obtain ⟨p0, p1, p2, p3⟩ := hSw.p.cells4); go_simp) ?_
     refine tcH (i := 3) (v := .int .i64 (P : Int)) rfl (by intro w' hSw; (try dsimp only at hSw); (obtain ⟨a0, a1, a2⟩ := hSw.a.cells); (obtain ⟨p0, p1, p2, p3⟩ := hSw.p.cells4); go_simp) ?_
     refine tcH (i := 4) (v := .int .i64 (mb : Int)) rfl (by intro w' hSw; (try dsimp only at hSw); (obtain ⟨a0, a1, a2⟩ := hSw.a.cells); (obtain ⟨p0, p1, p2, p3⟩ := hSw.p.cells4); go_simp) ?_
     refine tcH (i := 5) (v := .pointer (some ⟨bp, 2, none⟩)) rfl (by intro w' hSw; (try dsimp only at hSw); (obtain ⟨a0, a1, a2⟩ := hSw.a.cells); (obtain ⟨p0, p1, p2, p3⟩ := hSw.p.cells4); go_simp) ?_
     refine tcH (i := 6) (v := .int .i64 (a : Int)) rfl (by intro w' hSw; (try dsimp only at hSw); (obtain ⟨a0, a1, a2⟩ := hSw.a.cells); (obtain ⟨p0, p1, p2, p3⟩ := hSw.p.cells4); go_simp) ?_
     refine tcH (i := 7) (v := .int .i64 ((mb : Int) + (a : Int))) rfl (by intro w' hSw; (try dsimp only at hSw); (obtain ⟨a0, a1, a2⟩ := hSw.a.cells); (obtain ⟨p0, p1, p2, p3⟩ := hSw.p.cells4); go_simp) ?_
     refine tcH (i := 8) (v := .agg #[.int .i64 W, .int .i64 H, .slice (some ⟨gi, 0, none⟩) n c]) rfl (by intro w' hSw; (try dsimp only at hSw); (obtain ⟨a0, a1, a2⟩ := hSw.a.cells); (obtain ⟨p0, p1, p2, p3⟩ := hSw.p.cells4); go_simp) ?_
     refine tcH (i := 9) (v := .int .i64 (x : Int)) rfl (by intro w' hSw; (try dsimp only at hSw); (obtain ⟨a0, a1, a2⟩ := hSw.a.cells); (obtain ⟨p0, p1, p2, p3⟩ := hSw.p.cells4); go_simp) ?_
     refine tcH (i := 10) (v := .int .i64 (y : Int)) rfl (by intro w' hSw; (try dsimp only at hSw); (obtain ⟨a0, a1, a2⟩ := hSw.a.cells); (obtain ⟨p0, p1, p2, p3⟩ := hSw.p.cells4); go_simp) ?_
     (try simp only [Act.put]); (try simp only [zPa]); (try simp only [zPb, zPc])
     refine wpAnyH_ready (rs := [11]) (by kernel_rfl) (by simp) ?_
     refine (AllReadyH.cons rfl (fun K hK => ?_) AllReadyH.nil)
     ·rw [if_pos (by kernel_rfl)]
      (try simp only [zGa]); (try simp only [zGb]); (try simp only [zGc])
      go_simp
      with_reducible refine (HX.out _ hS.rd).mono ?_
      rintro e W' ⟨rfl, hb⟩
      dsimp only
      have cS := (own_at_put (ownI_call hOw hb) (j := mb + a) (by omega) (tabI_length _ _)).1
      have fS := (own_at_put (ownI_call hOw hb) (j := mb + a) (by omega) (tabI_length _ _)).2
      have hOw := ownI_call hOw hb
      have hGr := grown_below hGr hb
      refine hK.out _ _ (hS.call hb) (fun hS => ?_)
      clear hK
      (try simp only [Act.put]); (try simp only [zPa]); (try simp only [zPb, zPc])
      refine tcH (i := 12) (v := .pointer (some ⟨gq, mb + a, none⟩)) rfl (by intro w' hSw; (try dsimp only at hSw); (obtain ⟨a0, a1, a2⟩ := hSw.a.cells); (obtain ⟨p0, p1, p2, p3⟩ := hSw.p.cells4); go_simp) ?_
      (try simp only [Act.put]); (try simp only [zPa]); (try simp only [zPb, zPc])
      refine wpAnyH_ready (rs := [13]) (by kernel_rfl) (by simp) ?_
      refine (AllReadyH.cons rfl (fun K hK => ?_) AllReadyH.nil)
      ·rw [if_pos (by kernel_rfl)]
       (try simp only [zGa]); (try simp only [zGb]); (try simp only [zGc])
       go_simp
       skip
       skip
       refine hK.out _ _ (hS.set hsep (grown_setI _ gq (mb + a) _)) (fun hS => ?_)
       clear hK
       (try simp only [Act.put]); (try simp only [zPa]); (try simp only [zPb, zPc])
       refine wpAnyH_done (by kernel_rfl) ?_ _
       go_wp2_with fail
       go_roundg (W - (x + 1))
       case measure => omega
       case rel =>
        have h := (ownI_put hOw (mb + a) z).1
        have hset : (tabI n (orF W H L o (y * W + x))).set (mb + a) z = tabI n (orF W H L o (y * W + (x + 1))) := by
         rw [show mb + a = plcN W H o x y by rw [HM2.out.2, ← HP.out, HM2.out.1.2], HM.out]
         exact orF_set ⟨wl, wh, hl, hh⟩ Ho.out hxl hyl (by rw [← HM2.out.1.1]; exact HM3.out)
        rw [hset] at h
        exact ⟨x + 1, _, rfl, by omega, by omega, by go_num, Lib.hid h, Lib.hid (hGr.trans (grown_setI _ gq (mb + a) _))⟩
    ·obtain rfl : x = W := by omega
     go_wp2_with fail
     go_roundg (H - (y + 1))
     case measure => omega
     case rel => exact ⟨y + 1, _, rfl, by omega, by omega, by go_num, by rw [Nat.add_mul, Nat.one_mul]; exact Hown, Hgr⟩
  ·obtain rfl : y = H := by omega
   have hr := HS.out.r.grown Hgr.out (fun e => by have := HB.out.2.2.2; injection e with e; omega)
   have f0 := hr.frozen 0
   have f1 := hr.frozen 1
   have f2 := hr.frozen 2
   obtain ⟨r0, r1, r2⟩ := hr.cells
   have HJ := Lib.hid (hr.set3 P Q (.slice (some ⟨gq, 0, none⟩) n n))
   have HK := Lib.hid (HS.out.bw.grown Hgr.out HS.out.bw.size (fun k hk => by injection hk with hk; have := HB.out.2.2.2; omega))
   clear hr
   go_wp2_with fail
   obtain ⟨s0, s1, s2⟩ := HJ.out.cells
   exact bodyPost_ret (v := .agg #[.int .i64 P, .int .i64 Q, .slice (some ⟨gq, 0, none⟩) n n]) (by simp [results, Try.results91, go_sem, s0, s1, s2]) rfl (by
    rw [HA.out, ← HP.out, ← HQ.out]
    have h := Hown.out
    rw [Nat.add_zero, HM.out, orF_end ⟨wl, wh, hl, hh⟩ Ho.out, ← HM.out] at h
    exact ans_set h (by rw [orL_length, HM.out]) (by omega) HB.out.2.2.2 HK.out)
end Go.Proofs.Ytdgagooldlnpeaa
namespace Go.Proofs.Ytdgagooldlnpeaa
open Go.RowKit
theorem OrA.born (w : World) (X Y : Int) {v : Value} {L : List Int} (hv : RdI w v L) : OrA w X Y v L ((w.alloc (.cells #[.int .i64 X, .int .i64 Y, v] 46)).alloc (.cells #[.int .i64 0, .int .i64 0, .slice none 0 0] 46)) :=
 ⟨(ImAt.new _ _ _ _ _).alloc _, ImAt.newAt (by simp) _ _ _ _, (hv.alloc _).alloc _, belI_call (belI_box _ _) (belI_box _ _)⟩
theorem or_zero {w W : World} {X Y : Int} {v : Value} {L : List Int} (h : OrA w X Y v L W) : AnsIm zeroIm w (.returned (.agg #[.int .i64 0, .int .i64 0, .slice none 0 0])) (((W.setCell ⟨w.heap.size + 1, 0, none⟩ (.int .i64 0)).setCell ⟨w.heap.size + 1, 1, none⟩ (.int .i64 0)).setCell ⟨w.heap.size + 1, 2, none⟩ (.slice none 0 0)) :=
 zeroIm_ans (((h.bw.setCell (by simp) _).setCell (by simp) _).setCell (by simp) _)
set_option maxHeartbeats 600000 in
theorem ordI_bad1 (X Y : Int) (v : Value) (L : List Int) (o : Int) (w : World) (hv : RdI w v L) (h1 : ¬ imOk X Y L) :
  Calls Try.prog 91 #[.agg #[.int .i64 X, .int .i64 Y, v], .int .i64 o] w (AnsIm (orIm X Y L o) w) := by
 have HA := Lib.hid (orIm_no (o := o) fun h => h1 h.1)
 have hS := OrA.born w X Y hv
 have H1 := Lib.hid h1
 obtain ⟨A, c, rfl⟩ := hv.form
 clear hv h1
 obtain ⟨a0, a1, a2⟩ := hS.a.cells
 go_enter Try.func91, Try.ntmps91
 go_wp2_with fail
 refine (imI X Y _ L _ hS.rd).mono ?_
 rintro e w2 ⟨rfl, hb⟩
 replace hS := hS.call hb
 clear hb a0 a1 a2
 rw [imB_no H1.out]
 have hr := hS.r
 obtain ⟨r0, r1, r2⟩ := hr.cells
 have f0 := hr.frozen 0
 have f1 := hr.frozen 1
 have f2 := hr.frozen 2
 have HJ := Lib.hid (hr.set3 0 0 (.slice none 0 0))
 have HS := Lib.hid hS
 clear hr hS
 go_wp2_with fail
 obtain ⟨s0, s1, s2⟩ := HJ.out.cells
 exact bodyPost_ret (v := .agg #[.int .i64 0, .int .i64 0, .slice none 0 0]) (by simp [results, Try.results91, go_sem, s0, s1, s2]) rfl (by rw [HA.out]; exact or_zero HS.out)
set_option maxHeartbeats 600000 in
theorem ordI_bad2 (X Y : Int) (v : Value) (L : List Int) (o : Int) (w : World) (hv : RdI w v L) (h1 : imOk X Y L) (ho : ¬ orOk o) :
  Calls Try.prog 91 #[.agg #[.int .i64 X, .int .i64 Y, v], .int .i64 o] w (AnsIm (orIm X Y L o) w) := by
 have HA := Lib.hid (orIm_no (X := X) (Y := Y) (L := L) fun h => ho h.2)
 have hS := OrA.born w X Y hv
 have H1 := Lib.hid h1
 have Ho := Lib.hid ho
 have H7 := Lib.hid (or_no ho)
 obtain ⟨A, c, rfl⟩ := hv.form
 clear hv h1 ho
 obtain ⟨a0, a1, a2⟩ := hS.a.cells
 go_enter Try.func91, Try.ntmps91
 go_wp2_with fail
 refine (imI X Y _ L _ hS.rd).mono ?_
 rintro e w2 ⟨rfl, hb⟩
 replace hS := hS.call hb
 clear hb a0 a1 a2
 rw [imB_yes H1.out]
 go_wp2_with fail
 refine (isOrI_no o Ho.out _).mono ?_
 rintro e w' ⟨rfl, rfl⟩
 have hr := hS.r
 obtain ⟨r0, r1, r2⟩ := hr.cells
 have f0 := hr.frozen 0
 have f1 := hr.frozen 1
 have f2 := hr.frozen 2
 have HJ := Lib.hid (hr.set3 0 0 (.slice none 0 0))
 have HS := Lib.hid hS
 clear hr hS
 go_wp2_with fail
 obtain ⟨s0, s1, s2⟩ := HJ.out.cells
 exact bodyPost_ret (v := .agg #[.int .i64 0, .int .i64 0, .slice none 0 0]) (by simp [results, Try.results91, go_sem, s0, s1, s2]) rfl (by rw [HA.out]; exact or_zero HS.out)
theorem ordI_any (X Y : Int) (v : Value) (L : List Int) (o : Int) (w : World) (hv : RdI w v L) :
  Calls Try.prog 91 #[.agg #[.int .i64 X, .int .i64 Y, v], .int .i64 o] w (AnsIm (orIm X Y L o) w) := by
 by_cases h1 : imOk X Y L
 ·by_cases ho : orOk o
  ·obtain ⟨W, H, rfl, rfl, _⟩ := im_nat h1
   exact ordI_ok W H v L o w h1 ho hv
  ·exact ordI_bad2 X Y v L o w hv h1 ho
 ·exact ordI_bad1 X Y v L o w hv h1
end Go.Proofs.Ytdgagooldlnpeaa
namespace Go.Proofs.Ytdgagooldlnpeaa
open Go.RowKit
theorem tabI_succ (n : Nat) (f : Nat → Int) : tabI (n + 1) f = tabI n f ++ [f n] := by simp [tabI, List.range_succ]
def rsF (S : Nat → Nat → Nat → Nat) (W H w h : Nat) (L : List Int) : Nat → Int := fun j => L.getD (S H h (j / w) * W + S W w (j % w)) 0
open Classical in
noncomputable def rsIm (S : Nat → Nat → Nat → Nat) (X Y : Int) (L : List Int) (w h : Int) : Im := if imOk X Y L ∧ szOk w h then ⟨w, h, tabI (w.toNat * h.toNat) (rsF S X.toNat Y.toNat w.toNat h.toNat L)⟩ else zeroIm
theorem rs_yes (S : Nat → Nat → Nat → Nat) {W H w h : Nat} {L : List Int} (h1 : imOk W H L) (h2 : szOk w h) : rsIm S W H L w h = ⟨w, h, tabI (w * h) (rsF S W H w h L)⟩ := by
 unfold rsIm; rw [if_pos ⟨h1, h2⟩, Int.toNat_natCast, Int.toNat_natCast, Int.toNat_natCast, Int.toNat_natCast]
theorem rs_no (S : Nat → Nat → Nat → Nat) {X Y w h : Int} {L : List Int} (h0 : ¬ (imOk X Y L ∧ szOk w h)) : rsIm S X Y L w h = zeroIm := if_neg h0
theorem sz_nat {P Q : Int} (h : szOk P Q) : ∃ p q : Nat, P = p ∧ Q = q ∧ 1 ≤ p ∧ p ≤ 16 ∧ 1 ≤ q ∧ q ≤ 16 := by
 unfold szOk at h
 exact ⟨P.toNat, Q.toNat, by omega, by omega, by omega, by omega, by omega, by omega⟩
theorem rsF_at (S : Nat → Nat → Nat → Nat) (W H w h : Nat) (L : List Int) {x : Nat} (y : Nat) (hx : x < w) : rsF S W H w h L (y * w + x) = L.getD (S H h y * W + S W w x) 0 := by
 unfold rsF; rw [(idx_div hx).1, (idx_div hx).2]
def PlOk (S : Nat → Nat → Nat → Nat) : Prop := ∀ f t k : Nat, 1 ≤ f → k < t → S f t k < f
theorem scl_ok : PlOk sclN := fun _ _ _ h1 h2 => sclN_lt h1 h2
theorem rs_src {S : Nat → Nat → Nat → Nat} (hS : PlOk S) {W H w h x y : Nat} {L : List Int} (hL : L.length = W * H) (hW : 1 ≤ W) (hH : 1 ≤ H) (hx : x < w) (hy : y < h) :
  ∃ a b z, S W w x = a ∧ S H h y = b ∧ a < W ∧ b < H ∧ b * W + a < L.length ∧ L[b * W + a]? = some z ∧ rsF S W H w h L (y * w + x) = z := by
 have ha := hS W w x hW hx
 have hb := hS H h y hH hy
 have hk : S H h y * W + S W w x < L.length := by rw [hL]; exact plc_lt ha hb
 refine ⟨_, _, _, rfl, rfl, ha, hb, hk, List.getElem?_eq_getElem hk, ?_⟩
 rw [rsF_at S W H w h L y hx, List.getD_eq_getElem?_getD, List.getElem?_eq_getElem hk]; rfl
theorem RdI.cell {w : World} {g n c k : Nat} {L : List Int} {x : Int} (h : RdI w (.slice (some ⟨g, 0, none⟩) n c) L) (hx : L[k]? = some x) : w.cell? ⟨g, k, none⟩ = some (.int .i64 x) := by
 have hk : k < L.length := (List.getElem?_eq_some_iff.1 hx).1
 rcases h with ⟨_, rfl⟩ | ⟨g', c', he, hm, hlc, hc⟩
 ·simp at hk
 ·injection he with e1 e2 e3
  injection e1 with e1
  injection e1 with e1
  subst e1
  exact hc k x hx
theorem RdI.one {w : World} {g : Nat} {t : TypeId} {z : Int} (h : w.heap[g]? = some (.cells #[.int .i64 z] t (0, 0))) : RdI w (.slice (some ⟨g, 0, none⟩) 1 1) [z] := by
 refine .inr ⟨g, 1, rfl, by unfold maxLen; simp, by simp, fun k x hx => ?_⟩
 cases k with
 | zero => injection hx with hx; subst hx; simp [World.cell?, h]
 | succ k => simp at hx
theorem run_build1I (z : Int) (w : World) : (Instr.buildSlice 39 1 #[(0, .int .i64 z)]).run Try.prog w = .ok (.slice (some ⟨w.heap.size, 0, none⟩) 1 1) (w.alloc (.cells #[.int .i64 z] 3)) := by
 kernel_rfl
theorem wp_build1I {op : Oper} {a : Act} {w : World} {K : Act → World → Prop} {Q : Exit → Act → World → Prop} (d : Nat) (x : Operand) (z : Int) (ho : op.op = .buildSlice 39 1 #[(0, x)]) (hx : a.eval x = .int .i64 z) (hd : op.dst = some d)
  (h : ∀ g W', Below w.heap.size w W' → RdI W' (.slice (some ⟨g, 0, none⟩) 1 1) [z] → K (a.put (some d) (.slice (some ⟨g, 0, none⟩) 1 1)) W') : op.wp Try.prog a w K Q := by
 have h1 := h w.heap.size (w.alloc (.cells #[.int .i64 z] 3)) (belI_box _ _) (RdI.one (heap_alloc_new w _))
 have hz := run_build1I z w
 unfold Oper.wp execOp
 simp only [ho, List.map_toArray, List.map_cons, List.map_nil, hx, Sem.run_bind, hz, Result.andThen_ok, Sem.run_pure]
 rw [← hd] at h1
 exact h1
theorem wp_append1I {o : Oper} {a : Act} {w : World} {K : Act → World → Prop} {Q : Exit → Act → World → Prop} (s x : Operand)
  (ho : o.op = .call { callee := .builtin .append, args := #[s, x], argTypes := #[39, 39] })
  (base : Nat) (v : Value) (n : Nat) (M : List Int) (hs : a.eval s = v) (hown : w.ownsRow base 3 1 v n (intCells M)) (g : Nat) (z : Int)
  (hx : a.eval x = .slice (some ⟨g, 0, none⟩) 1 1) (hu : RdI w (.slice (some ⟨g, 0, none⟩) 1 1) [z]) (h63 : n ≤ 1000000) (hbase : base ≤ w.heap.size)
  (h : ∀ g' c' w', w'.ownsRow base 3 1 (.slice (some ⟨g', 0, none⟩) (n + 1) c') (n + 1) (intCells (M ++ [z])) → w.grownBy w' v.ownBlock → K (a.put o.dst (.slice (some ⟨g', 0, none⟩) (n + 1) c')) w') : o.wp Try.prog a w K Q := by
 refine wp_appendI s x ho base v n (intCells M) hs hown (.slice (some ⟨g, 0, none⟩) 1 1) [z] hx hu (by simp; omega) hbase (fun v' w' h1 h2 _ => ?_)
 rw [← intCells_append, show n + [z].length = n + 1 from rfl] at h1
 obtain ⟨g', c', rfl, _, _⟩ := h1.form (by omega)
 exact h g' c' w' h1 h2
theorem OrA.own {w : World} {X Y : Int} {v : Value} {L : List Int} {W W' : World} {row : Option Nat} (h : OrA w X Y v L W) (hv : ∀ g, v.ownBlock = some g → g < w.heap.size) (hg : W.grownBy W' row) (hk : ∀ k, row = some k → w.heap.size + 2 ≤ k) : OrA w X Y v L W' :=
 ⟨h.a.grown hg (fun e => by have := hk _ e.symm; omega), h.r.grown hg (fun e => by have := hk _ e.symm; omega), h.rd.grown hg (fun g hg2 e => by have := hk _ e.symm; have := hv _ hg2; omega), h.bw.grown hg h.bw.size (fun k e => by have := hk _ e; omega)⟩
structure RsI (w : World) (X Y : Int) (v : Value) (L : List Int) (u : Value) (q : Nat) (M : List Int) (V : World) : Prop where
 o : OrA w X Y v L V
 own : V.ownsRow (w.heap.size + 2) 3 1 u q (intCells M)
theorem RsI.start {w : World} {X Y : Int} {v : Value} {L : List Int} {u : Value} {V V' : World} (h : OrA w X Y v L V) (hv : ∀ g, v.ownBlock = some g → g < w.heap.size) (ho : V'.ownsRow (w.heap.size + 2) 3 1 u 0 []) (hg : V.grownBy V' none) : RsI w X Y v L u 0 [] V' :=
 ⟨h.own hv hg (fun k hk => by cases hk), ho⟩
end Go.Proofs.Ytdgagooldlnpeaa
namespace Go.Proofs.Ytdgagooldlnpeaa
open Go.RowKit
set_option maxHeartbeats 2000000 in
set_option maxRecDepth 10000 in
theorem rsI_ok (fid : Nat) (S : Nat → Nat → Nat → Nat) (HE : ∀ args w, (callFunc fid args).run Try.prog w = .ok (.enter fid args) w)
  (HK : ∀ (f t k : Nat) V, 1 ≤ f ∧ f ≤ 16 → 1 ≤ t ∧ t ≤ 16 → k < t → Calls Try.prog fid #[.int .i64 f, .int .i64 t, .int .i64 k] V fun e w' => e = .returned (.int .i64 (S f t k : Nat)) ∧ V = w') (hPl : PlOk S) (W H P Q : Nat) (v : Value) (L : List Int) (w : World) (h1 : imOk W H L) (h2 : szOk P Q) (hv : RdI w v L) :
  Calls Try.prog 137 #[.agg #[.int .i64 W, .int .i64 H, v], .int .i64 P, .int .i64 Q, .func (.func fid) #[] #[]] w (AnsIm (rsIm S W H L P Q) w) := by
 obtain ⟨i0, hi, hz0, hz1, hz2⟩ := info_parts infoInt
 have HK := Lib.hid HK
 have HA := Lib.hid (rs_yes S h1 h2)
 obtain ⟨W2, H2, e1, e2, wl, wh, hl, hh, hL⟩ := im_nat h1
 obtain rfl : W = W2 := by exact_mod_cast e1
 obtain rfl : H = H2 := by exact_mod_cast e2
 clear e1 e2
 obtain ⟨P1, P2, Q1, Q2⟩ : 1 ≤ P ∧ P ≤ 16 ∧ 1 ≤ Q ∧ Q ≤ 16 := by unfold szOk at h2; omega
 obtain ⟨gi, c, rfl, hgi, hcu⟩ := rd_block hv (by rw [hL]; exact Nat.mul_pos wl hl)
 have hgu2 : ∀ g, (Value.slice (some ⟨gi, 0, none⟩) L.length c).ownBlock = some g → g < w.heap.size := fun g hg => (Option.some.inj hg) ▸ hgi
 have hS := OrA.born w W H hv
 have HL := Lib.hid hL
 have Hi := Lib.hid h1
 have H2 := Lib.hid h2
 have hL256 : L.length ≤ 256 := by rw [hL]; exact mul_256 wh hh
 obtain ⟨N, hN⟩ : ∃ N, N = P * Q := ⟨_, rfl⟩
 have e1 : (P : Int) * (Q : Int) = (N : Int) := by rw [hN]; simp
 have hN256 : N ≤ 256 := by rw [hN]; exact mul_256 P2 Q2
 have HN := Lib.hid hN
 obtain ⟨F, hF⟩ : ∃ F, F = rsF S W H P Q L := ⟨_, rfl⟩
 have HF := Lib.hid hF
 clear hL h1 h2 hv hN hF
 obtain ⟨a0, a1, a2⟩ := hS.a.cells
 go_enter Try.func137, Try.ntmps137
 go_wp2_with fail
 refine (imI W H _ L _ hS.rd).mono ?_
 rintro e w2 ⟨rfl, hb⟩
 replace hS := hS.call hb
 clear hb a0 a1 a2
 rw [imB_yes Hi.out]
 go_wp2_with fail
 refine (szI_yes P Q H2.out _).mono ?_
 rintro e w' ⟨rfl, rfl⟩
 have hsz := hS.r.lt
 go_wp2_with (at_make; refine wpList_make_own _ rfl _ _ 39 rfl (w.heap.size + 2) 3 i0 (.int .i64 0) 1 Try.underlying39 hi hz0 hz1 .i64 .i64 _ N rfl rfl (by first | rfl | exact e1 | simp) (by rw [hz2]; omega) (by unfold maxLen; omega) (by omega) ?_; intro w1 hown1 hgr1; have HS := Lib.hid (RsI.start hS hgu2 hown1 hgr1); clear hown1 hgr1 hS hsz)
 go_loopg [9, 27] Q (fun gk s9 s27 wr => ∃ (y q cv : Nat) (Av : Option Addr) (V : World), V = wr ∧ y ≤ Q ∧ gk = Q - y ∧ s9 = .slice Av q cv ∧ s27 = .int .i64 y ∧ Hid (q = y * P + 0) ∧ q ≤ 256 ∧ Hid (RsI w W H (.slice (some ⟨gi, 0, none⟩) L.length c) L (.slice Av q cv) q (tabI q F) V))
 case atStart => exact ⟨0, 0, _, _, _, rfl, by omega, by omega, rfl, rfl, Lib.hid (by simp), by omega, HS⟩
 case round =>
  clear HS
  obtain ⟨y, q, cv, Av, wy, hV, hy2, rfl, rfl, rfl, Hq, hq, HS⟩ := hrel
  subst hV
  by_cases hyl : y < Q
  ·have hyi : (y : Int) < (Q : Int) := by omega
   go_wp2_with fail
   go_loopg [9, 31] P (fun g9 s9 s31 wz => ∃ (x q cv : Nat) (Av : Option Addr) (V : World), V = wz ∧ x ≤ P ∧ g9 = P - x ∧ s9 = .slice Av q cv ∧ s31 = .int .i64 x ∧ Hid (q = y * P + x) ∧ q ≤ 256 ∧ Hid (RsI w W H (.slice (some ⟨gi, 0, none⟩) L.length c) L (.slice Av q cv) q (tabI q F) V))
   case atStart => exact ⟨0, q, cv, Av, _, rfl, by omega, by omega, rfl, rfl, Hq, hq, HS⟩
   case round =>
    clear HS Hq hq
    obtain ⟨x, q, cv, Av, wx, hV, hx2, rfl, rfl, rfl, Hq, hq, HS⟩ := hrel
    subst hV
    by_cases hxl : x < P
    ·have hxi : (x : Int) < (P : Int) := by omega
     obtain ⟨a, b, z, ha, hb, ha2, hb2, hk, hz, hF⟩ := rs_src hPl HL.out wl hl hxl hyl
     have HCa : Hid (∀ V, Calls Try.prog fid #[.int .i64 W, .int .i64 P, .int .i64 x] V fun e w' => e = .returned (.int .i64 (a : Nat)) ∧ V = w') := Lib.hid (fun V => by have h := HK.out W P x V ⟨wl, wh⟩ ⟨P1, P2⟩ hxl; rw [ha] at h; exact h)
     have HCb : Hid (∀ V, Calls Try.prog fid #[.int .i64 H, .int .i64 Q, .int .i64 y] V fun e w' => e = .returned (.int .i64 (b : Nat)) ∧ V = w') := Lib.hid (fun V => by have h := HK.out H Q y V ⟨hl, hh⟩ ⟨Q1, Q2⟩ hyl; rw [hb] at h; exact h)
     have HX : Hid (∀ (V : World), RdI V (.slice (some ⟨gi, 0, none⟩) L.length c) L → Calls Try.prog 134 #[.agg #[.int .i64 (W : Int), .int .i64 (H : Int), .slice (some ⟨gi, 0, none⟩) L.length c], .int .i64 (a : Int), .int .i64 (b : Int)] V fun e w' => e = .returned (.int .i64 z) ∧ Below V.heap.size V w') := Lib.hid (fun V h => by
      have h2 := pixelI W H a b _ L V Hi.out (by omega) (by omega) h
      rw [show ((b : Int) * (W : Int) + (a : Int)).toNat = b * W + a by exact_mod_cast Int.toNat_natCast (b * W + a), List.getD_eq_getElem?_getD, hz] at h2
      exact h2)
     have HM : Hid (F (y * P + x) = z) := Lib.hid (by rw [HF.out]; exact hF)
     have hq1 : q + 1 ≤ 256 := by have h5 := plc_lt hxl hyl; rw [← HN.out, ← Hq.out] at h5; omega
     clear ha hb ha2 hb2 hk hz hF
     obtain ⟨a0, a1, a2⟩ := HS.out.o.a.cells
     go_upto_region 10 with fail
     clear a0 a1 a2
     refine wp_region_held_drew (S := fun V => OrA w W H (.slice (some ⟨gi, 0, none⟩) L.length c) L V) (by kernel_rfl) (HS.out.o.call (Below.refl _ _).drew) (fun hS => ?_)
     have hOw := show World.ownsRow wx.drew _ _ _ _ _ _ from HS.out.own
     refine tcH (i := 0) (v := .slice Av q cv) rfl (by intro w' hSw; (try dsimp only at hSw); (obtain ⟨a0, a1, a2⟩ := hSw.a.cells); go_simp) ?_
     refine tcH (i := 1) (v := .agg #[.int .i64 (W : Int), .int .i64 (H : Int), .slice (some ⟨gi, 0, none⟩) L.length c]) rfl (by intro w' hSw; (try dsimp only at hSw); (obtain ⟨a0, a1, a2⟩ := hSw.a.cells); go_simp) ?_
     refine tcH (i := 2) (v := .func (.func fid) #[] #[]) rfl (by intro w' hSw; (try dsimp only at hSw); (obtain ⟨a0, a1, a2⟩ := hSw.a.cells); go_simp) ?_
     refine tcH (i := 3) (v := .pointer (some ⟨w.heap.size, 0, none⟩)) rfl (by intro w' hSw; (try dsimp only at hSw); (obtain ⟨a0, a1, a2⟩ := hSw.a.cells); go_simp) ?_
     refine tcH (i := 4) (v := .int .i64 (W : Int)) rfl (by intro w' hSw; (try dsimp only at hSw); (obtain ⟨a0, a1, a2⟩ := hSw.a.cells); go_simp) ?_
     refine tcH (i := 5) (v := .int .i64 (P : Int)) rfl (by intro w' hSw; (try dsimp only at hSw); (obtain ⟨a0, a1, a2⟩ := hSw.a.cells); go_simp) ?_
     refine tcH (i := 6) (v := .int .i64 (x : Int)) rfl (by intro w' hSw; (try dsimp only at hSw); (obtain ⟨a0, a1, a2⟩ := hSw.a.cells); go_simp) ?_
     refine tcH (i := 8) (v := .func (.func fid) #[] #[]) rfl (by intro w' hSw; (try dsimp only at hSw); (obtain ⟨a0, a1, a2⟩ := hSw.a.cells); go_simp) ?_
     refine tcH (i := 9) (v := .pointer (some ⟨w.heap.size, 1, none⟩)) rfl (by intro w' hSw; (try dsimp only at hSw); (obtain ⟨a0, a1, a2⟩ := hSw.a.cells); go_simp) ?_
     refine tcH (i := 10) (v := .int .i64 (H : Int)) rfl (by intro w' hSw; (try dsimp only at hSw); (obtain ⟨a0, a1, a2⟩ := hSw.a.cells); go_simp) ?_
     refine tcH (i := 11) (v := .int .i64 (Q : Int)) rfl (by intro w' hSw; (try dsimp only at hSw); (obtain ⟨a0, a1, a2⟩ := hSw.a.cells); go_simp) ?_
     refine tcH (i := 12) (v := .int .i64 (y : Int)) rfl (by intro w' hSw; (try dsimp only at hSw); (obtain ⟨a0, a1, a2⟩ := hSw.a.cells); go_simp) ?_
     (try simp only [Act.put]); (try simp only [zPa]); (try simp only [zPb, zPc])
     refine wpAnyH_ready (rs := [7]) (by kernel_rfl) (by simp) ?_
     refine (AllReadyH.cons rfl (fun K hK => ?_) AllReadyH.nil)
     ·rw [if_pos (by kernel_rfl)]
      (try simp only [zGa]); (try simp only [zGb]); (try simp only [zGc])
      go_simp
      with_reducible refine (HCa.out _).mono ?_
      rintro e W' ⟨rfl, rfl⟩
      dsimp only
      skip
      refine hK.out _ _ (hS) (fun hS => ?_)
      clear hK
      (try simp only [Act.put]); (try simp only [zPa]); (try simp only [zPb, zPc])
      refine wpAnyH_ready (rs := [13]) (by kernel_rfl) (by simp) ?_
      refine (AllReadyH.cons rfl (fun K hK => ?_) AllReadyH.nil)
      ·rw [if_pos (by kernel_rfl)]
       (try simp only [zGa]); (try simp only [zGb]); (try simp only [zGc])
       go_simp
       with_reducible refine (HCb.out _).mono ?_
       rintro e W' ⟨rfl, rfl⟩
       dsimp only
       skip
       refine hK.out _ _ (hS) (fun hS => ?_)
       clear hK
       (try simp only [Act.put]); (try simp only [zPa]); (try simp only [zPb, zPc])
       refine wpAnyH_ready (rs := [14]) (by kernel_rfl) (by simp) ?_
       refine (AllReadyH.cons rfl (fun K hK => ?_) AllReadyH.nil)
       ·rw [if_pos (by kernel_rfl)]
        (try simp only [zGa]); (try simp only [zGb]); (try simp only [zGc])
        go_simp
        with_reducible refine (HX.out _ hS.rd).mono ?_
        rintro e W' ⟨rfl, hb⟩
        dsimp only
        have hOw := ownI_call hOw hb
        refine hK.out _ _ (hS.call hb) (fun hS => ?_)
        clear hK
        (try simp only [Act.put]); (try simp only [zPa]); (try simp only [zPb, zPc])
        refine wpAnyH_ready (rs := [15]) (by kernel_rfl) (by simp) ?_
        refine (AllReadyH.cons rfl (fun K hK => ?_) AllReadyH.nil)
        ·rw [if_pos (by kernel_rfl)]
         (try simp only [zGa]); (try simp only [zGb]); (try simp only [zGc])
         refine wp_build1I 49 (.tmp 48) z rfl (by first | with_reducible rfl | (go_simp; done) | rfl) rfl ?_
         intro g5 W' hb hR5
         have hOw := ownI_call hOw hb
         refine hK.out _ _ (hS.call hb) (fun hS => ?_)
         clear hK
         (try simp only [Act.put]); (try simp only [zPa]); (try simp only [zPb, zPc])
         refine wpAnyH_ready (rs := [16]) (by kernel_rfl) (by simp) ?_
         refine (AllReadyH.cons rfl (fun K hK => ?_) AllReadyH.nil)
         ·rw [if_pos (by kernel_rfl)]
          (try simp only [zGa]); (try simp only [zGb]); (try simp only [zGc])
          have hlt := fun g hg => (hOw.lt g hg).1
          have hsz := hS.r.lt
          refine wp_append1I (.tmp 34) (.tmp 49) rfl (w.heap.size + 2) (.slice Av q cv) q (tabI q F) (by first | with_reducible rfl | (go_simp; done) | rfl) hOw g5 z (by first | with_reducible rfl | (go_simp; done) | rfl) hR5 (by omega) (by omega) ?_
          intro g7 c7 w7 hown7 hgr7
          skip
          skip
          refine hK.out _ _ (hS.own hgu2 hgr7 (fun k e => hlt _ e)) (fun hS => ?_)
          clear hK
          (try simp only [Act.put]); (try simp only [zPa]); (try simp only [zPb, zPc])
          refine tcH (i := 17) (v := .slice (some ⟨g7, 0, none⟩) (q + 1) c7) rfl (by intro w' hSw; (try dsimp only at hSw); (obtain ⟨a0, a1, a2⟩ := hSw.a.cells); go_simp) ?_
          refine wpAnyH_done (by kernel_rfl) ?_ _
          go_wp2_with fail
          go_roundg (P - (x + 1))
          case measure => omega
          case rel =>
           refine ⟨x + 1, q + 1, c7, some ⟨g7, 0, none⟩, _, rfl, by omega, by omega, rfl, by go_num, Lib.hid (by rw [Hq.out]; omega), hq1, Lib.hid ⟨hS, ?_⟩⟩
           rw [tabI_succ, show F q = z by rw [Hq.out]; exact HM.out]
           exact hown7
    ·obtain rfl : x = P := by omega
     go_wp2_with fail
     go_roundg (Q - (y + 1))
     case measure => omega
     case rel => exact ⟨y + 1, q, cv, Av, _, rfl, by omega, by omega, rfl, by go_num, Lib.hid (by rw [Hq.out, Nat.add_mul, Nat.one_mul]; rfl), hq, HS⟩
  ·obtain rfl : y = Q := by omega
   have hr := HS.out.o.r
   obtain ⟨r0, r1, r2⟩ := hr.cells
   have f0 := hr.frozen 0
   have f1 := hr.frozen 1
   have f2 := hr.frozen 2
   have HJ := Lib.hid (hr.set3 P y (.slice Av q cv))
   clear hr
   go_wp2_with fail
   obtain ⟨s0, s1, s2⟩ := HJ.out.cells
   exact bodyPost_ret (v := .agg #[.int .i64 P, .int .i64 y, .slice Av q cv]) (by simp [results, Try.results137, go_sem, s0, s1, s2]) rfl (by
    rw [HA.out, ← HF.out, show P * y = q by rw [Hq.out, Nat.mul_comm]; rfl]
    exact ans_set HS.out.own (tabI_length _ _) (by omega) (Nat.lt_succ_self _) HS.out.o.bw)
set_option maxHeartbeats 600000 in
theorem rsI_bad1 (fid : Nat) (S : Nat → Nat → Nat → Nat) (X Y P Q : Int) (v : Value) (L : List Int) (w : World) (hv : RdI w v L) (h1 : ¬ imOk X Y L) :
  Calls Try.prog 137 #[.agg #[.int .i64 X, .int .i64 Y, v], .int .i64 P, .int .i64 Q, .func (.func fid) #[] #[]] w (AnsIm (rsIm S X Y L P Q) w) := by
 have HA := Lib.hid (rs_no S (X := X) (Y := Y) (L := L) (w := P) (h := Q) (fun h => h1 h.1))
 have hS := OrA.born w X Y hv
 have H1 := Lib.hid h1
 clear h1
 obtain ⟨A, c, rfl⟩ := hv.form
 obtain ⟨a0, a1, a2⟩ := hS.a.cells
 go_enter Try.func137, Try.ntmps137
 go_wp2_with fail
 refine (imI X Y _ L _ hS.rd).mono ?_
 rintro e w2 ⟨rfl, hb⟩
 replace hS := hS.call hb
 clear hb a0 a1 a2
 rw [imB_no H1.out]
 have hr := hS.r
 obtain ⟨r0, r1, r2⟩ := hr.cells
 have f0 := hr.frozen 0
 have f1 := hr.frozen 1
 have f2 := hr.frozen 2
 have HJ := Lib.hid (hr.set3 0 0 (.slice none 0 0))
 have HS := Lib.hid hS
 clear hr hS
 go_wp2_with fail
 obtain ⟨s0, s1, s2⟩ := HJ.out.cells
 exact bodyPost_ret (v := .agg #[.int .i64 0, .int .i64 0, .slice none 0 0]) (by simp [results, Try.results137, go_sem, s0, s1, s2]) rfl (by rw [HA.out]; exact or_zero HS.out)
set_option maxHeartbeats 600000 in
theorem rsI_bad2 (fid : Nat) (S : Nat → Nat → Nat → Nat) (X Y P Q : Int) (v : Value) (L : List Int) (w : World) (hv : RdI w v L) (h1 : imOk X Y L) (h2 : ¬ szOk P Q) :
  Calls Try.prog 137 #[.agg #[.int .i64 X, .int .i64 Y, v], .int .i64 P, .int .i64 Q, .func (.func fid) #[] #[]] w (AnsIm (rsIm S X Y L P Q) w) := by
 have HA := Lib.hid (rs_no S (X := X) (Y := Y) (L := L) (w := P) (h := Q) (fun h => h2 h.2))
 have hS := OrA.born w X Y hv
 have H1 := Lib.hid h1
 have H2 := Lib.hid h2
 clear h1 h2
 obtain ⟨A, c, rfl⟩ := hv.form
 obtain ⟨a0, a1, a2⟩ := hS.a.cells
 go_enter Try.func137, Try.ntmps137
 go_wp2_with fail
 refine (imI X Y _ L _ hS.rd).mono ?_
 rintro e w2 ⟨rfl, hb⟩
 replace hS := hS.call hb
 clear hb a0 a1 a2
 rw [imB_yes H1.out]
 go_wp2_with fail
 refine (szI_no P Q H2.out _).mono ?_
 rintro e w' ⟨rfl, rfl⟩
 have hr := hS.r
 obtain ⟨r0, r1, r2⟩ := hr.cells
 have f0 := hr.frozen 0
 have f1 := hr.frozen 1
 have f2 := hr.frozen 2
 have HJ := Lib.hid (hr.set3 0 0 (.slice none 0 0))
 have HS := Lib.hid hS
 clear hr hS
 go_wp2_with fail
 obtain ⟨s0, s1, s2⟩ := HJ.out.cells
 exact bodyPost_ret (v := .agg #[.int .i64 0, .int .i64 0, .slice none 0 0]) (by simp [results, Try.results137, go_sem, s0, s1, s2]) rfl (by rw [HA.out]; exact or_zero HS.out)
theorem rsI_any (fid : Nat) (S : Nat → Nat → Nat → Nat) (HE : ∀ args w, (callFunc fid args).run Try.prog w = .ok (.enter fid args) w)
  (HK : ∀ (f t k : Nat) V, 1 ≤ f ∧ f ≤ 16 → 1 ≤ t ∧ t ≤ 16 → k < t → Calls Try.prog fid #[.int .i64 f, .int .i64 t, .int .i64 k] V fun e w' => e = .returned (.int .i64 (S f t k : Nat)) ∧ V = w') (hPl : PlOk S) (X Y P Q : Int) (v : Value) (L : List Int) (w : World) (hv : RdI w v L) :
  Calls Try.prog 137 #[.agg #[.int .i64 X, .int .i64 Y, v], .int .i64 P, .int .i64 Q, .func (.func fid) #[] #[]] w (AnsIm (rsIm S X Y L P Q) w) := by
 by_cases h1 : imOk X Y L
 ·by_cases h2 : szOk P Q
  ·obtain ⟨W, H, rfl, rfl, _⟩ := im_nat h1
   obtain ⟨p, q, rfl, rfl, _⟩ := sz_nat h2
   exact rsI_ok fid S HE HK hPl W H p q v L w h1 h2 hv
  ·exact rsI_bad2 fid S X Y P Q v L w hv h1 h2
 ·exact rsI_bad1 fid S X Y P Q v L w hv h1
theorem enterP (args : Array Value) (w : World) : (callFunc 138 args).run Try.prog w = .ok (.enter 138 args) w := by simp [go_sem]
set_option maxHeartbeats 600000 in
theorem sclI_any (X Y P Q : Int) (v : Value) (L : List Int) (w : World) (hv : RdI w v L) :
  Calls Try.prog 90 #[.agg #[.int .i64 X, .int .i64 Y, v], .int .i64 P, .int .i64 Q] w (AnsIm (rsIm sclN X Y L P Q) w) := by
 obtain ⟨I, hI⟩ : ∃ I, I = rsIm sclN X Y L P Q := ⟨_, rfl⟩
 have R := fun W v h => rsI_any 138 sclN enterP (fun f t k V h1 h2 h3 => scI_yes h1 h2 h3 V) scl_ok X Y P Q v L W h
 unfold AnsIm ImAns at R
 rw [← hI] at R ⊢
 obtain ⟨D, E, M⟩ := I
 dsimp only at R
 have HR := Lib.hid R
 clear R hI
 have hS := OrA.born w X Y hv
 obtain ⟨A, c, rfl⟩ := hv.form
 obtain ⟨a0, a1, a2⟩ := hS.a.cells
 go_enter Try.func90, Try.ntmps90
 go_wp2_with fail
 refine (HR.out _ _ hS.rd).mono ?_
 rintro e w2 ⟨u, rfl, own, hb⟩
 replace hS := hS.call hb
 clear hb a0 a1 a2
 obtain ⟨A2, c2, hu⟩ := ownI_shape own
 subst hu
 have hr := hS.r
 obtain ⟨r0, r1, r2⟩ := hr.cells
 have f0 := hr.frozen 0
 have f1 := hr.frozen 1
 have f2 := hr.frozen 2
 have HJ := Lib.hid (hr.set3 D E (.slice A2 M.length c2))
 have HS := Lib.hid hS
 have HO := Lib.hid (own.mono (show w.heap.size + 2 ≤ _ by simp))
 clear hr hS own
 go_wp2_with fail
 obtain ⟨s0, s1, s2⟩ := HJ.out.cells
 exact bodyPost_ret (v := .agg #[.int .i64 D, .int .i64 E, .slice A2 M.length c2]) (by simp [results, Try.results90, go_sem, s0, s1, s2]) rfl (ans_set HO.out rfl (by omega) (Nat.lt_succ_self _) HS.out.bw)
end Go.Proofs.Ytdgagooldlnpeaa
namespace Go.Proofs.Ytdgagooldlnpeaa
open Go.RowKit
theorem sclN_self {f k : Nat} (h : 1 ≤ f) : sclN f f k = k := by unfold sclN; exact Nat.mul_div_cancel _ h
theorem rs_self {S : Nat → Nat → Nat → Nat} (hS : ∀ f k, k < f → S f f k = k) {W H : Nat} {L : List Int} (h : imOk W H L) : rsIm S W H L W H = ⟨W, H, L⟩ := by
 obtain ⟨W2, H2, e1, e2, wl, wh, hl, hh, hL⟩ := im_nat h
 obtain rfl : W = W2 := by exact_mod_cast e1
 obtain rfl : H = H2 := by exact_mod_cast e2
 rw [rs_yes S h h.1]
 congr 1
 symm
 refine tabI_ext hL fun j x hx => ?_
 have hj : j < W * H := by have := (List.getElem?_eq_some_iff.1 hx).1; omega
 unfold rsF
 rw [hS H _ (plc_row hj), hS W _ (Nat.mod_lt _ wl), plc_eq, List.getD_eq_getElem?_getD, hx]; rfl
theorem rs_valid {S : Nat → Nat → Nat → Nat} (hS : PlOk S) {W H w h : Nat} {L : List Int} (h1 : imOk W H L) (h2 : szOk w h) : imOk w h (tabI (w * h) (rsF S W H w h L)) := by
 obtain ⟨W2, H2, e1, e2, wl, wh, hl, hh, hL⟩ := im_nat h1
 obtain rfl : W = W2 := by exact_mod_cast e1
 obtain rfl : H = H2 := by exact_mod_cast e2
 refine ⟨h2, by rw [tabI_length]; push_cast; rfl, fun k x hx => ?_⟩
 have hk : k < w * h := by have := (List.getElem?_eq_some_iff.1 hx).1; rwa [tabI_length] at this
 rw [tabI_get _ _ k hk] at hx
 injection hx with hx
 have hw : 0 < w := by unfold szOk at h2; omega
 obtain ⟨a, b, z, _, _, _, _, _, hz, hF⟩ := rs_src hS hL wl hl (Nat.mod_lt k hw) (plc_row hk)
 rw [plc_eq] at hF
 rw [← hx, hF]
 exact h1.2.2 _ _ hz
end Go.Proofs.Ytdgagooldlnpeaa
namespace Go.Proofs.Ytdgagooldlnpeaa
open Go.RowKit
theorem map_tab (L : List Int) (f : Int → Int) : L.map f = tabI L.length (fun k => f (L.getD k 0)) := tabI_ext (List.length_map ..) fun k x hx => by
 rw [List.getElem?_map] at hx
 obtain ⟨y, hy, rfl⟩ := Option.map_eq_some_iff.1 hx
 rw [List.getD_eq_getElem?_getD, hy]; rfl
def partC (f : Int → Int) (L : List Int) (k j : Nat) : Int := if j < k then f (L.getD j 0) else L.getD j 0
theorem cm_set {f : Int → Int} {L : List Int} {n k : Nat} {y : Int} (hy : f (L.getD k 0) = y) : (tabI n (partC f L k)).set k y = tabI n (partC f L (k + 1)) := by
 rw [tabI_set]
 refine tabI_congr n fun j _ => ?_
 unfold partC
 by_cases e : j = k
 ·rw [if_pos e, if_pos (by omega), e, hy]
 ·rw [if_neg e]
  by_cases e2 : j < k
  ·rw [if_pos e2, if_pos (by omega)]
  ·rw [if_neg e2, if_neg (by omega)]
end Go.Proofs.Ytdgagooldlnpeaa
namespace Go.Proofs.Ytdgagooldlnpeaa
open Go.RowKit
theorem ids_nodup {L : List Sf} : (∀ (k : Nat) (f : Sf), L[k]? = some f → idxF L f.id = k) ↔ (L.map Sf.id).Nodup := by
 constructor
 ·intro h
  rw [List.Nodup, List.pairwise_iff_getElem]
  intro i j hi hj hij e
  rw [List.length_map] at hi hj
  rw [List.getElem_map, List.getElem_map] at e
  have h1 := h i _ (List.getElem?_eq_getElem hi)
  have h2 := h j _ (List.getElem?_eq_getElem hj)
  rw [e] at h1
  omega
 ·intro h k f hk
  rcases idxF_is (L := L) (i := f.id) with ⟨_, h2⟩ | ⟨j, g, h1, h2, h3, h4⟩
  ·exact absurd rfl (h2 k f hk)
  ·rw [h1]
   have hk' := List.getElem?_eq_some_iff.1 hk
   have hj' := List.getElem?_eq_some_iff.1 h2
   have e : (L.map Sf.id)[j]'(by rw [List.length_map]; exact hj'.1) = (L.map Sf.id)[k]'(by rw [List.length_map]; exact hk'.1) := by
    rw [List.getElem_map, List.getElem_map, hk'.2, hj'.2, h3]
   have hp := List.pairwise_iff_getElem.1 h
   rcases Nat.lt_trichotomy j k with hjk | hjk | hjk
   ·exact absurd e (hp j k _ _ hjk)
   ·omega
   ·exact absurd e.symm (hp k j _ _ hjk)
end Go.Proofs.Ytdgagooldlnpeaa
namespace Go.Proofs.Ytdgagooldlnpeaa
open Go.RowKit
theorem rowsR_take {α : Type} {E : Rep α} {w : World} : ∀ {L : List α} {xs : List (List Value)} {bss : List (List Nat)} (_ : rowsR E w L xs bss) (n : Nat), rowsR E w (L.take n) (xs.take n) (bss.take n)
 | [], [], [], _, n => by cases n <;> trivial
 | _ :: _, _ :: _, _ :: _, _, 0 => trivial
 | _ :: _, _ :: _, _ :: _, h, n + 1 => ⟨h.1, rowsR_take h.2 n⟩
theorem flat_take {s : Nat} : ∀ {xs : List (List Value)} (_ : ∀ x ∈ xs, x.length = s) (n : Nat), xs.flatten.take (n * s) = (xs.take n).flatten
  | [], _, n => by simp
  | x :: xs, h, 0 => by simp
  | x :: xs, h, n + 1 => by
    have hx := h x List.mem_cons_self
    rw [List.flatten_cons, List.take_succ_cons, List.flatten_cons, ← flat_take (fun y hy => h y (List.mem_cons_of_mem _ hy)) n, Nat.succ_mul, Nat.add_comm, ← hx, List.take_length_add_append]
theorem rep_take {w : World} {L : List Sf} {g N c : Nat} {bs : List Nat} (h : repSfs.R w L [.slice (some ⟨g, 0, none⟩) N c] bs) {n : Nat} (hn : n ≤ L.length) : ∃ bs', repSfs.R w (L.take n) [.slice (some ⟨g, 0, none⟩) n c] bs' ∧ ∀ b ∈ bs', b ∈ bs := by
 obtain ⟨v', xs, bss, e, hr, hs, ho, rfl⟩ := h
 obtain rfl : Value.slice (some ⟨g, 0, none⟩) N c = v' := by simpa using e
 have hl : (L.take n).length = n := by rw [List.length_take]; omega
 rcases ho.2 with ⟨he, h0⟩ | ⟨g', cap, cur, he, h1, h2, h3, h4, h5, h6⟩
 ·cases he
 ·injection he with e1 e2 e3
  injection e1 with e1
  injection e1 with e1 _ _
  subst e1 e2 e3
  refine ⟨g :: (bss.take n).flatten, ⟨_, xs.take n, bss.take n, rfl, rowsR_take hr n, fun x hx => hs x (List.mem_of_mem_take hx), ?_, by simp [Value.ownBlock]⟩, fun b hb => ?_⟩
  ·rw [hl]
   have hf := flat_take hs n
   have hx := (rowsR_len hr).1
   refine ⟨?_, .inr ⟨g, c, cur, rfl, h1, h2, by omega, h4, h5, ?_⟩⟩
   ·rw [← hf, List.length_take]
    have := ho.1
    have h7 : n * 11 ≤ L.length * 11 := Nat.mul_le_mul_right _ hn
    omega
   ·rw [← hf, ← h6, List.take_take]
    congr 1
    have h7 : n * 11 ≤ L.length * 11 := Nat.mul_le_mul_right _ hn
    omega
  ·rcases List.mem_cons.1 hb with rfl | hb
   ·exact List.mem_append.2 (.inl (by simp [Value.ownBlock]))
   ·obtain ⟨d, hd, hm⟩ := List.mem_flatten.1 hb
    exact List.mem_append.2 (.inr (List.mem_flatten.2 ⟨d, List.mem_of_mem_take hd, hm⟩))
end Go.Proofs.Ytdgagooldlnpeaa
