/- Laws for builtin copy and append at slices of ints whose rows are the call's own; the contract of slices.Repeat at one element. No statement is proved here. -/
import Derived.Test.YtfolphadhmgbiaaMA
import Derived.Test.YtfolphadhmgbiaaImR
import Derived.Test.YtfolphadhmgbiaaProg
import Derived.WalkKit
import Derived.ProofKit
import Derived.OpenShut
import Derived.WalkLawsBesides
import Derived.WalkSpells
import Derived.ShutString
import Derived.ChangeOld
import Derived.Below
import Derived.Lib.Hide
import Derived.BigQuiet
import Derived.Deep.QuietTactic
import Derived.Maps.AppendAt
import Derived.Deep.OwnRows
import Derived.Handy
import Derived.Deep.Draws
import Derived.OwnWalk
import Derived.Deep.AppendLies
import Derived.Deep.LoopGhost
import Derived.Deep.Onto
import Derived.Test.YtfolphadhmgbiaaShelf
import Derived.Laws.CopyOwn
import Derived.Deep.RegionLaw
import Derived.Deep.RegionHeld3
import Derived.Deep.DeepCutAuto
import Derived.Great.BuildSlice
namespace Go.Proofs.Ytfolphadhmgbiaa
open Go.RowKit
theorem splice_get {α : Type} (L C : List α) (off k : Nat) (h : off + C.length ≤ L.length) : (splice L off C)[k]? = if off ≤ k ∧ k < off + C.length then C[k - off]? else L[k]? := by
  unfold splice
  by_cases h1 : k < off
  · rw [if_neg (by omega), List.getElem?_append_left (by rw [List.length_take]; omega), List.getElem?_take_of_lt h1]
  · have ht : (L.take off).length = off := by rw [List.length_take]; omega
    rw [List.getElem?_append_right (by omega), ht]
    by_cases h2 : k < off + C.length
    · rw [if_pos ⟨by omega, h2⟩, List.getElem?_append_left (by omega)]
    · rw [if_neg (by omega), List.getElem?_append_right (by omega), List.getElem?_drop]
      congr 1
      omega
theorem splice_tabI (n : Nat) (f : Nat → Int) (k m : Nat) (h : Nat → Int) (hk : k + m ≤ n) :
    splice (intCells (tabI n f)) k (intCells (tabI m h)) = intCells (tabI n (fun j => if k ≤ j ∧ j < k + m then h (j - k) else f j)) := by
  apply List.ext_getElem?
  intro j
  rw [splice_get _ _ _ _ (by rw [intCells_length, intCells_length, tabI_length, tabI_length]; exact hk), intCells_length, tabI_length, intCells_get, intCells_get, intCells_get]
  by_cases hj : j < n
  · rw [tabI_get n f j hj, tabI_get n _ j hj]
    by_cases h1 : k ≤ j ∧ j < k + m
    · rw [if_pos h1, if_pos h1, tabI_get m h (j - k) (by omega)]
    · rw [if_neg h1, if_neg h1]
  · rw [if_neg (by omega), List.getElem?_eq_none (by rw [tabI_length]; omega), List.getElem?_eq_none (by rw [tabI_length]; omega)]
theorem list_take_splice {α : Type} (cur cs : List α) (off n : Nat) (h : off + cs.length ≤ n) (hn : n ≤ cur.length) : (cur.take off ++ cs ++ cur.drop (off + cs.length)).take n = splice (cur.take n) off cs := by
  have e : cur.take off ++ cs ++ cur.drop (off + cs.length) = splice cur off cs := by unfold splice; rw [List.append_assoc]
  rw [e]
  apply List.ext_getElem?
  intro j
  by_cases hj : j < n
  · rw [List.getElem?_take_of_lt hj, splice_get _ _ _ _ (by omega), splice_get _ _ _ _ (by rw [List.length_take]; omega), List.getElem?_take_of_lt hj]
  · rw [List.getElem?_eq_none (by rw [List.length_take]; omega), List.getElem?_eq_none (by rw [length_splice _ _ _ (by rw [List.length_take]; omega), List.length_take]; omega)]
/-- copy into a row of the call's own: what runs, what it leaves. -/
theorem run_copy_own {P : Program} (w : World) (dT sT ty elem : TypeId) (base : Nat) (g off n cap dLen dCap : Nat) (ad : Addr) (sLen sCap : Nat) (xs cs : List Value) (m : Nat) (hcm : cs.length = m)
    (hu : P.underlying dT = some (.slice elem)) (hs : (P.info? elem).map (·.size) = some 1)
    (hown : w.ownsRow base elem 1 (.slice (some ⟨g, 0, none⟩) n cap) n xs) (hn : m = Nat.min sLen dLen)
    (hsrc : ∀ j v, cs[j]? = some v → w.cell? (ad.add j) = some v) (hfit : off + m ≤ n) (h1 : ∀ v ∈ cs, v.oneCell' = true) :
    ∃ w', (Builtin.copy_ #[dT, sT] ty #[.slice (some ⟨g, off, none⟩) dLen dCap, .slice (some ad) sLen sCap]).run P w = .ok (goInt m) w' ∧
      w'.ownsRow base elem 1 (.slice (some ⟨g, 0, none⟩) n cap) n (splice xs off cs) ∧ w.grownBy w' (some g) := by
  subst hcm
  obtain ⟨hl, h⟩ := hown
  rcases h with ⟨h, _⟩ | ⟨g', cap', cur, he, hB, hh, hnc, hcm, hcs, ht⟩
  · cases h
  · cases he
    refine ⟨_, run_copy_row (P := P) w dT sT ty elem g off dLen dCap ad sLen sCap cur elem cs hu hs hh hn hsrc (by rw [hcs]; omega) h1, ?_, ?_⟩
    · have hcl : cur.toList.length = cap := by rw [Array.length_toList]; omega
      refine ⟨by rw [length_splice _ _ _ (by rw [hl]; omega)]; exact hl, .inr ⟨g, cap, _, rfl, hB, setRow_heap w g cur _ _ _ hh, hnc, hcm, ?_, ?_⟩⟩
      · simp; omega
      · rw [← ht]
        show List.take (n * 1) _ = splice (List.take (n * 1) cur.toList) off cs
        rw [Nat.mul_one]
        exact list_take_splice _ _ _ _ hfit (by omega)
    · exact ⟨rfl, rfl, rfl, by simp [World.setRow], fun k _ hk => setRow_other w g k _ (fun e => hk (by rw [e]))⟩
theorem step_copy_mine {P : Program} {ops : Array Oper} {o : Oper} {a : Act} {w : World} {K : Act → World → Prop} {Q : Exit → Act → World → Prop} {E : Prop} (hgd : o.guard = none) (d s : Operand) (dT sT : TypeId)
    (ho : o.op = .call { callee := .builtin .copy, args := #[d, s], argTypes := #[dT, sT] }) (elem : TypeId) (hu : P.underlying dT = some (.slice elem)) (hsz : (P.info? elem).map (·.size) = some 1)
    (base g off n cap dLen dCap : Nat) (ad : Addr) (sLen sCap : Nat) (xs cs : List Value) (m : Nat) (hcm : cs.length = m) (hd : a.eval d = .slice (some ⟨g, off, none⟩) dLen dCap) (hs : a.eval s = .slice (some ad) sLen sCap)
    (hown : w.ownsRow base elem 1 (.slice (some ⟨g, 0, none⟩) n cap) n xs) (hn : m = Nat.min sLen dLen)
    (hsrc : ∀ j v, cs[j]? = some v → w.cell? (ad.add j) = some v) (hfit : off + m ≤ n) (h1 : ∀ v ∈ cs, v.oneCell' = true)
    (h : ∀ w', Hid (w'.ownsRow base elem 1 (.slice (some ⟨g, 0, none⟩) n cap) n (splice xs off cs)) → Hid (w.grownBy w' (some g)) → K (a.put o.dst (goInt m)) w') :
    if Region.wanted o (yielded ops a.tmps) = true then Oper.wp P o a w K Q else E := by
  have hw : Region.wanted o (yielded ops a.tmps) = true := by simp [Region.wanted, hgd]
  rw [if_pos hw]
  obtain ⟨w', hrun, h2, h3⟩ := run_copy_own (P := P) w dT sT o.type elem base g off n cap dLen dCap ad sLen sCap xs cs m hcm hu hsz hown hn hsrc hfit h1
  unfold Oper.wp
  simp [execOp, ho, resolve, invoke, builtin, hd, hs, hrun, Result.andThen]
  exact h w' h2 h3
theorem wrap_in (x : Int) (h0 : -9223372036854775808 ≤ x) (h1 : x ≤ 9223372036854775807) : IntKind.i64.wrap x = x := by
  simp [IntKind.wrap, IntKind.bits, IntKind.signed]; omega
theorem cell_new1 (w : World) (v : Value) (t : TypeId) : (w.alloc (.cells #[v] t)).cell? ⟨w.heap.size, 0, none⟩ = some v := by
  rw [cell_of_row _ _ _ _ _ _ (heap_alloc_new w _)]; rfl
theorem cell_newAt {w : World} {g : Nat} (h : w.heap.size = g) (v : Value) (t : TypeId) : (w.alloc (.cells #[v] t)).cell? ⟨g, 0, none⟩ = some v := h ▸ cell_new1 w v t
theorem szInt : (Try.prog.info? 3).map (·.size) = some 1 := by kernel_rfl
theorem mul_one' (n : Nat) (h : n ≤ 256) (w : World) :
    Calls Try.prog 164 #[.int .u64 1, .int .u64 n] w fun e w' => e = .returned (.tuple #[.int .u64 0, .int .u64 n]) ∧ w' = w := by
  have h1 := Try.bits_Mul 1 n (by omega) (by omega) w
  rw [Nat.one_mul, Nat.div_eq_of_lt (by omega), Nat.mod_eq_of_lt (by omega)] at h1
  exact h1
/-- The row while it is filled: its first k numbers are p. -/
def fillF (p : Int) (k : Nat) : Nat → Int := fun j => if j < k then p else 0
theorem fillF_more (p : Int) (n k m : Nat) (hk : k + m ≤ n) : splice (intCells (tabI n (fillF p k))) k (intCells (tabI m (fun _ => p))) = intCells (tabI n (fillF p (k + m))) := by
  rw [splice_tabI n _ k m _ hk]
  congr 1
  refine tabI_congr n fun j _ => ?_
  unfold fillF
  by_cases h1 : k ≤ j ∧ j < k + m
  · rw [if_pos h1, if_pos h1.2]
  · rw [if_neg h1]
    by_cases h2 : j < k
    · rw [if_pos h2, if_pos (by omega)]
    · rw [if_neg h2, if_neg (by omega)]
theorem fillF_own {w : World} {B g n cap k m : Nat} {p : Int} (h : w.ownsRow B 3 1 (.slice (some ⟨g, 0, none⟩) n cap) n (intCells (tabI n (fillF p k)))) (hm : m ≤ k) (hk : m ≤ n) :
    ∀ j v, (intCells (tabI m (fun _ => p)))[j]? = some v → w.cell? ((⟨g, 0, none⟩ : Addr).add j) = some v := by
  intro j v hv
  rw [intCells_get] at hv
  obtain ⟨x, hx, rfl⟩ := Option.map_eq_some_iff.1 hv
  have hj : j < m := by have := (List.getElem?_eq_some_iff.1 hx).1; rwa [tabI_length] at this
  rw [tabI_get m _ j hj] at hx
  injection hx with hx
  subst hx
  refine h.cells (g := g) rfl j _ ?_
  rw [intCells_get, tabI_get n _ j (by omega)]
  unfold fillF
  rw [if_pos (by omega)]
  rfl
/-- What Repeat answers. -/
def RepAns (n : Nat) (p : Int) (w : World) (e : Ending) (w' : World) : Prop :=
  ∃ v, e = .returned v ∧ w'.ownsRow w.heap.size 3 1 v n (intCells (tabI n (fun _ => p))) ∧ Below w.heap.size w w'
set_option maxHeartbeats 600000 in
set_option maxRecDepth 10000 in
theorem repI (p : Int) (n : Nat) (h1 : 1 ≤ n) (h2 : n ≤ 256) (g : Nat) (w : World) (hc : w.cell? ⟨g, 0, none⟩ = some (.int .i64 p)) :
    Calls Try.prog 119 #[.slice (some ⟨g, 0, none⟩) 1 1, .int .i64 n] w (RepAns n p w) := by
  have hgl := World.block_lt_of_cell? w _ hc
  have hmk := fun W => run_make_row' (P := Try.prog) 33 3 (.int .i64 0) 8 Try.underlying33 infoInt rfl .i64 .i64 n (by omega) (by omega) W
  have n0 : (1 : Int) ≤ (n : Int) := by omega
  have n1 : (n : Int) ≤ 256 := by omega
  have hx0 : tabI 1 (fun _ => p) = [p] := rfl
  go_enter Try.func119, Try.ntmps119
  go_wp2_with fail
  refine (mul_one' n h2 _).mono ?_
  rintro e w' ⟨rfl, rfl⟩
  go_wp2_with fail
  have hown0 : (w'.alloc (.cells (madeCells #[.int .i64 0] n) 3)).ownsRow w'.heap.size 3 1 (.slice (some ⟨w'.heap.size, 0, none⟩) n n) n (intCells (tabI n (fillF p 0))) :=
    own_of_rowIs (World.rowIs_made _ _ _ _) (Nat.le_refl _) (by unfold maxLen; omega) (tabI_length _ _) (fun j x hx => by
      have hj : j < n := by have := (List.getElem?_eq_some_iff.1 hx).1; rwa [tabI_length] at this
      rw [tabI_get n _ j hj] at hx
      injection hx with hx
      rw [← hx]; rfl)
  obtain ⟨w2, hrun, hown2, hgr2⟩ := run_copy_own (P := Try.prog) _ 33 33 3 3 w'.heap.size w'.heap.size 0 n n n n ⟨g, 0, none⟩ 1 1 _ (intCells (tabI 1 (fun _ => p))) 1 (by rw [intCells_length, tabI_length]) Try.underlying33 szInt hown0
    (by show 1 = min 1 n; omega)
    (by
      intro j v hv
      rw [hx0] at hv
      have hj : j = 0 := by have := (List.getElem?_eq_some_iff.1 hv).1; simp [intCells] at this; exact this
      subst hj
      simp [intCells] at hv
      subst hv
      exact (World.cell?_of_block (Below.heap_alloc w' _ g hgl)).trans hc) (by omega) (intCells_one _)
  rw [fillF_more p n 0 1 (by omega)] at hown2
  have hb2 : Below w'.heap.size w' w2 := ((Below.refl _ _).alloc (Nat.le_refl _) _).grown hgr2 (by simp) (fun k hk => by injection hk with hk; omega)
  have Hown2 := Lib.hid hown2
  simp only [hrun, Result.andThen_ok]
  clear hrun hown0 hown2 hgr2 hmk hx0
  go_wp2_with fail
  go_loopw [8] (fun s wr => ∃ k : Nat, 1 ≤ k ∧ k ≤ n ∧ s = .int .i64 k ∧ Hid (wr.ownsRow w'.heap.size 3 1 (.slice (some ⟨w'.heap.size, 0, none⟩) n n) n (intCells (tabI n (fillF p k)))) ∧ Below w'.heap.size w' wr) (fun s _ => n - (intOf s).toNat)
  case atStart => exact ⟨1, Nat.le_refl _, h1, rfl, Hown2, hb2⟩
  case round =>
    clear hb2 Hown2 hc
    obtain ⟨k, hk1, hk2, rfl, Hown, hb⟩ := hrel
    by_cases hlt : k < n
    · obtain ⟨m, hm⟩ : ∃ m, m = Nat.min k (n - k) := ⟨_, rfl⟩
      have hm2 : m = min k (n - k) := hm
      have hm3 : 1 ≤ m ∧ m ≤ k ∧ k + m ≤ n := by omega
      obtain ⟨m1, m2, m4⟩ := hm3
      have k0 : (0 : Int) ≤ (k : Int) := by omega
      have k1 : (k : Int) < (n : Int) := by omega
      have Hm := Lib.hid hm
      clear hm hm2
      go_wp2_with fail
      go_region_held3 (fun _ => True) (trivial) ((refine step_copy_mine rfl (.tmp 41) (.tmp 44) 33 33 (by rfl) 3 Try.underlying33 szInt w'.heap.size w'.heap.size k n n (n - k) (n - k) ⟨w'.heap.size, 0, none⟩ k n _ (intCells (tabI m (fun _ => p))) m (by rw [intCells_length, tabI_length]) (by simp [Act.eval]; omega) (by simp [Act.eval]) (by first | exact Hown.out | exact Hown.out.drew) Hm.out (by first | exact fillF_own Hown.out m2 (by omega) | exact fillF_own Hown.out.drew m2 (by omega)) m4 (intCells_one _) ?_; intro w3 hown3 hgr3))
      go_wp2_with fail
      have hb3 : Below w'.heap.size w' w3 := (show Below w'.heap.size w' wr.drew from hb.drew).grown hgr3.out (by have := hb.size; simpa using this) (fun k hk => by injection hk with hk; omega)
      have e : Value.int .i64 (IntKind.i64.wrap ((k : Int) + (m : Int))) = .int .i64 ((k + m : Nat) : Int) := by rw [wrap_in _ (by omega) (by omega)]; simp
      rw [e]
      refine ⟨⟨k + m, by omega, m4, rfl, ?_, hb3⟩, by simp [intOf]; omega⟩
      have h := hown3.out
      rw [fillF_more p n k m m4] at h
      exact h
    · obtain rfl : k = n := by omega
      go_wp2_with fail
      go_ret
      refine ⟨_, rfl, ?_, hb⟩
      have h := Hown.out
      rw [tabI_congr k (g := fun _ => p) (fun j hj => by unfold fillF; rw [if_pos hj])] at h
      exact h
end Go.Proofs.Ytfolphadhmgbiaa
