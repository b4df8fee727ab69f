/- Copying rows of structs; the contract of slices.Repeat at one image. No statement is proved here. -/
import Derived.Test.YtnndifemkichmaaMA
import Derived.Test.YtnndifemkichmaaMB
import Derived.Test.YtnndifemkichmaaIsE
import Derived.Test.YtnndifemkichmaaSlE
import Derived.Test.YtnndifemkichmaaIsT
import Derived.Test.YtnndifemkichmaaProg
import Derived.WalkKit
import Derived.ProofKit
import Derived.OpenShut
import Derived.WalkLawsBesides
import Derived.WalkSpells
import Derived.ShutString
import Derived.ChangeOld
import Derived.Below
import Derived.Lib.Hide
import Derived.BigQuiet
import Derived.Deep.QuietTactic
import Derived.Maps.AppendAt
import Derived.Deep.OwnRows
import Derived.Handy
import Derived.Deep.Draws
import Derived.OwnWalk
import Derived.Deep.AppendLies
import Derived.Deep.LoopGhost
import Derived.Deep.Onto
import Derived.Deep.MidRow
import Derived.Deep.WholeRow
import Derived.Laws.BitsAllLaws
import Derived.Lib.QuoteBits
import Derived.Deep.RegionHeld3
import Derived.Deep.DeepCutAuto
import Derived.Test.YtnndifemkichmaaShelf
import Derived.Laws.CopyOwn
import Derived.Deep.RegionLaw
import Derived.Great.BuildSlice
import Derived.Laws.AppendOwn
namespace Go.Proofs.Ytnndifemkichmaa
open Go.RowKit
theorem run_copy_ownW {P : Program} (w : World) (dT sT ty elem : TypeId) (s base : Nat) (g off n cap dLen dCap : Nat) (ad : Addr) (sLen sCap : Nat) (xs cs : List Value) (m : Nat) (hcm : cs.length = m * s)
    (hu : P.underlying dT = some (.slice elem)) (hs : (P.info? elem).map (·.size) = some s)
    (hown : w.ownsRow base elem s (.slice (some ⟨g, 0, none⟩) n cap) n xs) (hn : m = Nat.min sLen dLen)
    (hsrc : ∀ j v, cs[j]? = some v → w.cell? (ad.add j) = some v) (hfit : off + m * s ≤ n * s) (h1 : ∀ v ∈ cs, v.oneCell' = true) :
    ∃ w', (Builtin.copy_ #[dT, sT] ty #[.slice (some ⟨g, off, none⟩) dLen dCap, .slice (some ad) sLen sCap]).run P w = .ok (goInt m) w' ∧
      w'.ownsRow base elem s (.slice (some ⟨g, 0, none⟩) n cap) n (splice xs off cs) ∧ w.grownBy w' (some g) := by
  obtain ⟨hl, h⟩ := hown
  rcases h with ⟨h, _⟩ | ⟨g', cap', cur, he, hB, hh, hnc, hcm', hcs, ht⟩
  · cases h
  · cases he
    have hcc : n * s ≤ cap * s := Nat.mul_le_mul_right s hnc
    have hl1 := run_loadCells_list (P := P) w ad cs hsrc
    have hst := run_storeCells_at P g off elem cs 0 cur w hh (by rw [hcs, hcm]; simp; omega) h1
    refine ⟨w.setRow g (cur.toList.take off ++ cs ++ cur.toList.drop (off + cs.length)).toArray, ?_, ?_, ?_⟩
    · cases hq : P.info? elem with
      | none => simp [hq] at hs
      | some i =>
        have hi : i.size = s := by simpa [hq] using hs
        rw [hcm] at hl1
        simp [Builtin.copy_, run_underlying hu, Builtin.lenOf, Builtin.firstCells, sizeOf, typeInfo, hq, hi, ← hn, hl1, hst]
    · have hcl : cur.toList.length = cap * s := by rw [Array.length_toList]; omega
      refine ⟨by rw [length_splice _ _ _ (by rw [hl, hcm]; omega)]; exact hl, .inr ⟨g, cap, _, rfl, hB, setRow_heap w g cur _ _ _ hh, hnc, hcm', ?_, ?_⟩⟩
      · simp [hcm]; omega
      · rw [← ht]
        exact list_take_splice _ _ _ _ (by rw [hcm]; exact hfit) (by omega)
    · exact ⟨rfl, rfl, rfl, by simp [World.setRow], fun k _ hk => setRow_other w g k _ (fun e => hk (by rw [e]))⟩
theorem step_copy_W {P : Program} {ops : Array Oper} {o : Oper} {a : Act} {w : World} {K : Act → World → Prop} {Q : Exit → Act → World → Prop} {E : Prop} (hgd : o.guard = none) (d s : Operand) (dT sT : TypeId)
  (ho : o.op = .call { callee := .builtin .copy, args := #[d, s], argTypes := #[dT, sT] }) (elem : TypeId) (hu : P.underlying dT = some (.slice elem)) (z : Nat) (hsz : (P.info? elem).map (·.size) = some z)
  (base g off n cap dLen dCap : Nat) (ad : Addr) (sLen sCap : Nat) (xs cs : List Value) (m : Nat) (hcm : cs.length = m * z) (hd : a.eval d = .slice (some ⟨g, off, none⟩) dLen dCap) (hs : a.eval s = .slice (some ad) sLen sCap)
  (hown : w.ownsRow base elem z (.slice (some ⟨g, 0, none⟩) n cap) n xs) (hn : m = Nat.min sLen dLen)
  (hsrc : ∀ j v, cs[j]? = some v → w.cell? (ad.add j) = some v) (hfit : off + m * z ≤ n * z) (h1 : ∀ v ∈ cs, v.oneCell' = true)
  (h : ∀ w', Hid (w'.ownsRow base elem z (.slice (some ⟨g, 0, none⟩) n cap) n (splice xs off cs)) → Hid (w.grownBy w' (some g)) → K (a.put o.dst (goInt m)) w') :
  if Region.wanted o (yielded ops a.tmps) = true then Oper.wp P o a w K Q else E := by
 have hw : Region.wanted o (yielded ops a.tmps) = true := by simp [Region.wanted, hgd]
 rw [if_pos hw]
 obtain ⟨w', hrun, h2, h3⟩ := run_copy_ownW (P := P) w dT sT o.type elem z base g off n cap dLen dCap ad sLen sCap xs cs m hcm hu hsz hown hn hsrc hfit h1
 unfold Oper.wp
 simp [execOp, ho, resolve, invoke, builtin, hd, hs, hrun, Result.andThen]
 exact h w' h2 h3
theorem szImC : (Try.prog.info? 58).map (·.size) = some 3 := by kernel_rfl
theorem mul_one3 (n : Nat) (h : n ≤ 3) (w : World) :
  Calls Try.prog 111 #[.int .u64 1, .int .u64 n] w fun e w' => e = .returned (.tuple #[.int .u64 0, .int .u64 n]) ∧ w' = w := by
 have h1 := Try.bits_Mul 1 n (by omega) (by omega) w
 rw [Nat.one_mul, Nat.div_eq_of_lt (by omega), Nat.mod_eq_of_lt (by omega)] at h1
 exact h1
def fillC (p z : List Value) (n k : Nat) : List Value := (List.replicate k p ++ List.replicate (n - k) z).flatten
theorem fillC_more (a b c d e f : Value) (n k m : Nat) (hn : n ≤ 3) (hk : k + m ≤ n) : splice (fillC [a, b, c] [d, e, f] n k) (k * 3) (List.replicate m [a, b, c]).flatten = fillC [a, b, c] [d, e, f] n (k + m) := by
 have h1 : n = 0 ∨ n = 1 ∨ n = 2 ∨ n = 3 := by omega
 have h2 : k = 0 ∨ k = 1 ∨ k = 2 ∨ k = 3 := by omega
 have h3 : m = 0 ∨ m = 1 ∨ m = 2 ∨ m = 3 := by omega
 rcases h1 with rfl | rfl | rfl | rfl <;> rcases h2 with rfl | rfl | rfl | rfl <;> rcases h3 with rfl | rfl | rfl | rfl <;> first | rfl | omega
theorem fillC_all (p z : List Value) (n : Nat) : fillC p z n n = (List.replicate n p).flatten := by simp [fillC]
theorem rep_one (m : Nat) (a b c : Value) (ha : a.oneCell' = true) (hb : b.oneCell' = true) (hc : c.oneCell' = true) : ∀ v ∈ (List.replicate m [a, b, c]).flatten, v.oneCell' = true := by
 intro v hv
 obtain ⟨l, hl, hv⟩ := List.mem_flatten.1 hv
 rw [List.eq_of_mem_replicate hl] at hv
 simp at hv
 rcases hv with rfl | rfl | rfl <;> assumption
theorem rep_len (m : Nat) (a b c : Value) : (List.replicate m [a, b, c]).flatten.length = m * 3 := by
 rw [flat_len (s := 3) fun x hx => by rw [List.eq_of_mem_replicate hx]; rfl, List.length_replicate]
theorem fillC_pre (a b c d e f : Value) (n k m : Nat) (hm : m ≤ k) (_ : k ≤ n) (_ : n ≤ 3) (j : Nat) (v : Value) (hv : (List.replicate m [a, b, c]).flatten[j]? = some v) : (fillC [a, b, c] [d, e, f] n k)[j]? = some v := by
 unfold fillC
 rw [List.flatten_append]
 have hj : j < m * 3 := by have := (List.getElem?_eq_some_iff.1 hv).1; rwa [rep_len] at this
 rw [List.getElem?_append_left (by rw [rep_len]; omega), ← hv]
 rw [show k = m + (k - m) by omega, ← List.replicate_append_replicate, List.flatten_append, List.getElem?_append_left (by rw [rep_len]; exact hj)]
theorem fillC_own {w : World} {B g n k m : Nat} {a b c d e f : Value} (h : w.ownsRow B 58 3 (.slice (some ⟨g, 0, none⟩) n n) n (fillC [a, b, c] [d, e, f] n k)) (hm : m ≤ k) (hk : k ≤ n) (hn : n ≤ 3) :
  ∀ j v, (List.replicate m [a, b, c]).flatten[j]? = some v → w.cell? ((⟨g, 0, none⟩ : Addr).add j) = some v := fun j v hv => h.cells (g := g) rfl j v (fillC_pre a b c d e f n k m hm hk hn j v hv)
def RepC (n : Nat) (a b c : Value) (w : World) (e : Ending) (w' : World) : Prop :=
 ∃ g, e = .returned (.slice (some ⟨g, 0, none⟩) n n) ∧ w'.ownsRow w.heap.size 58 3 (.slice (some ⟨g, 0, none⟩) n n) n (List.replicate n [a, b, c]).flatten ∧ Below w.heap.size w w'
set_option maxHeartbeats 1000000 in
set_option maxRecDepth 10000 in
theorem repC (f : Im) (A : Option Addr) (cp : Nat) (n : Nat) (h1 : 1 ≤ n) (h2 : n ≤ 3) (g : Nat) (w : World) (hc : BkAt w g 58 #[.int .i64 f.w, .int .i64 f.h, .slice A f.d.length cp]) :
  Calls Try.prog 68 #[.slice (some ⟨g, 0, none⟩) 1 1, .int .i64 n] w (RepC n (.int .i64 f.w) (.int .i64 f.h) (.slice A f.d.length cp) w) := by
 obtain ⟨a, ha⟩ : ∃ a, a = Value.int .i64 f.w := ⟨_, rfl⟩
 obtain ⟨b, hb⟩ : ∃ b, b = Value.int .i64 f.h := ⟨_, rfl⟩
 obtain ⟨c, hcc⟩ : ∃ c, c = Value.slice A f.d.length cp := ⟨_, rfl⟩
 rw [← ha, ← hb, ← hcc] at hc ⊢
 have h1a : a.oneCell' = true := by rw [ha]; rfl
 have h1b : b.oneCell' = true := by rw [hb]; rfl
 have h1c : c.oneCell' = true := by rw [hcc]; rfl
 have hgl := hc.lt
 have hmk := fun W => make_im n (by omega) W
 have n0 : (1 : Int) ≤ (n : Int) := by omega
 have n1 : (n : Int) ≤ 3 := by omega
 clear ha hb hcc
 go_enter Try.func68, Try.ntmps68
 go_wp2_with fail
 refine (mul_one3 n h2 _).mono ?_
 rintro e w' ⟨rfl, rfl⟩
 go_wp2_with fail
 have hown0 : (w'.alloc (.cells (madeCells #[.int .i64 0, .int .i64 0, .slice none 0 0] (n * 3)) 58)).ownsRow w'.heap.size 58 3 (.slice (some ⟨w'.heap.size, 0, none⟩) n n) n (fillC [a, b, c] [.int .i64 0, .int .i64 0, .slice none 0 0] n 0) := by
  have h := own_rebase (C := w'.heap.size) (slu_made_im w' n (by omega)).ow (fun k hk => by rw [show k = w'.heap.size by simpa [Value.ownBlock] using hk]; exact Nat.le_refl _)
  simpa [fillC] using h
 obtain ⟨w2, hrun, hown2, hgr2⟩ := run_copy_ownW (P := Try.prog) _ 32 32 3 58 3 w'.heap.size w'.heap.size 0 n n n n ⟨g, 0, none⟩ 1 1 _ (List.replicate 1 [a, b, c]).flatten 1 (rep_len 1 a b c) Try.underlying32 szImC hown0
  (by show 1 = min 1 n; omega)
  (by
   intro j v hv
   have hj : j < 3 := by have := (List.getElem?_eq_some_iff.1 hv).1; rwa [rep_len] at this
   rw [addr_plus, Nat.zero_add]
   refine (World.cell?_of_block (Below.heap_alloc w' _ g hgl)).trans (hc.cell j ?_)
   have h3 : j = 0 ∨ j = 1 ∨ j = 2 := by omega
   rcases h3 with rfl | rfl | rfl <;> simpa using hv) (by omega) (rep_one 1 a b c h1a h1b h1c)
 have hf1 := fillC_more a b c (.int .i64 0) (.int .i64 0) (.slice none 0 0) n 0 1 h2 (by omega)
 rw [Nat.zero_mul, Nat.zero_add] at hf1
 rw [hf1] at hown2
 have hb2 : Below w'.heap.size w' w2 := ((Below.refl _ _).alloc (Nat.le_refl _) _).grown hgr2 (by simp) (fun k hk => by injection hk with hk; omega)
 have Hown2 := Lib.hid hown2
 simp only [hrun, Result.andThen_ok]
 clear hrun hown0 hown2 hgr2 hmk hf1
 go_wp2_with fail
 go_loopw [8] (fun s wr => ∃ k : Nat, 1 ≤ k ∧ k ≤ n ∧ s = .int .i64 k ∧ Hid (wr.ownsRow w'.heap.size 58 3 (.slice (some ⟨w'.heap.size, 0, none⟩) n n) n (fillC [a, b, c] [.int .i64 0, .int .i64 0, .slice none 0 0] n k)) ∧ Below w'.heap.size w' wr) (fun s _ => n - (intOf s).toNat)
 case atStart => exact ⟨1, Nat.le_refl _, h1, rfl, Hown2, hb2⟩
 case round =>
  clear hb2 Hown2 hc
  obtain ⟨k, hk1, hk2, rfl, Hown, hb⟩ := hrel
  by_cases hlt : k < n
  ·obtain ⟨m, hm⟩ : ∃ m, m = Nat.min k (n - k) := ⟨_, rfl⟩
   have hm2 : m = min k (n - k) := hm
   have hm3 : 1 ≤ m ∧ m ≤ k ∧ k + m ≤ n := by omega
   obtain ⟨m1, m2, m4⟩ := hm3
   have k0 : (0 : Int) ≤ (k : Int) := by omega
   have k1 : (k : Int) < (n : Int) := by omega
   have Hm := Lib.hid hm
   clear hm hm2
   go_wp2_with fail
   go_region_held3 (fun _ => True) (trivial) ((refine step_copy_W rfl (.tmp 41) (.tmp 44) 32 32 (by rfl) 58 Try.underlying32 3 szImC w'.heap.size w'.heap.size (k * 3) n n (n - k) (n - k) ⟨w'.heap.size, 0, none⟩ k n _ (List.replicate m [a, b, c]).flatten m (rep_len m a b c) (by simp [Act.eval]; omega) (by simp [Act.eval]) (by first | exact Hown.out | exact Hown.out.drew) Hm.out (by first | exact fillC_own Hown.out m2 (by omega) h2 | exact fillC_own Hown.out.drew m2 (by omega) h2) (by omega) (rep_one m a b c h1a h1b h1c) ?_; intro w3 hown3 hgr3))
   go_wp2_with fail
   have hb3 : Below w'.heap.size w' w3 := (show Below w'.heap.size w' wr.drew from hb.drew).grown hgr3.out (by have := hb.size; simpa using this) (fun k hk => by injection hk with hk; omega)
   have e : Value.int .i64 (IntKind.i64.wrap ((k : Int) + (m : Int))) = .int .i64 ((k + m : Nat) : Int) := by rw [wrap_in _ (by omega) (by omega)]; simp
   rw [e]
   refine ⟨⟨k + m, by omega, m4, rfl, ?_, hb3⟩, by simp [intOf]; omega⟩
   have h := hown3.out
   rw [fillC_more a b c _ _ _ n k m h2 m4] at h
   exact Lib.hid h
  ·obtain rfl : k = n := by omega
   go_wp2_with fail
   go_ret
   refine ⟨_, rfl, ?_, hb⟩
   have h := Hown.out
   rwa [fillC_all] at h
end Go.Proofs.Ytnndifemkichmaa
