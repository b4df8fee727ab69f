/- The contract of NewChain of the model. No statement is proved here. -/
import Derived.Test.YtnndifemkichmaaMA
import Derived.Test.YtnndifemkichmaaMB
import Derived.Test.YtnndifemkichmaaChM
import Derived.Test.YtnndifemkichmaaIsE
import Derived.Test.YtnndifemkichmaaSlE
import Derived.Test.YtnndifemkichmaaChL
import Derived.Test.YtnndifemkichmaaSnS
import Derived.Test.YtnndifemkichmaaSnC
import Derived.Test.YtnndifemkichmaaChB
import Derived.Test.YtnndifemkichmaaChO
import Derived.Test.YtnndifemkichmaaNwI
import Derived.Test.YtnndifemkichmaaMC
import Derived.Test.YtnndifemkichmaaChA
import Derived.Test.YtnndifemkichmaaChJ
import Derived.Test.YtnndifemkichmaaChS
import Derived.Test.YtnndifemkichmaaSnD
import Derived.Test.YtnndifemkichmaaProg
import Derived.WalkKit
import Derived.ProofKit
import Derived.OpenShut
import Derived.WalkLawsBesides
import Derived.WalkSpells
import Derived.ShutString
import Derived.ChangeOld
import Derived.Below
import Derived.Lib.Hide
import Derived.BigQuiet
import Derived.Deep.QuietTactic
import Derived.Maps.AppendAt
import Derived.Deep.OwnRows
import Derived.Handy
import Derived.Deep.Draws
import Derived.OwnWalk
import Derived.Deep.AppendLies
import Derived.Deep.LoopGhost
import Derived.Deep.Onto
import Derived.Deep.MidRow
import Derived.Deep.WholeRow
import Derived.Laws.BitsAllLaws
import Derived.Lib.QuoteBits
import Derived.Deep.RegionHeld3
import Derived.Deep.DeepCutAuto
import Derived.Test.YtnndifemkichmaaShelf
import Derived.Laws.CopyOwn
import Derived.Deep.RegionLaw
import Derived.Great.BuildSlice
import Derived.Laws.AppendOwn
import Derived.Shelf.RegionOpenPlain
import Derived.Lib.SliceRun
import Derived.Deep.RegionWith
namespace Go.Proofs.Ytnndifemkichmaa
open Go.RowKit
theorem nw_cn {s : Sn} {n : Nat} (h1 : 1 ≤ n) (h3 : n ≤ 3) : cnOk ⟨List.replicate n (newIm s.w s.h s.back), List.replicate n 0, [], s⟩ ↔ snOk s := by
 constructor
 ·exact fun h => h.1
 ·intro h
  refine ⟨h, ⟨by simp; omega, fun k f hf => ?_⟩, ⟨by simp, fun k r hr => by simp at hr⟩, by simp, fun k x hx => ?_⟩
  ·have hk : k < n := by have := (List.getElem?_eq_some_iff.1 hf).1; rwa [List.length_replicate] at this
   rw [List.getElem?_replicate, if_pos hk] at hf
   have e := Option.some.inj hf
   have hp := h.2.1.1
   rw [new_yes h.1 hp] at e
   subst e
   obtain ⟨m, hm1, hm2, hm3, hm4⟩ := flat_size h.1 s.back
   refine ⟨rfl, rfl, h.1, ?_, fun j y hy => ?_⟩
   ·dsimp only; rw [hm4, tabI_length]; exact hm3
   ·dsimp only at hy
    rw [hm4] at hy
    have hj : j < m := by have := (List.getElem?_eq_some_iff.1 hy).1; rwa [tabI_length] at this
    rw [tabI_get m _ j hj] at hy
    rw [← Option.some.inj hy]; exact hp
  ·have hk : k < n := by have := (List.getElem?_eq_some_iff.1 hx).1; rwa [List.length_replicate] at this
   rw [List.getElem?_replicate, if_pos hk] at hx
   have e := Option.some.inj hx
   subst e
   exact ⟨⟨Int.le_refl _, by unfold grA; split <;> omega⟩, .inl rfl⟩
theorem nw_cn0 {s : Sn} : ¬ cnOk ⟨[], [], [], s⟩ := fun h => by have := h.2.1.1.1; simp at this
structure NvL (w : World) (s : Sn) (v : Value) (cs : List Nat) (b6 : Nat) (I : Im) (ki ka : Nat) (u0 : Value) (bi : List Nat) (u1 u3 : Value) (bt : List Nat) (W : World) : Prop where
 a : SnA w.heap.size s v cs W
 z : BkAt W (w.heap.size + 1) 38 #[.slice none 0 0, .slice none 0 0, .slice none 0 0, .int .i64 0, .int .i64 0, .int .i64 0, .slice none 0 0]
 c : BkAt W b6 38 #[u0, u1, .slice none 0 0, .int .i64 s.w, .int .i64 s.h, .int .i64 s.back, u3]
 i : repIms.Own (b6 + 1) W (List.replicate ki I) [u0] bi
 g : W.ownsRow (b6 + 1) 3 1 u1 ka (intCells (tabI ka fun _ => 0))
 t : repSfs.Own (w.heap.size + 1 + 1) W s.fs [u3] bt
 n1 : ∀ q ∈ bi, u1.ownBlock ≠ some q
 n2 : ∀ q ∈ bi, q ∉ bt
 n3 : ∀ q, u1.ownBlock = some q → q ∉ bt
 n6 : b6 ∉ bt
 bw : Below w.heap.size w W
 lb : w.heap.size + 1 < b6
theorem NvL.call {w : World} {s : Sn} {v : Value} {cs : List Nat} {b6 : Nat} {I : Im} {ki ka : Nat} {u0 : Value} {bi : List Nat} {u1 u3 : Value} {bt : List Nat} {W W' : World} (h : NvL w s v cs b6 I ki ka u0 bi u1 u3 bt W) (hb : Below W.heap.size W W') : NvL w s v cs b6 I ki ka u0 bi u1 u3 bt W' :=
 ⟨h.a.call hb, h.z.call hb, h.c.call hb, h.i.call hb, own_callN h.g hb, h.t.call hb, h.n1, h.n2, h.n3, h.n6, belI_call h.bw hb, h.lb⟩
theorem own0 {u : Value} {bi : List Nat} {w : World} {L : List Im} {B : Nat} (h : repIms.Own B w L [u] bi) : ∀ q, u.ownBlock = some q → q ∈ bi := fun q hq => by
 obtain ⟨v', xs, bss, e, _, _, _, rfl⟩ := h.r
 obtain rfl : u = v' := by simpa using e
 exact List.mem_append.2 (.inl (by simp [hq]))
theorem one_int (w : World) : (w.alloc (.cells #[.int .i64 0] 3)).ownsRow 0 3 1 (.slice (some ⟨w.heap.size, 0, none⟩) 1 1) 1 [.int .i64 0] := ⟨rfl, .inr ⟨_, 1, _, rfl, Nat.zero_le _, heap_alloc_new _ _, Nat.le_refl _, by unfold maxLen; omega, rfl, rfl⟩⟩
theorem wpList_append_zero {ops : Array Oper} {rest : List Oper} {o : Oper} {a : Act} {Q : Exit → Act → World → Prop} (w : World) (hgd : o.guard = none) (s x : Operand)
  (ho : o.op = .call { callee := .builtin .append, args := #[s, x], argTypes := #[23, 23] }) (B : Nat) (u1 : Value) (j : Nat) (xs : List Value) (hs : a.eval s = u1) (hown : w.ownsRow B 3 1 u1 j xs) (g1 : Nat)
  (hx : a.eval x = .slice (some ⟨g1, 0, none⟩) 1 1) (h1 : w.ownsRow 0 3 1 (.slice (some ⟨g1, 0, none⟩) 1 1) 1 [.int .i64 0]) (hj : j ≤ 1000) (hB : B ≤ w.heap.size)
  (h : ∀ v' w', w'.ownsRow B 3 1 v' (j + 1) (xs ++ [.int .i64 0]) → w.grownBy w' u1.ownBlock → Hid (v'.ownBlock = u1.ownBlock ∨ v'.ownBlock = some w.heap.size) → wpList Try.prog ops Q rest (a.put o.dst v') w') : wpList Try.prog ops Q (o :: rest) a w := by
 obtain ⟨i0, hi, hz0, hz1, hz2⟩ := info_parts infoInt
 refine wpList_plain hgd fun K hK => ?_
 exact wp_append_row s x 23 ho B 0 3 i0 (.int .i64 0) 1 8 Try.underlying23 hi hz0 hz1 hz2 rfl (by decide) u1 j xs hs hown _ 1 [.int .i64 0] hx h1 (by intro u hu; simp at hu; subst hu; rfl) (by unfold maxLen; omega) (by omega) hB (fun v' w' q1 q2 q3 => hK _ _ (h v' w' q1 q2 (Lib.hid q3)))
structure NvB (w : World) (s : Sn) (v : Value) (cs : List Nat) (W : World) : Prop where
 a : SnA w.heap.size s v cs W
 bw : Below w.heap.size w W
theorem NvB.call {w : World} {s : Sn} {v : Value} {cs : List Nat} {W W' : World} (h : NvB w s v cs W) (hb : Below W.heap.size W W') : NvB w s v cs W' := ⟨h.a.call hb, belI_call h.bw hb⟩
theorem NvB.chg {w : World} {s : Sn} {v : Value} {cs ks : List Nat} {W W' : World} (h : NvB w s v cs W) (hc : Chg W W' ks) (hk : ∀ q ∈ ks, w.heap.size + 1 < q) (hcs : ∀ q ∈ cs, q < w.heap.size) : NvB w s v cs W' :=
 ⟨⟨(hc.block _ h.a.at_.lt fun e => by have := hk _ e; omega).trans h.a.at_, Rep.chg h.a.r hc fun q hq e => by have h1 := hcs q hq; have h2 := hk q e; omega⟩, hc.below h.bw h.bw.size fun q hq => by have := hk q hq; omega⟩
theorem NvL.image {w : World} {s : Sn} {v : Value} {cs : List Nat} {b6 : Nat} {I : Im} {ki ka : Nat} {u0 : Value} {bi : List Nat} {u1 u3 : Value} {bt : List Nat} {W W' : World} (h : NvL w s v cs b6 I ki ka u0 bi u1 u3 bt W) {V : World} {v' : Value} {bi' : List Nat} (hV : Below W.heap.size W V) (hg : V.grownBy W' u0.ownBlock) (hi : repIms.Own (b6 + 1) W' (List.replicate ki I ++ [I]) [v'] bi') (hf : ∀ q ∈ bi', q ∈ bi ∨ W.heap.size ≤ q) (hcs : ∀ q ∈ cs, q < w.heap.size) :
  NvL w s v cs b6 I (ki + 1) ka v' bi' u1 u3 bt (W'.setCell ⟨b6, 0, none⟩ v') := by
 have hc : Chg V W' u0.ownBlock.toList := Chg.of_grown hg
 have hs : Chg W' (W'.setCell ⟨b6, 0, none⟩ v') [b6] := Chg.setB _ _ _ _ _ (by simp)
 have h0 : ∀ q ∈ u0.ownBlock.toList, b6 + 1 ≤ q := fun q hq => h.i.lo q (own0 h.i q (by simpa using hq))
 have hV1 := h.call hV
 have hl := hV1.lb
 have far : ∀ q, q < V.heap.size → q ≤ b6 → W'.heap[q]? = V.heap[q]? := fun q hq hq' => hc.block q hq fun e => by have := h0 q e; omega
 have k1 : ∀ q, q ≠ b6 → q < W'.heap.size → (W'.setCell ⟨b6, 0, none⟩ v').heap[q]? = W'.heap[q]? := fun q hq hl => hs.block q hl (by simpa using hq)
 have hsz := hc.size
 have hcV : Chg W V [] := Chg.of_below [] hV
 refine ⟨⟨(k1 _ (by omega) (by have := hV1.a.at_.lt; omega)).trans ((far _ hV1.a.at_.lt (by omega)).trans hV1.a.at_), Rep.chg (Rep.chg hV1.a.r hc fun q hq e => by have h1 := hcs q hq; have h2 := h0 q e; omega) hs fun q hq e => by have h1 := hcs q hq; have h2 : q = b6 := (by simpa using e); omega⟩,
  (k1 _ (by omega) (by have := hV1.z.lt; omega)).trans ((far _ hV1.z.lt (by omega)).trans hV1.z),
  BkAt.put ((far b6 hV1.c.lt (Nat.le_refl _)).trans hV1.c) 0 v' rfl,
  by rw [List.replicate_succ']; exact hi.chg hs fun q hq e => by have h1 := hi.lo q hq; have h2 : q = b6 := (by simpa using e); omega,
  own_chgN (own_chgN hV1.g hc fun q hq e => h.n1 q (own0 h.i q (by simpa using e)) (by simpa using hq)) hs fun q hq e => by have h1 := (own_ltB h.g q hq).1; have h2 : q = b6 := (by simpa using e); omega,
  (hV1.t.chg hc fun q hq e => h.n2 q (own0 h.i q (by simpa using e)) hq).chg hs fun q hq e => h.n6 (by have h2 : q = b6 := (by simpa using e); exact h2 ▸ hq),
  fun q hq e => ?_, fun q hq hq' => ?_, h.n3, h.n6, ?_, h.lb⟩
 ·rcases hf q hq with h1 | h1
  ·exact h.n1 q h1 e
  ·have := (own_ltB h.g q (by simpa using e)).2; omega
 ·rcases hf q hq with h1 | h1
  ·exact h.n2 q h1 hq'
  ·have := repSfs.ex h.t.r q hq'; omega
 ·exact hs.below (hc.below hV1.bw hV1.bw.size fun q hq => by have := h0 q hq; omega) (by have := hV1.bw.size; omega) fun q hq => by rw [List.mem_singleton.1 hq]; omega
theorem NvL.age {w : World} {s : Sn} {v : Value} {cs : List Nat} {b6 : Nat} {I : Im} {ki ka : Nat} {u0 : Value} {bi : List Nat} {u1 u3 : Value} {bt : List Nat} {W W' : World} (h : NvL w s v cs b6 I ki ka u0 bi u1 u3 bt W) {V : World} {v' : Value} (hV : Below W.heap.size W V) (hg : V.grownBy W' u1.ownBlock) (hi : W'.ownsRow (b6 + 1) 3 1 v' (ka + 1) (intCells (tabI (ka + 1) fun _ => 0))) (hf : ∀ q, v'.ownBlock = some q → u1.ownBlock = some q ∨ W.heap.size ≤ q) (hcs : ∀ q ∈ cs, q < w.heap.size) :
  NvL w s v cs b6 I ki (ka + 1) u0 bi v' u3 bt (W'.setCell ⟨b6, 1, none⟩ v') := by
 have hc : Chg V W' u1.ownBlock.toList := Chg.of_grown hg
 have hs : Chg W' (W'.setCell ⟨b6, 1, none⟩ v') [b6] := Chg.setB _ _ _ _ _ (by simp)
 have h0 : ∀ q ∈ u1.ownBlock.toList, b6 + 1 ≤ q := fun q hq => (own_ltB h.g q hq).1
 have hV1 := h.call hV
 have hl := hV1.lb
 have far : ∀ q, q < V.heap.size → q ≤ b6 → W'.heap[q]? = V.heap[q]? := fun q hq hq' => hc.block q hq fun e => by have := h0 q e; omega
 have k1 : ∀ q, q ≠ b6 → q < W'.heap.size → (W'.setCell ⟨b6, 1, none⟩ v').heap[q]? = W'.heap[q]? := fun q hq hl => hs.block q hl (by simpa using hq)
 have hsz := hc.size
 refine ⟨⟨(k1 _ (by omega) (by have := hV1.a.at_.lt; omega)).trans ((far _ hV1.a.at_.lt (by omega)).trans hV1.a.at_), Rep.chg (Rep.chg hV1.a.r hc fun q hq e => by have h1 := hcs q hq; have h2 := h0 q e; omega) hs fun q hq e => by have h1 := hcs q hq; have h2 : q = b6 := (by simpa using e); omega⟩,
  (k1 _ (by omega) (by have := hV1.z.lt; omega)).trans ((far _ hV1.z.lt (by omega)).trans hV1.z),
  BkAt.put ((far b6 hV1.c.lt (Nat.le_refl _)).trans hV1.c) 1 v' rfl,
  (hV1.i.chg hc fun q hq e => h.n1 q hq (by simpa using e)).chg hs fun q hq e => by have h1 := h.i.lo q hq; have h2 : q = b6 := (by simpa using e); omega,
  own_chgN hi hs fun q hq e => by have h1 := (own_ltB hi q hq).1; have h2 : q = b6 := (by simpa using e); omega,
  (hV1.t.chg hc fun q hq e => h.n3 q (by simpa using e) hq).chg hs fun q hq e => h.n6 (by have h2 : q = b6 := (by simpa using e); exact h2 ▸ hq),
  fun q hq e => ?_, h.n2, fun q hq hq' => ?_, h.n6, ?_, h.lb⟩
 ·rcases hf q e with h1 | h1
  ·exact h.n1 q hq h1
  ·have := repIms.ex h.i.r q hq; omega
 ·rcases hf q hq with h1 | h1
  ·exact h.n3 q h1 hq'
  ·have := repSfs.ex h.t.r q hq'; omega
 ·exact hs.below (hc.below hV1.bw hV1.bw.size fun q hq => by have := h0 q hq; omega) (by have := hV1.bw.size; omega) fun q hq => by rw [List.mem_singleton.1 hq]; omega
theorem NvL.own {w : World} {s : Sn} {v : Value} {cs : List Nat} {b6 : Nat} {I : Im} {ki ka : Nat} {u0 : Value} {bi : List Nat} {u1 u3 : Value} {bt : List Nat} {W : World} (h : NvL w s v cs b6 I ki ka u0 bi u1 u3 bt W) : repCh.Own (w.heap.size + 1 + 1) W ⟨List.replicate ki I, List.replicate ka 0, [], s⟩ [u0, u1, .slice none 0 0, .int .i64 s.w, .int .i64 s.h, .int .i64 s.back, u3] (bi ++ (u1.ownBlock.toList ++ ([] ++ bt))) :=
 CnOwn.rep (f := ⟨List.replicate ki I, List.replicate ka 0, [], s⟩) ⟨h.i.mono (by have := h.lb; omega), (repInts_own (B := w.heap.size + 1 + 1) (L := List.replicate ka 0) (by rw [List.length_replicate, rep0]; exact own_rebase h.g fun q hq => by have := (own_ltB h.g q hq).1; have := h.lb; omega)), nil_own _ _ _ _ _ _, h.t,
  fun k q q' => h.n1 k q (by simpa using q'), fun k q q' => by simp at q', h.n2, fun k q q' => by simp at q', fun k q => h.n3 k (by simpa using q), fun k q => by simp at q⟩
set_option maxHeartbeats 8000000 in
set_option maxRecDepth 10000 in
theorem nwS (s : Sn) (v : Value) (cs : List Nat) (k : Int) (w : World) (hm : sizFs s.fs ≤ 2097152) (hs : repSfs.R w s.fs [v] cs) :
  Calls Try.prog 15 #[.agg #[.int .i64 s.w, .int .i64 s.h, .int .i64 s.back, v], .int .i64 k] w (NwAns (nwM s k) (nwB s k) w) := by
 obtain ⟨⟨Av, cv, rfl⟩, _⟩ := repSfs_form hs
 obtain ⟨W0, hW0⟩ : ∃ W, W = (w.alloc (.cells #[.int .i64 s.w, .int .i64 s.h, .int .i64 s.back, .slice Av s.fs.length cv] 36)).alloc (.cells #[.slice none 0 0, .slice none 0 0, .slice none 0 0, .int .i64 0, .int .i64 0, .int .i64 0, .slice none 0 0] 38) := ⟨_, rfl⟩
 have hA : SnA w.heap.size s (.slice Av s.fs.length cv) cs W0 := by rw [hW0]; exact (SnA.born hs).call (belI_box _ _)
 have hZ : BkAt W0 (w.heap.size + 1) 38 #[.slice none 0 0, .slice none 0 0, .slice none 0 0, .int .i64 0, .int .i64 0, .int .i64 0, .slice none 0 0] := by rw [hW0]; exact BkAt.newAt (by simp) _ _
 have hB : Below w.heap.size w W0 := by rw [hW0]; exact belI_call (belI_box _ _) (belI_box _ _)
 have hsz : w.heap.size + 1 + 1 ≤ W0.heap.size := by rw [hW0]; simp
 have HC := Lib.hid (copySn s _ cs W0 hm hA.r)
 unfold SnAns at HC
 obtain ⟨x0, x1, x2, x3⟩ := hA.cells
 rw [hW0] at x0 x1 x2 x3
 have HW0 := Lib.hid hW0
 have HA := Lib.hid hA
 have HZ := Lib.hid hZ
 have HB := Lib.hid hB
 have Hsz := Lib.hid hsz
 have Hcs := Lib.hid (repSfs.ex hs)
 clear hs hA hZ hB hm hW0 hsz
 obtain ⟨I, hI⟩ : ∃ I, I = newIm s.w s.h s.back := ⟨_, rfl⟩
 have HI := Lib.hid (fun W => newS s.w s.h s.back W)
 unfold AnsIm ImAns at HI
 rw [← hI] at HI
 have HIe := Lib.hid hI
 clear hI
 obtain ⟨i0, hi, hz0, hz1, hz2⟩ := info_parts infoInt
 have HJ := Lib.hid (And.intro hi (And.intro hz0 (And.intro hz1 hz2)))
 clear hi hz0 hz1 hz2
 by_cases q1 : 1 ≤ k ∧ k ≤ 3
 rotate_left
 ·have hno : ¬ nwP s k := fun h => q1 h.2
  rw [nwM_no hno, nwB_no hno]
  have q2 : k ≤ 0 ∨ 3 < k := by omega
  clear hno
  go_enter Try.func15, Try.ntmps15
  go_wp2_with fail
  rw [← HW0.out]
  refine HC.out.mono ?_
  rintro e w1 ⟨u3, bt, rfl, ht, hb⟩
  obtain ⟨⟨At, ct, rfl⟩, _⟩ := repSfs_form ht.r
  obtain ⟨V1, hV1⟩ : ∃ V, V = w1.alloc (.cells #[.slice none 0 0, .slice none 0 0, .slice none 0 0, .int .i64 s.w, .int .i64 s.h, .int .i64 s.back, .slice At s.fs.length ct] 38) := ⟨_, rfl⟩
  obtain ⟨b6, hb6⟩ : ∃ b, b = w1.heap.size := ⟨_, rfl⟩
  have hbx : Below w1.heap.size w1 V1 := by rw [hV1]; exact belI_box _ _
  have hL : NvL w s (.slice Av s.fs.length cv) cs b6 I 0 0 (.slice none 0 0) [] (.slice none 0 0) (.slice At s.fs.length ct) bt V1 :=
   ⟨(HA.out.call hb).call hbx, (HZ.out.call hb).call hbx, by rw [hV1, hb6]; exact BkAt.new _ _ _, nil_own _ _ _ _ _ _, World.ownsRow_nil _ _ _ _, (ht.mono Hsz.out).call hbx, fun q hq => by simp at hq, fun q hq => by simp at hq, fun q hq => by simp [Value.ownBlock] at hq, fun hk => by have := repSfs.ex ht.r _ hk; omega, belI_call (belI_call HB.out hb) hbx, by have h1 := Hsz.out; have h2 := hb.size; omega⟩
  have HL := Lib.hid hL
  have HV1 := Lib.hid hV1
  have HB6 := Lib.hid hb6
  clear x0 x1 x2 x3 ht hb hbx hL hV1 hb6
  go_wp2_with fail
  rw [← HV1.out, ← HB6.out]
  go_loopw [7] (fun s7 wr => s7 = .int .i64 0 ∧ Hid (NvL w s (.slice Av s.fs.length cv) cs b6 I 0 0 (.slice none 0 0) [] (.slice none 0 0) (.slice At s.fs.length ct) bt wr)) (fun _ _ => 0)
  case atStart => exact ⟨rfl, HL⟩
  case round =>
   clear HL
   obtain ⟨rfl, HL⟩ := hrel
   have HK := Lib.hid (cnS ⟨[], [], [], s⟩ _ _ _ _ _ _ HL.out.own.r)
   unfold CnOkAns at HK
   rw [cnB_no nw_cn0] at HK
   have c0 := HL.out.c.cell 0 rfl
   have c1 := HL.out.c.cell 1 rfl
   have c2 := HL.out.c.cell 2 rfl
   have c3 := HL.out.c.cell 3 rfl
   have c4 := HL.out.c.cell 4 rfl
   have c5 := HL.out.c.cell 5 rfl
   have c6 := HL.out.c.cell 6 rfl
   rcases q2 with q2 | q2
   ·have q3 : ¬ (0 : Int) < k := by omega
    go_wp2_with fail
    clear c0 c1 c2 c3 c4 c5 c6
    refine HK.out.mono ?_
    rintro e w2 ⟨rfl, hb⟩
    have hZ1 := HL.out.z.call hb
    have HB1 := Lib.hid (belI_call HL.out.bw hb)
    have z0 := hZ1.cell 0 rfl
    have f0 := hZ1.frozen 0
    have z1 := hZ1.cell 1 rfl
    have f1 := hZ1.frozen 1
    have z2 := hZ1.cell 2 rfl
    have f2 := hZ1.frozen 2
    have z3 := hZ1.cell 3 rfl
    have f3 := hZ1.frozen 3
    have z4 := hZ1.cell 4 rfl
    have f4 := hZ1.frozen 4
    have z5 := hZ1.cell 5 rfl
    have f5 := hZ1.frozen 5
    have z6 := hZ1.cell 6 rfl
    have f6 := hZ1.frozen 6
    clear hb
    go_wp2_with fail
    have t0 := hZ1
    have t1 := t0.put (cs' := #[.slice none 0 0, .slice none 0 0, .slice none 0 0, .int .i64 0, .int .i64 0, .int .i64 0, .slice none 0 0]) 0 (.slice none 0 0) rfl
    have t2 := t1.put (cs' := #[.slice none 0 0, .slice none 0 0, .slice none 0 0, .int .i64 0, .int .i64 0, .int .i64 0, .slice none 0 0]) 1 (.slice none 0 0) rfl
    have t3 := t2.put (cs' := #[.slice none 0 0, .slice none 0 0, .slice none 0 0, .int .i64 0, .int .i64 0, .int .i64 0, .slice none 0 0]) 2 (.slice none 0 0) rfl
    have t4 := t3.put (cs' := #[.slice none 0 0, .slice none 0 0, .slice none 0 0, .int .i64 0, .int .i64 0, .int .i64 0, .slice none 0 0]) 3 (.int .i64 0) rfl
    have t5 := t4.put (cs' := #[.slice none 0 0, .slice none 0 0, .slice none 0 0, .int .i64 0, .int .i64 0, .int .i64 0, .slice none 0 0]) 4 (.int .i64 0) rfl
    have t6 := t5.put (cs' := #[.slice none 0 0, .slice none 0 0, .slice none 0 0, .int .i64 0, .int .i64 0, .int .i64 0, .slice none 0 0]) 5 (.int .i64 0) rfl
    have t7 := t6.put (cs' := #[.slice none 0 0, .slice none 0 0, .slice none 0 0, .int .i64 0, .int .i64 0, .int .i64 0, .slice none 0 0]) 6 (.slice none 0 0) rfl
    have y0 := t7.cell 0 rfl
    have y1 := t7.cell 1 rfl
    have y2 := t7.cell 2 rfl
    have y3 := t7.cell 3 rfl
    have y4 := t7.cell 4 rfl
    have y5 := t7.cell 5 rfl
    have y6 := t7.cell 6 rfl
    exact bodyPost_ret (v := .tuple #[.agg #[.slice none 0 0, .slice none 0 0, .slice none 0 0, .int .i64 0, .int .i64 0, .int .i64 0, .slice none 0 0], .bool false]) (by simp [results, Try.results15, go_sem, y0, y1, y2, y3, y4, y5, y6]) rfl (nw_nil (((((((HB1.out.setCell (p := ⟨w.heap.size + 1, 0, none⟩) (by dsimp only; omega) (.slice none 0 0)).setCell (p := ⟨w.heap.size + 1, 1, none⟩) (by dsimp only; omega) (.slice none 0 0)).setCell (p := ⟨w.heap.size + 1, 2, none⟩) (by dsimp only; omega) (.slice none 0 0)).setCell (p := ⟨w.heap.size + 1, 3, none⟩) (by dsimp only; omega) (.int .i64 0)).setCell (p := ⟨w.heap.size + 1, 4, none⟩) (by dsimp only; omega) (.int .i64 0)).setCell (p := ⟨w.heap.size + 1, 5, none⟩) (by dsimp only; omega) (.int .i64 0)).setCell (p := ⟨w.heap.size + 1, 6, none⟩) (by dsimp only; omega) (.slice none 0 0)))
   ·have q3 : (0 : Int) < k := by omega
    have q4 : ¬ k ≤ 3 := by omega
    go_wp2_with fail
    clear c0 c1 c2 c3 c4 c5 c6
    refine HK.out.mono ?_
    rintro e w2 ⟨rfl, hb⟩
    have hZ1 := HL.out.z.call hb
    have HB1 := Lib.hid (belI_call HL.out.bw hb)
    have z0 := hZ1.cell 0 rfl
    have f0 := hZ1.frozen 0
    have z1 := hZ1.cell 1 rfl
    have f1 := hZ1.frozen 1
    have z2 := hZ1.cell 2 rfl
    have f2 := hZ1.frozen 2
    have z3 := hZ1.cell 3 rfl
    have f3 := hZ1.frozen 3
    have z4 := hZ1.cell 4 rfl
    have f4 := hZ1.frozen 4
    have z5 := hZ1.cell 5 rfl
    have f5 := hZ1.frozen 5
    have z6 := hZ1.cell 6 rfl
    have f6 := hZ1.frozen 6
    clear hb
    go_wp2_with fail
    have t0 := hZ1
    have t1 := t0.put (cs' := #[.slice none 0 0, .slice none 0 0, .slice none 0 0, .int .i64 0, .int .i64 0, .int .i64 0, .slice none 0 0]) 0 (.slice none 0 0) rfl
    have t2 := t1.put (cs' := #[.slice none 0 0, .slice none 0 0, .slice none 0 0, .int .i64 0, .int .i64 0, .int .i64 0, .slice none 0 0]) 1 (.slice none 0 0) rfl
    have t3 := t2.put (cs' := #[.slice none 0 0, .slice none 0 0, .slice none 0 0, .int .i64 0, .int .i64 0, .int .i64 0, .slice none 0 0]) 2 (.slice none 0 0) rfl
    have t4 := t3.put (cs' := #[.slice none 0 0, .slice none 0 0, .slice none 0 0, .int .i64 0, .int .i64 0, .int .i64 0, .slice none 0 0]) 3 (.int .i64 0) rfl
    have t5 := t4.put (cs' := #[.slice none 0 0, .slice none 0 0, .slice none 0 0, .int .i64 0, .int .i64 0, .int .i64 0, .slice none 0 0]) 4 (.int .i64 0) rfl
    have t6 := t5.put (cs' := #[.slice none 0 0, .slice none 0 0, .slice none 0 0, .int .i64 0, .int .i64 0, .int .i64 0, .slice none 0 0]) 5 (.int .i64 0) rfl
    have t7 := t6.put (cs' := #[.slice none 0 0, .slice none 0 0, .slice none 0 0, .int .i64 0, .int .i64 0, .int .i64 0, .slice none 0 0]) 6 (.slice none 0 0) rfl
    have y0 := t7.cell 0 rfl
    have y1 := t7.cell 1 rfl
    have y2 := t7.cell 2 rfl
    have y3 := t7.cell 3 rfl
    have y4 := t7.cell 4 rfl
    have y5 := t7.cell 5 rfl
    have y6 := t7.cell 6 rfl
    exact bodyPost_ret (v := .tuple #[.agg #[.slice none 0 0, .slice none 0 0, .slice none 0 0, .int .i64 0, .int .i64 0, .int .i64 0, .slice none 0 0], .bool false]) (by simp [results, Try.results15, go_sem, y0, y1, y2, y3, y4, y5, y6]) rfl (nw_nil (((((((HB1.out.setCell (p := ⟨w.heap.size + 1, 0, none⟩) (by dsimp only; omega) (.slice none 0 0)).setCell (p := ⟨w.heap.size + 1, 1, none⟩) (by dsimp only; omega) (.slice none 0 0)).setCell (p := ⟨w.heap.size + 1, 2, none⟩) (by dsimp only; omega) (.slice none 0 0)).setCell (p := ⟨w.heap.size + 1, 3, none⟩) (by dsimp only; omega) (.int .i64 0)).setCell (p := ⟨w.heap.size + 1, 4, none⟩) (by dsimp only; omega) (.int .i64 0)).setCell (p := ⟨w.heap.size + 1, 5, none⟩) (by dsimp only; omega) (.int .i64 0)).setCell (p := ⟨w.heap.size + 1, 6, none⟩) (by dsimp only; omega) (.slice none 0 0)))
 obtain ⟨n, rfl⟩ : ∃ n : Nat, k = (n : Int) := ⟨k.toNat, by omega⟩
 have h1 : 1 ≤ n := by omega
 have h2 : n ≤ 3 := by omega
 have h2i : (n : Int) ≤ 3 := by omega
 clear q1
 go_enter Try.func15, Try.ntmps15
 go_wp2_with fail
 rw [← HW0.out]
 refine HC.out.mono ?_
 rintro e w1 ⟨u3, bt, rfl, ht, hb⟩
 obtain ⟨⟨At, ct, rfl⟩, _⟩ := repSfs_form ht.r
 obtain ⟨V1, hV1⟩ : ∃ V, V = w1.alloc (.cells #[.slice none 0 0, .slice none 0 0, .slice none 0 0, .int .i64 s.w, .int .i64 s.h, .int .i64 s.back, .slice At s.fs.length ct] 38) := ⟨_, rfl⟩
 obtain ⟨b6, hb6⟩ : ∃ b, b = w1.heap.size := ⟨_, rfl⟩
 have hbx : Below w1.heap.size w1 V1 := by rw [hV1]; exact belI_box _ _
 have hL : NvL w s (.slice Av s.fs.length cv) cs b6 I 0 0 (.slice none 0 0) [] (.slice none 0 0) (.slice At s.fs.length ct) bt V1 :=
  ⟨(HA.out.call hb).call hbx, (HZ.out.call hb).call hbx, by rw [hV1, hb6]; exact BkAt.new _ _ _, nil_own _ _ _ _ _ _, World.ownsRow_nil _ _ _ _, (ht.mono Hsz.out).call hbx, fun q hq => by simp at hq, fun q hq => by simp at hq, fun q hq => by simp [Value.ownBlock] at hq, fun hk => by have := repSfs.ex ht.r _ hk; omega, belI_call (belI_call HB.out hb) hbx, by have h1 := Hsz.out; have h2 := hb.size; omega⟩
 have HL := Lib.hid hL
 have HV1 := Lib.hid hV1
 have HB6 := Lib.hid hb6
 clear x0 x1 x2 x3 ht hb hbx hL hV1 hb6
 go_wp2_with fail
 rw [← HV1.out, ← HB6.out]
 go_loopw [7] (fun s7 wr => ∃ (j : Nat) (u0 : Value) (bi : List Nat) (u1 : Value), j ≤ n ∧ s7 = .int .i64 j ∧ Hid (NvL w s (.slice Av s.fs.length cv) cs b6 I j j u0 bi u1 (.slice At s.fs.length ct) bt wr)) (fun s7 _ => n - (intOf s7).toNat)
 case atStart => exact ⟨0, _, _, _, Nat.zero_le _, rfl, HL⟩
 case round =>
  clear HL
  obtain ⟨j, u0, bi, u1, hj, rfl, HL⟩ := hrel
  by_cases hlt : j < n
  ·have j0 : (0 : Int) ≤ (j : Int) := by omega
   have j1 : (j : Int) < (n : Int) := by omega
   obtain ⟨V, hV⟩ : ∃ V, V = wr := ⟨_, rfl⟩
   rw [← hV]
   rw [← hV] at HL
   clear hV
   go_upto_region 5 with fail
   go_cut [7] (fun s7 wx => ∃ (u0' : Value) (bi' : List Nat), s7 = .int .i64 j ∧ NvL w s (.slice Av s.fs.length cv) cs b6 I (j + 1) j u0' bi' u1 (.slice At s.fs.length ct) bt wx)
   case first =>
    refine wp_region_held_drew (S := fun W => NvB w s (.slice Av s.fs.length cv) cs W) (by kernel_rfl) ⟨HL.out.a.call (belI_drew _), belI_call HL.out.bw (belI_drew _)⟩ (fun hS => ?_)
    have hL := HL.out.call (belI_drew _)
    have hbV := belI_drew V
    refine tcH (i := 0) (v := .pointer (some ⟨b6, 0, none⟩)) rfl (by intro w' hSw; (try dsimp only at hSw); (obtain ⟨d0, d1, d2, d3⟩ := hSw.a.cells); go_simp) ?_
    refine tcH (i := 2) (v := .pointer (some ⟨w.heap.size, 0, none⟩)) rfl (by intro w' hSw; (try dsimp only at hSw); (obtain ⟨d0, d1, d2, d3⟩ := hSw.a.cells); go_simp) ?_
    refine tcH (i := 3) (v := .int .i64 s.w) rfl (by intro w' hSw; (try dsimp only at hSw); (obtain ⟨d0, d1, d2, d3⟩ := hSw.a.cells); go_simp) ?_
    refine tcH (i := 4) (v := .pointer (some ⟨w.heap.size, 1, none⟩)) rfl (by intro w' hSw; (try dsimp only at hSw); (obtain ⟨d0, d1, d2, d3⟩ := hSw.a.cells); go_simp) ?_
    refine tcH (i := 5) (v := .int .i64 s.h) rfl (by intro w' hSw; (try dsimp only at hSw); (obtain ⟨d0, d1, d2, d3⟩ := hSw.a.cells); go_simp) ?_
    refine tcH (i := 6) (v := .pointer (some ⟨w.heap.size, 2, none⟩)) rfl (by intro w' hSw; (try dsimp only at hSw); (obtain ⟨d0, d1, d2, d3⟩ := hSw.a.cells); go_simp) ?_
    refine tcH (i := 7) (v := .int .i64 s.back) rfl (by intro w' hSw; (try dsimp only at hSw); (obtain ⟨d0, d1, d2, d3⟩ := hSw.a.cells); go_simp) ?_
    (try simp only [Act.put]); (try simp only [zPa]); (try simp only [zPb, zPc])
    refine wpAnyH_ready (rs := [1, 8]) (by kernel_rfl) (by simp) ?_
    refine (AllReadyH.cons rfl (fun K hK => ?_) (AllReadyH.cons rfl (fun K hK => ?_) AllReadyH.nil))
    ·rw [if_pos (by kernel_rfl)]
     (try simp only [zGa]); (try simp only [zGb]); (try simp only [zGc])
     have m0 := hL.c.cell 0 rfl
     go_simp
     skip
     skip
     clear m0
     refine hK.out _ _ (hS) (fun hS => ?_)
     clear hK
     (try simp only [Act.put]); (try simp only [zPa]); (try simp only [zPb, zPc])
     refine wpAnyH_ready (rs := [8]) (by kernel_rfl) (by simp) ?_
     refine (AllReadyH.cons rfl (fun K hK => ?_) AllReadyH.nil)
     ·rw [if_pos (by kernel_rfl)]
      (try simp only [zGa]); (try simp only [zGb]); (try simp only [zGc])
      go_simp
      with_reducible refine (HI.out _).mono ?_
      rintro e W' ⟨d, rfl, hd, hb⟩
      obtain ⟨Ad, cd, rfl⟩ := ownI_shape hd
      replace hd := own_rebase (C := V.heap.size) hd (fun q hq => Nat.le_trans hbV.size ((own_ltB hd q hq).1))
      dsimp only
      have hL := hL.call hb
      have hbV := belI_call hbV hb
      refine hK.out _ _ (hS.call hb) (fun hS => ?_)
      clear hK
      (try simp only [Act.put]); (try simp only [zPa]); (try simp only [zPb, zPc])
      refine wpAnyH_ready (rs := [9]) (by kernel_rfl) (by simp) ?_
      refine (AllReadyH.cons rfl (fun K hK => ?_) AllReadyH.nil)
      ·rw [if_pos (by kernel_rfl)]
       (try simp only [zGa]); (try simp only [zGb]); (try simp only [zGc])
       refine wp_build_im 29 (.tmp 28) I (.slice Ad I.d.length cd) rfl (by first | with_reducible rfl | (go_simp; done) | rfl) rfl ?_
       intro g1 W' hb hg1 _
       have hL := hL.call hb
       have hbV := belI_call hbV hb
       have hd := own_callN hd hb
       refine hK.out _ _ (hS.call hb) (fun hS => ?_)
       clear hK
       (try simp only [Act.put]); (try simp only [zPa]); (try simp only [zPb, zPc])
       refine wpAnyH_ready (rs := [10]) (by kernel_rfl) (by simp) ?_
       refine (AllReadyH.cons rfl (fun K hK => ?_) AllReadyH.nil)
       ·rw [if_pos (by kernel_rfl)]
        (try simp only [zGa]); (try simp only [zGb]); (try simp only [zGc])
        have hl6 := HL.out.c.lt
        have hdo := own_rebase (C := b6 + 1) hd (fun q hq => by have h3 := (own_ltB hd q hq).1; omega)
        refine wp_append_im (.tmp 21) (.tmp 29) rfl (b6 + 1) u0 (List.replicate j I) bi (by first | with_reducible rfl | (go_simp; done) | rfl) hL.i g1 I (.slice Ad I.d.length cd) _ (by first | with_reducible rfl | (go_simp; done) | rfl) hg1 ⟨⟨_, rfl, (repInts_own hdo).r⟩, (repInts_own hdo).nd, (repInts_own hdo).lo⟩ (fun q hq hq' => by have h3 := (own_ltB hd q hq).1; have h4 := repIms.ex HL.out.i.r q hq'; omega) (by rw [List.length_replicate]; omega) (by have h4 := hL.c.lt; omega) ?_
        intro v' bi' W3 hi' hgr hfr hsh
        obtain ⟨A', c', hv'⟩ := hsh
        rw [List.length_replicate] at hv'
        subst hv'
        have hc3 := hL.c.grown hgr (fun e => by have h3 := HL.out.i.lo b6 (own0 HL.out.i b6 e.symm); omega)
        have hf : ∀ q ∈ bi', q ∈ bi ∨ V.heap.size ≤ q := fun q hq => by
         rcases hfr q hq with h3 | h3 | h3
         ·exact .inl h3
         ·exact .inr (own_ltB hd q h3).1
         ·exact .inr (Nat.le_trans hbV.size h3)
        skip
        skip
        skip
        skip
        refine hK.out _ _ (hS.chg (Chg.of_grown hgr) (fun q hq => by have h3 := HL.out.i.lo q (own0 HL.out.i q (by simpa using hq)); have h4 := HL.out.lb; omega) Hcs.out) (fun hS => ?_)
        clear hK
        (try simp only [Act.put]); (try simp only [zPa]); (try simp only [zPb, zPc])
        refine tcH (i := 11) (v := .pointer (some ⟨b6, 0, none⟩)) rfl (by intro w' hSw; (try dsimp only at hSw); (obtain ⟨d0, d1, d2, d3⟩ := hSw.a.cells); go_simp) ?_
        (try simp only [Act.put]); (try simp only [zPa]); (try simp only [zPb, zPc])
        refine wpAnyH_ready (rs := [12]) (by kernel_rfl) (by simp) ?_
        refine (AllReadyH.cons rfl (fun K hK => ?_) AllReadyH.nil)
        ·rw [if_pos (by kernel_rfl)]
         (try simp only [zGa]); (try simp only [zGb]); (try simp only [zGc])
         have m0 := hc3.cell 0 rfl
         have f0 := hc3.frozen 0
         go_simp
         skip
         skip
         skip
         skip
         clear m0 f0
         refine hK.out _ _ (hS.chg (Chg.setB _ b6 0 _ [b6] (by simp)) (fun q hq => by have h3 := HL.out.lb; rw [List.mem_singleton.1 hq]; omega) Hcs.out) (fun hS => ?_)
         clear hK
         (try simp only [Act.put]); (try simp only [zPa]); (try simp only [zPb, zPc])
         refine wpAnyH_done (by kernel_rfl) ?_ _
         go_wp2_with fail
         go_meet
         case rel => exact ⟨_, bi', rfl, HL.out.image hbV hgr hi' hf Hcs.out⟩
    ·rw [if_pos (by kernel_rfl)]
     (try simp only [zGa]); (try simp only [zGb]); (try simp only [zGc])
     go_simp
     with_reducible refine (HI.out _).mono ?_
     rintro e W' ⟨d, rfl, hd, hb⟩
     obtain ⟨Ad, cd, rfl⟩ := ownI_shape hd
     replace hd := own_rebase (C := V.heap.size) hd (fun q hq => Nat.le_trans hbV.size ((own_ltB hd q hq).1))
     dsimp only
     have hL := hL.call hb
     have hbV := belI_call hbV hb
     refine hK.out _ _ (hS.call hb) (fun hS => ?_)
     clear hK
     (try simp only [Act.put]); (try simp only [zPa]); (try simp only [zPb, zPc])
     refine wpAnyH_ready (rs := [1, 9]) (by kernel_rfl) (by simp) ?_
     refine (AllReadyH.cons rfl (fun K hK => ?_) (AllReadyH.cons rfl (fun K hK => ?_) AllReadyH.nil))
     ·rw [if_pos (by kernel_rfl)]
      (try simp only [zGa]); (try simp only [zGb]); (try simp only [zGc])
      have m0 := hL.c.cell 0 rfl
      go_simp
      skip
      skip
      skip
      clear m0
      refine hK.out _ _ (hS) (fun hS => ?_)
      clear hK
      (try simp only [Act.put]); (try simp only [zPa]); (try simp only [zPb, zPc])
      refine wpAnyH_ready (rs := [9]) (by kernel_rfl) (by simp) ?_
      refine (AllReadyH.cons rfl (fun K hK => ?_) AllReadyH.nil)
      ·rw [if_pos (by kernel_rfl)]
       (try simp only [zGa]); (try simp only [zGb]); (try simp only [zGc])
       refine wp_build_im 29 (.tmp 28) I (.slice Ad I.d.length cd) rfl (by first | with_reducible rfl | (go_simp; done) | rfl) rfl ?_
       intro g1 W' hb hg1 _
       have hL := hL.call hb
       have hbV := belI_call hbV hb
       have hd := own_callN hd hb
       refine hK.out _ _ (hS.call hb) (fun hS => ?_)
       clear hK
       (try simp only [Act.put]); (try simp only [zPa]); (try simp only [zPb, zPc])
       refine wpAnyH_ready (rs := [10]) (by kernel_rfl) (by simp) ?_
       refine (AllReadyH.cons rfl (fun K hK => ?_) AllReadyH.nil)
       ·rw [if_pos (by kernel_rfl)]
        (try simp only [zGa]); (try simp only [zGb]); (try simp only [zGc])
        have hl6 := HL.out.c.lt
        have hdo := own_rebase (C := b6 + 1) hd (fun q hq => by have h3 := (own_ltB hd q hq).1; omega)
        refine wp_append_im (.tmp 21) (.tmp 29) rfl (b6 + 1) u0 (List.replicate j I) bi (by first | with_reducible rfl | (go_simp; done) | rfl) hL.i g1 I (.slice Ad I.d.length cd) _ (by first | with_reducible rfl | (go_simp; done) | rfl) hg1 ⟨⟨_, rfl, (repInts_own hdo).r⟩, (repInts_own hdo).nd, (repInts_own hdo).lo⟩ (fun q hq hq' => by have h3 := (own_ltB hd q hq).1; have h4 := repIms.ex HL.out.i.r q hq'; omega) (by rw [List.length_replicate]; omega) (by have h4 := hL.c.lt; omega) ?_
        intro v' bi' W3 hi' hgr hfr hsh
        obtain ⟨A', c', hv'⟩ := hsh
        rw [List.length_replicate] at hv'
        subst hv'
        have hc3 := hL.c.grown hgr (fun e => by have h3 := HL.out.i.lo b6 (own0 HL.out.i b6 e.symm); omega)
        have hf : ∀ q ∈ bi', q ∈ bi ∨ V.heap.size ≤ q := fun q hq => by
         rcases hfr q hq with h3 | h3 | h3
         ·exact .inl h3
         ·exact .inr (own_ltB hd q h3).1
         ·exact .inr (Nat.le_trans hbV.size h3)
        skip
        skip
        skip
        skip
        refine hK.out _ _ (hS.chg (Chg.of_grown hgr) (fun q hq => by have h3 := HL.out.i.lo q (own0 HL.out.i q (by simpa using hq)); have h4 := HL.out.lb; omega) Hcs.out) (fun hS => ?_)
        clear hK
        (try simp only [Act.put]); (try simp only [zPa]); (try simp only [zPb, zPc])
        refine tcH (i := 11) (v := .pointer (some ⟨b6, 0, none⟩)) rfl (by intro w' hSw; (try dsimp only at hSw); (obtain ⟨d0, d1, d2, d3⟩ := hSw.a.cells); go_simp) ?_
        (try simp only [Act.put]); (try simp only [zPa]); (try simp only [zPb, zPc])
        refine wpAnyH_ready (rs := [12]) (by kernel_rfl) (by simp) ?_
        refine (AllReadyH.cons rfl (fun K hK => ?_) AllReadyH.nil)
        ·rw [if_pos (by kernel_rfl)]
         (try simp only [zGa]); (try simp only [zGb]); (try simp only [zGc])
         have m0 := hc3.cell 0 rfl
         have f0 := hc3.frozen 0
         go_simp
         skip
         skip
         skip
         skip
         clear m0 f0
         refine hK.out _ _ (hS.chg (Chg.setB _ b6 0 _ [b6] (by simp)) (fun q hq => by have h3 := HL.out.lb; rw [List.mem_singleton.1 hq]; omega) Hcs.out) (fun hS => ?_)
         clear hK
         (try simp only [Act.put]); (try simp only [zPa]); (try simp only [zPb, zPc])
         refine wpAnyH_done (by kernel_rfl) ?_ _
         go_wp2_with fail
         go_meet
         case rel => exact ⟨_, bi', rfl, HL.out.image hbV hgr hi' hf Hcs.out⟩
     ·rw [if_pos (by kernel_rfl)]
      (try simp only [zGa]); (try simp only [zGb]); (try simp only [zGc])
      refine wp_build_im 29 (.tmp 28) I (.slice Ad I.d.length cd) rfl (by first | with_reducible rfl | (go_simp; done) | rfl) rfl ?_
      intro g1 W' hb hg1 _
      have hL := hL.call hb
      have hbV := belI_call hbV hb
      have hd := own_callN hd hb
      refine hK.out _ _ (hS.call hb) (fun hS => ?_)
      clear hK
      (try simp only [Act.put]); (try simp only [zPa]); (try simp only [zPb, zPc])
      refine wpAnyH_ready (rs := [1]) (by kernel_rfl) (by simp) ?_
      refine (AllReadyH.cons rfl (fun K hK => ?_) AllReadyH.nil)
      ·rw [if_pos (by kernel_rfl)]
       (try simp only [zGa]); (try simp only [zGb]); (try simp only [zGc])
       have m0 := hL.c.cell 0 rfl
       go_simp
       skip
       skip
       skip
       skip
       clear m0
       refine hK.out _ _ (hS) (fun hS => ?_)
       clear hK
       (try simp only [Act.put]); (try simp only [zPa]); (try simp only [zPb, zPc])
       refine wpAnyH_ready (rs := [10]) (by kernel_rfl) (by simp) ?_
       refine (AllReadyH.cons rfl (fun K hK => ?_) AllReadyH.nil)
       ·rw [if_pos (by kernel_rfl)]
        (try simp only [zGa]); (try simp only [zGb]); (try simp only [zGc])
        have hl6 := HL.out.c.lt
        have hdo := own_rebase (C := b6 + 1) hd (fun q hq => by have h3 := (own_ltB hd q hq).1; omega)
        refine wp_append_im (.tmp 21) (.tmp 29) rfl (b6 + 1) u0 (List.replicate j I) bi (by first | with_reducible rfl | (go_simp; done) | rfl) hL.i g1 I (.slice Ad I.d.length cd) _ (by first | with_reducible rfl | (go_simp; done) | rfl) hg1 ⟨⟨_, rfl, (repInts_own hdo).r⟩, (repInts_own hdo).nd, (repInts_own hdo).lo⟩ (fun q hq hq' => by have h3 := (own_ltB hd q hq).1; have h4 := repIms.ex HL.out.i.r q hq'; omega) (by rw [List.length_replicate]; omega) (by have h4 := hL.c.lt; omega) ?_
        intro v' bi' W3 hi' hgr hfr hsh
        obtain ⟨A', c', hv'⟩ := hsh
        rw [List.length_replicate] at hv'
        subst hv'
        have hc3 := hL.c.grown hgr (fun e => by have h3 := HL.out.i.lo b6 (own0 HL.out.i b6 e.symm); omega)
        have hf : ∀ q ∈ bi', q ∈ bi ∨ V.heap.size ≤ q := fun q hq => by
         rcases hfr q hq with h3 | h3 | h3
         ·exact .inl h3
         ·exact .inr (own_ltB hd q h3).1
         ·exact .inr (Nat.le_trans hbV.size h3)
        skip
        skip
        skip
        skip
        refine hK.out _ _ (hS.chg (Chg.of_grown hgr) (fun q hq => by have h3 := HL.out.i.lo q (own0 HL.out.i q (by simpa using hq)); have h4 := HL.out.lb; omega) Hcs.out) (fun hS => ?_)
        clear hK
        (try simp only [Act.put]); (try simp only [zPa]); (try simp only [zPb, zPc])
        refine tcH (i := 11) (v := .pointer (some ⟨b6, 0, none⟩)) rfl (by intro w' hSw; (try dsimp only at hSw); (obtain ⟨d0, d1, d2, d3⟩ := hSw.a.cells); go_simp) ?_
        (try simp only [Act.put]); (try simp only [zPa]); (try simp only [zPb, zPc])
        refine wpAnyH_ready (rs := [12]) (by kernel_rfl) (by simp) ?_
        refine (AllReadyH.cons rfl (fun K hK => ?_) AllReadyH.nil)
        ·rw [if_pos (by kernel_rfl)]
         (try simp only [zGa]); (try simp only [zGb]); (try simp only [zGc])
         have m0 := hc3.cell 0 rfl
         have f0 := hc3.frozen 0
         go_simp
         skip
         skip
         skip
         skip
         clear m0 f0
         refine hK.out _ _ (hS.chg (Chg.setB _ b6 0 _ [b6] (by simp)) (fun q hq => by have h3 := HL.out.lb; rw [List.mem_singleton.1 hq]; omega) Hcs.out) (fun hS => ?_)
         clear hK
         (try simp only [Act.put]); (try simp only [zPa]); (try simp only [zPb, zPc])
         refine wpAnyH_done (by kernel_rfl) ?_ _
         go_wp2_with fail
         go_meet
         case rel => exact ⟨_, bi', rfl, HL.out.image hbV hgr hi' hf Hcs.out⟩
   case rest =>
    clear HL
    obtain ⟨u0', bi', rfl, hL⟩ := hcut
    have HL := Lib.hid hL
    have c1 := hL.c.cell 1 rfl
    have hsz2 := hL.c.lt
    clear hL
    obtain ⟨hi, hz0, hz1, hz2⟩ := HJ.out
    go_wp2_with (at_builtin; refine wpList_append_zero _ rfl _ _ rfl (b6 + 1) _ j _ rfl (HL.out.g.alloc _) _ rfl (one_int _) (by omega) (by simp; omega) ?_)
    intro v2 w5 hown2 hgrow hor
    have hva := HL.out.age (V := _) (belI_box _ _) hgrow (by rw [tabI_succ, intCells_append]; exact hown2) (fun q hq => by
     rcases hor.out with h3 | h3
     ·exact .inl (by rw [← h3]; exact hq)
     ·refine .inr ?_
      rw [h3] at hq
      have h4 := Option.some.inj hq
      omega) Hcs.out
    obtain ⟨gq, cq, hvq, _, _⟩ := hown2.form (by omega)
    subst hvq
    have hc5 := (HL.out.c.alloc _).grown hgrow (fun e => by have h3 := (own_ltB HL.out.g b6 (by simp [← e])).1; omega)
    have m1 := hc5.cell 1 rfl
    have f1 := hc5.frozen 1
    have HA' := Lib.hid hva
    clear hva hown2 hgrow hor hc5 c1 HL
    go_wp2_with fail
    go_roundw
    case rel => exact ⟨j + 1, _, _, _, by omega, by go_num, HA'⟩
    case measure => simp [intOf]; omega
  ·obtain rfl : j = n := by omega
   have hkj : ¬ (j : Int) < (j : Int) := by omega
   obtain ⟨⟨A1, cA, rfl⟩, _⟩ := form_lIs HL.out.i.r
   rw [List.length_replicate] at HL
   obtain ⟨A2, cB, rfl⟩ := ownI_shape HL.out.g
   have HK := Lib.hid (cnS ⟨List.replicate j I, List.replicate j 0, [], s⟩ _ _ _ _ _ _ HL.out.own.r)
   unfold CnOkAns at HK
   have c0 := HL.out.c.cell 0 rfl
   have c1 := HL.out.c.cell 1 rfl
   have c2 := HL.out.c.cell 2 rfl
   have c3 := HL.out.c.cell 3 rfl
   have c4 := HL.out.c.cell 4 rfl
   have c5 := HL.out.c.cell 5 rfl
   have c6 := HL.out.c.cell 6 rfl
   by_cases q0 : snOk s
   rotate_left
   ·have hno : ¬ nwP s j := fun h => q0 h.1
    have HNo := Lib.hid (And.intro (nwM_no hno) (nwB_no hno))
    rw [HIe.out, cnB_no (fun h => q0 ((nw_cn h1 h2).1 h)), ← HIe.out] at HK
    clear hno q0
    go_wp2_with fail
    clear c0 c1 c2 c3 c4 c5 c6
    refine HK.out.mono ?_
    rintro e w2 ⟨rfl, hb⟩
    have hZ1 := HL.out.z.call hb
    have HB1 := Lib.hid (belI_call HL.out.bw hb)
    have z0 := hZ1.cell 0 rfl
    have f0 := hZ1.frozen 0
    have z1 := hZ1.cell 1 rfl
    have f1 := hZ1.frozen 1
    have z2 := hZ1.cell 2 rfl
    have f2 := hZ1.frozen 2
    have z3 := hZ1.cell 3 rfl
    have f3 := hZ1.frozen 3
    have z4 := hZ1.cell 4 rfl
    have f4 := hZ1.frozen 4
    have z5 := hZ1.cell 5 rfl
    have f5 := hZ1.frozen 5
    have z6 := hZ1.cell 6 rfl
    have f6 := hZ1.frozen 6
    clear hb
    go_wp2_with fail
    have t0 := hZ1
    have t1 := t0.put (cs' := #[.slice none 0 0, .slice none 0 0, .slice none 0 0, .int .i64 0, .int .i64 0, .int .i64 0, .slice none 0 0]) 0 (.slice none 0 0) rfl
    have t2 := t1.put (cs' := #[.slice none 0 0, .slice none 0 0, .slice none 0 0, .int .i64 0, .int .i64 0, .int .i64 0, .slice none 0 0]) 1 (.slice none 0 0) rfl
    have t3 := t2.put (cs' := #[.slice none 0 0, .slice none 0 0, .slice none 0 0, .int .i64 0, .int .i64 0, .int .i64 0, .slice none 0 0]) 2 (.slice none 0 0) rfl
    have t4 := t3.put (cs' := #[.slice none 0 0, .slice none 0 0, .slice none 0 0, .int .i64 0, .int .i64 0, .int .i64 0, .slice none 0 0]) 3 (.int .i64 0) rfl
    have t5 := t4.put (cs' := #[.slice none 0 0, .slice none 0 0, .slice none 0 0, .int .i64 0, .int .i64 0, .int .i64 0, .slice none 0 0]) 4 (.int .i64 0) rfl
    have t6 := t5.put (cs' := #[.slice none 0 0, .slice none 0 0, .slice none 0 0, .int .i64 0, .int .i64 0, .int .i64 0, .slice none 0 0]) 5 (.int .i64 0) rfl
    have t7 := t6.put (cs' := #[.slice none 0 0, .slice none 0 0, .slice none 0 0, .int .i64 0, .int .i64 0, .int .i64 0, .slice none 0 0]) 6 (.slice none 0 0) rfl
    have y0 := t7.cell 0 rfl
    have y1 := t7.cell 1 rfl
    have y2 := t7.cell 2 rfl
    have y3 := t7.cell 3 rfl
    have y4 := t7.cell 4 rfl
    have y5 := t7.cell 5 rfl
    have y6 := t7.cell 6 rfl
    exact bodyPost_ret (v := .tuple #[.agg #[.slice none 0 0, .slice none 0 0, .slice none 0 0, .int .i64 0, .int .i64 0, .int .i64 0, .slice none 0 0], .bool false]) (by simp [results, Try.results15, go_sem, y0, y1, y2, y3, y4, y5, y6]) rfl (by rw [HNo.out.1, HNo.out.2]; exact (nw_nil (((((((HB1.out.setCell (p := ⟨w.heap.size + 1, 0, none⟩) (by dsimp only; omega) (.slice none 0 0)).setCell (p := ⟨w.heap.size + 1, 1, none⟩) (by dsimp only; omega) (.slice none 0 0)).setCell (p := ⟨w.heap.size + 1, 2, none⟩) (by dsimp only; omega) (.slice none 0 0)).setCell (p := ⟨w.heap.size + 1, 3, none⟩) (by dsimp only; omega) (.int .i64 0)).setCell (p := ⟨w.heap.size + 1, 4, none⟩) (by dsimp only; omega) (.int .i64 0)).setCell (p := ⟨w.heap.size + 1, 5, none⟩) (by dsimp only; omega) (.int .i64 0)).setCell (p := ⟨w.heap.size + 1, 6, none⟩) (by dsimp only; omega) (.slice none 0 0))))
   ·have hP : nwP s j := ⟨q0, by omega, h2i⟩
    have HYes := nwM_yes hP
    rw [← HIe.out] at HYes
    have HY := Lib.hid (And.intro HYes (nwB_yes hP))
    clear HYes
    rw [HIe.out, cnB_yes ((nw_cn h1 h2).2 q0), ← HIe.out] at HK
    clear hP q0
    go_wp2_with fail
    clear c0 c1 c2 c3 c4 c5 c6
    refine HK.out.mono ?_
    rintro e w2 ⟨rfl, hb⟩
    have HL2 := Lib.hid (HL.out.call hb)
    clear hb
    have c0 := HL2.out.c.cell 0 rfl
    have c1 := HL2.out.c.cell 1 rfl
    have c2 := HL2.out.c.cell 2 rfl
    have c3 := HL2.out.c.cell 3 rfl
    have c4 := HL2.out.c.cell 4 rfl
    have c5 := HL2.out.c.cell 5 rfl
    have c6 := HL2.out.c.cell 6 rfl
    have hZ1 := HL2.out.z
    have z0 := hZ1.cell 0 rfl
    have f0 := hZ1.frozen 0
    have z1 := hZ1.cell 1 rfl
    have f1 := hZ1.frozen 1
    have z2 := hZ1.cell 2 rfl
    have f2 := hZ1.frozen 2
    have z3 := hZ1.cell 3 rfl
    have f3 := hZ1.frozen 3
    have z4 := hZ1.cell 4 rfl
    have f4 := hZ1.frozen 4
    have z5 := hZ1.cell 5 rfl
    have f5 := hZ1.frozen 5
    have z6 := hZ1.cell 6 rfl
    have f6 := hZ1.frozen 6
    go_wp2_with fail
    have t0 := hZ1
    have t1 := t0.put (cs' := #[.slice A1 j cA, .slice none 0 0, .slice none 0 0, .int .i64 0, .int .i64 0, .int .i64 0, .slice none 0 0]) 0 (.slice A1 j cA) rfl
    have t2 := t1.put (cs' := #[.slice A1 j cA, .slice A2 j cB, .slice none 0 0, .int .i64 0, .int .i64 0, .int .i64 0, .slice none 0 0]) 1 (.slice A2 j cB) rfl
    have t3 := t2.put (cs' := #[.slice A1 j cA, .slice A2 j cB, .slice none 0 0, .int .i64 0, .int .i64 0, .int .i64 0, .slice none 0 0]) 2 (.slice none 0 0) rfl
    have t4 := t3.put (cs' := #[.slice A1 j cA, .slice A2 j cB, .slice none 0 0, .int .i64 s.w, .int .i64 0, .int .i64 0, .slice none 0 0]) 3 (.int .i64 s.w) rfl
    have t5 := t4.put (cs' := #[.slice A1 j cA, .slice A2 j cB, .slice none 0 0, .int .i64 s.w, .int .i64 s.h, .int .i64 0, .slice none 0 0]) 4 (.int .i64 s.h) rfl
    have t6 := t5.put (cs' := #[.slice A1 j cA, .slice A2 j cB, .slice none 0 0, .int .i64 s.w, .int .i64 s.h, .int .i64 s.back, .slice none 0 0]) 5 (.int .i64 s.back) rfl
    have t7 := t6.put (cs' := #[.slice A1 j cA, .slice A2 j cB, .slice none 0 0, .int .i64 s.w, .int .i64 s.h, .int .i64 s.back, .slice At s.fs.length ct]) 6 (.slice At s.fs.length ct) rfl
    have y0 := t7.cell 0 rfl
    have y1 := t7.cell 1 rfl
    have y2 := t7.cell 2 rfl
    have y3 := t7.cell 3 rfl
    have y4 := t7.cell 4 rfl
    have y5 := t7.cell 5 rfl
    have y6 := t7.cell 6 rfl
    have hC := (((((((Chg.setB w2 (w.heap.size + 1) 0 (.slice A1 j cA) [w.heap.size + 1] (by simp)).trans (Chg.setB _ (w.heap.size + 1) 1 (.slice A2 j cB) [w.heap.size + 1] (by simp))).trans (Chg.setB _ (w.heap.size + 1) 2 (.slice none 0 0) [w.heap.size + 1] (by simp))).trans (Chg.setB _ (w.heap.size + 1) 3 (.int .i64 s.w) [w.heap.size + 1] (by simp))).trans (Chg.setB _ (w.heap.size + 1) 4 (.int .i64 s.h) [w.heap.size + 1] (by simp))).trans (Chg.setB _ (w.heap.size + 1) 5 (.int .i64 s.back) [w.heap.size + 1] (by simp))).trans (Chg.setB _ (w.heap.size + 1) 6 (.slice At s.fs.length ct) [w.heap.size + 1] (by simp)))
    have hO := HL2.out.own.chg hC (fun q hq e => by have h3 := HL2.out.own.lo q hq; have h4 : q = w.heap.size + 1 := (by simpa using e); omega)
    have hbw := hC.below HL2.out.bw HL2.out.bw.size (fun q hq => by rw [List.mem_singleton.1 hq]; omega)
    exact bodyPost_ret (v := .tuple #[.agg #[.slice A1 j cA, .slice A2 j cB, .slice none 0 0, .int .i64 s.w, .int .i64 s.h, .int .i64 s.back, .slice At s.fs.length ct], .bool true]) (by simp [results, Try.results15, go_sem, y0, y1, y2, y3, y4, y5, y6]) rfl (by rw [HY.out.1, HY.out.2]; exact ⟨_, _, _, _, _, rfl, hO.mono (by omega), hbw⟩)
end Go.Proofs.Ytnndifemkichmaa
