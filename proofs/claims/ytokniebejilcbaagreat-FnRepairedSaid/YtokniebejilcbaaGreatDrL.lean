/- What the laws draw: a list of edits, a valid scene with edits. No statement is proved here. -/
import Derived.Test.YtokniebejilcbaaGreatMA
import Derived.Test.YtokniebejilcbaaGreatMC
import Derived.Test.YtokniebejilcbaaGreatMB
import Derived.Test.YtokniebejilcbaaGreatCpyI
import Derived.Test.YtokniebejilcbaaGreatFilB
import Derived.Test.YtokniebejilcbaaGreatDrwI
import Derived.Test.YtokniebejilcbaaGreatDrE
import Derived.Test.YtokniebejilcbaaGreatSnS
import Derived.Test.YtokniebejilcbaaGreatSnD
import Derived.Test.YtokniebejilcbaaGreatEdH
import Derived.Test.YtokniebejilcbaaGreatEdW
import Derived.Test.YtokniebejilcbaaGreatEdQ
import Derived.Test.YtokniebejilcbaaGreatDrS
import Derived.Test.YtokniebejilcbaaGreatProg
import Derived.WalkKit
import Derived.ProofKit
import Derived.OpenShut
import Derived.WalkLawsBesides
import Derived.WalkSpells
import Derived.ShutString
import Derived.ChangeOld
import Derived.Below
import Derived.Lib.Hide
import Derived.BigQuiet
import Derived.Deep.QuietTactic
import Derived.Maps.AppendAt
import Derived.Deep.OwnRows
import Derived.Handy
import Derived.Deep.Draws
import Derived.OwnWalk
import Derived.Deep.AppendLies
import Derived.Deep.LoopGhost
import Derived.Deep.Onto
import Derived.Deep.MidRow
import Derived.Deep.WholeRow
import Derived.Laws.BitsAllLaws
import Derived.Lib.QuoteBits
import Derived.Test.YtokniebejilcbaaGreatShelf
import Derived.Laws.CopyOwn
import Derived.Deep.RegionLaw
import Derived.Deep.RegionHeld3
import Derived.Deep.DeepCutAuto
import Derived.Great.BuildSlice
import Derived.Laws.AppendOwn
import Derived.Deep.CutBlock
import Derived.Shelf.RegionOpenPlain
import Derived.Lib.SliceRun
import Derived.Deep.RegionWith
namespace Go.Proofs.YtokniebejilcbaaGreat
open Go.RowKit
theorem info2_ed : ∃ i0, Tryz.prog.info? 94 = some i0 ∧ i0.zero = some (.agg #[.int .i64 0, .int .i64 0, .int .i64 0, .int .i64 0, .int .i64 0, .int .i64 0, .slice none 0 0]) ∧ i0.size = 7 ∧ i0.bytes ≤ 1000 := by
  have h : (Tryz.prog.info? 94).map (fun i => (i.zero, i.size, decide (i.bytes ≤ 1000))) = some (some (.agg #[.int .i64 0, .int .i64 0, .int .i64 0, .int .i64 0, .int .i64 0, .int .i64 0, .slice none 0 0]), 7, true) := by kernel_rfl
  cases e : Tryz.prog.info? 94 with
  | none => rw [e] at h; simp at h
  | some i =>
    rw [e] at h
    simp only [Option.map_some, Option.some.injEq, Prod.mk.injEq, decide_eq_true_eq] at h
    exact ⟨i, rfl, h.1, h.2.1, h.2.2⟩
theorem ed_one (f : Ed) (A : Option Addr) (n c : Nat) : ∀ u ∈ edCells f (.slice A n c), u.oneCell' = true := by
 intro u hu
 simp only [edCells, List.mem_cons, List.not_mem_nil, or_false] at hu
 rcases hu with rfl | rfl | rfl | rfl | rfl | rfl | rfl <;> rfl
theorem wp_append_ed {op : Oper} {a : Act} {w : World} {K : Act → World → Prop} {Q : Exit → Act → World → Prop} (s x : Operand)
  (ho : op.op = .call { callee := .builtin .append, args := #[s, x], argTypes := #[36, 36] })
  (B : Nat) (v : Value) (M : List Ed) (bs : List Nat) (hs : a.eval s = v) (hown : repEds.Own B w M [v] bs) (g1 : Nat) (f : Ed) (u : Value) (bu : List Nat)
  (hx : a.eval x = .slice (some ⟨g1, 0, none⟩) 1 1) (hg : BkAt w g1 94 #[.int .i64 f.kind, .int .i64 f.id, .int .i64 f.a, .int .i64 f.b, .int .i64 f.bw, .int .i64 f.bh, u]) (hf : repEd.Own B w f (edCells f u) bu) (hd : ∀ b ∈ bu, b ∉ bs) (hM : M.length ≤ 2097152) (hB : B ≤ w.heap.size)
  (h : ∀ v' bs' w', repEds.Own B w' (M ++ [f]) [v'] bs' → w.grownBy w' v.ownBlock → (∀ b ∈ bs', b ∈ bs ∨ b ∈ bu ∨ w.heap.size ≤ b) → (∃ A c, v' = .slice A (M.length + 1) c) → K (a.put op.dst v') w') : op.wp Tryz.prog a w K Q := by
 obtain ⟨i0, hi, hz0, hz1, hby⟩ := info2_ed
 have hbn : (M.length + 1) * i0.bytes ≤ (2097152 + 1) * 1000 := Nat.mul_le_mul (by omega) hby
 obtain ⟨⟨A, c, rfl⟩, _⟩ := ints_form (r_ed hf.r)
 obtain ⟨v0, xs, bss, he, hr, hls, how, rfl⟩ := hown.r
 obtain rfl : v = v0 := by simpa using he
 have hvl : ∀ b ∈ v.ownBlock.toList, B ≤ b := fun b hb => hown.lo b (List.mem_append.2 (.inl hb))
 have h1 : w.ownsRow 0 94 7 (.slice (some ⟨g1, 0, none⟩) 1 1) 1 (edCells f (.slice A f.data.length c)) :=
  ⟨rfl, .inr ⟨g1, 1, _, rfl, Nat.zero_le _, hg, Nat.le_refl _, by unfold maxLen; omega, rfl, rfl⟩⟩
 refine wp_append_row s x 36 ho B 0 94 i0 _ 7 i0.bytes Tryz.underlying36 hi hz0 hz1 rfl rfl (by omega) v M.length xs.flatten hs (own_rebase how hvl) _ 1 _ hx h1 (ed_one f _ _ _) (by unfold maxLen; omega) (by omega) hB (fun v' w' q1 q2 q3 => ?_)
 have hch := Chg.of_grown q2
 have hvx := own_ltB how
 have hnd := hown.nd
 rw [List.nodup_append] at hnd
 have hvn : ∀ b ∈ bss.flatten, b ∉ v.ownBlock.toList := fun b hb e => hnd.2.2 b e b hb rfl
 have hR' : rowsR repEd w' (M ++ [f]) (xs ++ [edCells f (.slice A f.data.length c)]) (bss ++ [bu]) :=
  rowsR_snoc (rowsR_keep hr fun b hb => hch.block b (rowsR_ex hr b hb) (hvn b hb)) (Rep.chg hf.r hch fun b hb e => hd b hb (List.mem_append.2 (.inl e)))
 have hlo' : ∀ b ∈ v'.ownBlock.toList, B ≤ b ∧ (b ∈ v.ownBlock.toList ∨ w.heap.size ≤ b) := fun b hb => by
  refine ⟨(own_ltB q1 b hb).1, ?_⟩
  rcases q3 with e | e
  ·rw [e] at hb; exact .inl hb
  ·rw [e] at hb; simp at hb; exact .inr (by omega)
 have hfl : (bss ++ [bu]).flatten = bss.flatten ++ bu := by simp
 have hex : ∀ b ∈ bss.flatten ++ bu, b < w.heap.size ∧ b ∉ v.ownBlock.toList ∧ B ≤ b := fun b hb => by
  rcases List.mem_append.1 hb with hb | hb
  ·exact ⟨rowsR_ex hr b hb, hvn b hb, hown.lo b (List.mem_append.2 (.inr hb))⟩
  ·exact ⟨repEd.ex hf.r b hb, fun e => hd b hb (List.mem_append.2 (.inl e)), hf.lo b hb⟩
 have hsh : ∃ A c, v' = .slice A (M.length + 1) c := by
  rcases q1.2 with ⟨_, e⟩ | ⟨g', cap, cur, e, _⟩
  ·omega
  ·exact ⟨_, _, e⟩
 refine h v' (v'.ownBlock.toList ++ (bss ++ [bu]).flatten) w' ⟨⟨v', _, _, rfl, hR', fun y hy => ?_, ?_, rfl⟩, ?_, fun b hb => ?_⟩ q2 (fun b hb => ?_) hsh
 ·rcases List.mem_append.1 hy with hy | hy
  ·exact hls y hy
  ·rw [List.mem_singleton.1 hy]; rfl
 ·rw [List.flatten_append]
  have := own_rebase q1 (C := 0) fun _ _ => Nat.zero_le _
  simpa using this
 ·rw [hfl, List.nodup_append]
  refine ⟨by cases v'.ownBlock <;> simp, ?_, fun x hx y hy e => ?_⟩
  ·rw [List.nodup_append]
   exact ⟨hnd.2.1, hf.nd, fun x hx y hy e => hd y hy (List.mem_append.2 (.inr (e ▸ hx)))⟩
  ·subst e
   have h3 := hex x hy
   rcases (hlo' x hx).2 with h4 | h4
   ·exact h3.2.1 h4
   ·omega
 ·rcases List.mem_append.1 hb with hb | hb
  ·exact (hlo' b hb).1
  ·rw [hfl] at hb; exact (hex b hb).2.2
 ·rcases List.mem_append.1 hb with hb | hb
  ·rcases (hlo' b hb).2 with h4 | h4
   ·exact .inl (List.mem_append.2 (.inl h4))
   ·exact .inr (.inr h4)
  ·rw [hfl] at hb
   rcases List.mem_append.1 hb with hb | hb
   ·exact .inl (List.mem_append.2 (.inr hb))
   ·exact .inr (.inl hb)
def DrawnEs (w : World) (g : Nat) (e' : Ending) (w' : World) : Prop :=
 ∃ (L : List Ed) (v : Value) (bs : List Nat), e' = .returned v ∧ L.length ≤ 4 ∧ (∀ e ∈ L, e.data.length ≤ 256) ∧ repEds.Own w.heap.size w' L [v] bs ∧ Cur w' g ∧ w.grownBy w' (some g)
structure LeB (w : World) (g : Nat) (L : List Ed) (v : Value) (bs : List Nat) (V : World) : Prop where
 own : repEds.Own w.heap.size V L [v] bs
 sm : ∀ e ∈ L, e.data.length ≤ 256
 gg : g < w.heap.size
 cur : Cur V g
 gr : w.grownBy V (some g)
theorem LeB.turn {w : World} {g : Nat} {L : List Ed} {v : Value} {bs : List Nat} {V V' : World} (h : LeB w g L v bs V) (hg : V.grownBy V' (some g)) (hc : Cur V' g) : LeB w g L v bs V' :=
 ⟨h.own.chg (Chg.of_grown hg) (fun q hq e => by have h1 := h.own.lo q hq; have h2 : q = g := (by simpa using e); have := h.gg; omega), h.sm, h.gg, hc, h.gr.trans hg⟩
theorem LeB.call {w : World} {g : Nat} {L : List Ed} {v : Value} {bs : List Nat} {V V' : World} (h : LeB w g L v bs V) (hb : Below V.heap.size V V') : LeB w g L v bs V' :=
 ⟨h.own.call hb, h.sm, h.gg, h.cur.below hb h.cur.lt, grown_below h.gr hb⟩
theorem form_les {w : World} {L : List Ed} {v : Value} {bs : List Nat} (h : repEds.R w L [v] bs) : ∃ A c, v = .slice A L.length c := by
 obtain ⟨v', xs, bss, e, hr, hls, how, _⟩ := h
 obtain rfl : v = v' := by simpa using e
 rcases how.2 with ⟨e, e2⟩ | ⟨g', cap, cur, e, _⟩
 ·exact ⟨none, 0, by rw [e, e2]⟩
 ·exact ⟨_, _, e⟩
theorem les_zero (w : World) (B : Nat) (hB : B ≤ w.heap.size) : repEds.Own B (w.alloc (.cells #[] 94)) [] [.slice (some ⟨w.heap.size, 0, none⟩) 0 0] [w.heap.size] :=
 ⟨⟨_, [], [], rfl, trivial, by simp, ⟨rfl, .inr ⟨w.heap.size, 0, _, rfl, Nat.zero_le _, heap_alloc_new _ _, Nat.le_refl _, by unfold maxLen; omega, rfl, rfl⟩⟩, by simp [Value.ownBlock]⟩, by simp, fun b hb => by rw [List.mem_singleton.1 hb]; exact hB⟩
set_option maxHeartbeats 4000000 in
set_option maxRecDepth 100000 in
theorem l10Edits_any (w : World) (g : Nat) (hc : Cur w g) : Calls Tryz.prog 62 #[.pointer (some ⟨g, 0, none⟩)] w (DrawnEs w g) := by
 have hgl := hc.lt
 have hL : LeB w g [] (.slice (some ⟨w.heap.size, 0, none⟩) 0 0) [w.heap.size] (w.alloc (.cells #[] 94)) := ⟨les_zero w _ (Nat.le_refl _), by simp, hgl, hc.alloc _, px_grown_alloc w _ (some g)⟩
 clear hc
 go_enter Tryz.func62, Tryz.ntmps62
 go_wp2_with fail
 refine (below_any _ g 5 (by omega) hL.cur).mono ?_
 rintro e' w4 ⟨k0, rfl, z0, z1, _, hcq, hgq⟩
 have z1 := z1 (by omega)
 obtain ⟨k0, rfl⟩ := Int.eq_ofNat_of_zero_le z0
 have HL := Lib.hid (hL.turn hgq hcq)
 clear hcq hgq hL
 go_wp2_with fail
 go_loopg [3, 4] k0 (fun gk s3 s4 wr => ∃ (k : Nat) (V : World) (L : List Ed) (v : Value) (bs : List Nat), V = wr ∧ k + L.length ≤ 4 ∧ k = gk ∧ s3 = v ∧ s4 = .int .i64 k ∧ Hid (LeB w g L v bs V))
 case atStart => exact ⟨k0, _, [], _, _, rfl, by simp; omega, rfl, rfl, rfl, HL⟩
 case round =>
  clear HL
  obtain ⟨k, V, L, v, bs, hV, hk, rfl, rfl, rfl, HL⟩ := hrel
  subst hV
  obtain ⟨Av, cv, hv⟩ := form_les HL.out.own.r
  subst hv
  obtain ⟨n, hn⟩ : ∃ n, n = L.length := ⟨_, rfl⟩
  rw [← hn] at HL hk ⊢
  have Hn := Lib.hid hn
  clear hn
  by_cases hk0 : 0 < k
  ·have hki : (k : Int) > 0 := by omega
   have hki2 : (0 : Int) < (k : Int) := by omega
   go_wp2_with fail
   refine (l10Edit_any _ g HL.out.cur).mono ?_
   rintro e' w5 ⟨x, d, rfl, hxl, hown, hcq, hgq⟩
   obtain ⟨Au, cu, hu⟩ := ownI_shape hown
   subst hu
   have hL5 := HL.out.turn hgq hcq
   have hszV := HL.out.gr.size
   have hx5 : repEd.Own w.heap.size w5 x (edCells x (.slice Au x.data.length cu)) (Value.slice Au x.data.length cu).ownBlock.toList := ⟨⟨_, rfl, edNew_rep hown⟩, by cases (Value.slice Au x.data.length cu).ownBlock <;> simp, fun b hb => by have := (own_ltB hown b hb).1; omega⟩
   have hdis : ∀ b ∈ (Value.slice Au x.data.length cu).ownBlock.toList, b ∉ bs := fun b hb e => by have h1 := (own_ltB hown b hb).1; have h2 := repEds.ex HL.out.own.r b e; omega
   have hbx := belI_box w5 (.cells #[.int .i64 x.kind, .int .i64 x.id, .int .i64 x.a, .int .i64 x.b, .int .i64 x.bw, .int .i64 x.bh, .slice Au x.data.length cu] 94)
   have HL6 := Lib.hid (hL5.call hbx)
   have HX6 := Lib.hid (hx5.call hbx)
   have HB6 := Lib.hid (BkAt.new w5 94 #[.int .i64 x.kind, .int .i64 x.id, .int .i64 x.a, .int .i64 x.b, .int .i64 x.bw, .int .i64 x.bh, .slice Au x.data.length cu])
   have Hdis := Lib.hid hdis
   have Hxl := Lib.hid hxl
   clear hcq hgq hown hL5 hx5 hdis hbx hxl hszV
   go_wp2_with (at_builtin; refine wpList_plain rfl fun _ hK => wp_append_ed _ _ rfl w.heap.size _ L bs rfl HL6.out.own w5.heap.size x _ _ rfl HB6.out HX6.out Hdis.out (by have := Hn.out; omega) (by have := HL6.out.gr.size; omega) ?_)
   intro v' bs' w' q1 q2 q3 A' c' q4
   refine hK _ _ ?_
   rw [← Hn.out] at q4
   subst q4
   have HL7 : Hid (LeB w g (L ++ [x]) (.slice A' (n + 1) c') bs' w') := Lib.hid ⟨q1, fun e he => by rcases List.mem_append.1 he with h | h; exact HL6.out.sm e h; rw [List.mem_singleton.1 h]; exact Hxl.out, HL6.out.gg, HL6.out.cur.grown q2 (fun k e => by have h1 := HL6.out.own.lo k (by obtain ⟨v0, xs, bss, h2, _, _, _, h3⟩ := HL6.out.own.r; have h4 : Value.slice Av n cv = v0 := (by simpa using h2); rw [h3, ← h4, e]; simp); have := HL6.out.gg; omega), HL6.out.gr.andThen q2 (fun j e => .inl (by have h1 := HL6.out.own.lo j (by obtain ⟨v0, xs, bss, h2, _, _, _, h3⟩ := HL6.out.own.r; have h4 : Value.slice Av n cv = v0 := (by simpa using h2); rw [h3, ← h4, e]; simp); omega))⟩
   clear q1 q2 q3
   go_wp2_with fail
   go_roundg (k - 1)
   case measure => omega
   case rel => exact ⟨k - 1, _, L ++ [x], _, bs', rfl, by have := Hn.out; simp only [List.length_append, List.length_singleton]; omega, rfl, rfl, by (have h1 : ((k - 1 : Nat) : Int) = (k : Int) - 1 := by omega); simp [h1], HL7⟩
  ·obtain rfl : k = 0 := by omega
   have hki : ¬ (0 : Int) > 0 := by omega
   go_wp2_with fail
   go_ret
   exact ⟨L, _, bs, rfl, by have := Hn.out; omega, HL.out.sm, HL.out.own, HL.out.cur, HL.out.gr⟩
end Go.Proofs.YtokniebejilcbaaGreat
