/- Texts of mine in one file: DrL, DrC. No statement is proved here. -/
import Derived.Test.YtdgagooldlnpeaaMAv0
import Derived.Test.YtdgagooldlnpeaaMA
import Derived.Test.YtdgagooldlnpeaaB1sav0
import Derived.Test.YtdgagooldlnpeaaDrSv0
import Derived.Test.YtdgagooldlnpeaaDrwIv0
import Derived.Test.YtdgagooldlnpeaaMBv0
import Derived.Test.YtdgagooldlnpeaaMB
import Derived.Test.YtdgagooldlnpeaaSnDv0
import Derived.Test.YtdgagooldlnpeaaSnSv0
import Derived.Test.YtdgagooldlnpeaaProg
import Derived.WalkKit
import Derived.ProofKit
import Derived.OpenShut
import Derived.WalkLawsBesides
import Derived.WalkSpells
import Derived.ShutString
import Derived.ChangeOld
import Derived.Below
import Derived.Lib.Hide
import Derived.BigQuiet
import Derived.Deep.QuietTactic
import Derived.Maps.AppendAt
import Derived.Deep.OwnRows
import Derived.Handy
import Derived.Deep.Draws
import Derived.OwnWalk
import Derived.Deep.AppendLies
import Derived.Deep.LoopGhost
import Derived.Deep.Onto
import Derived.Deep.MidRow
import Derived.Deep.WholeRow
import Derived.Laws.BitsAllLaws
import Derived.Lib.QuoteBits
import Derived.Test.YtdgagooldlnpeaaShelf
import Derived.Laws.CopyOwn
import Derived.Deep.RegionLaw
import Derived.Deep.RegionHeld3
import Derived.Deep.DeepCutAuto
import Derived.Great.BuildSlice
import Derived.Laws.AppendOwn
import Derived.Deep.CutBlock
import Derived.Shelf.RegionOpenPlain
import Derived.Lib.SliceRun
import Derived.Deep.RegionWith
namespace Go.Proofs.Ytdgagooldlnpeaa
open Go.RowKit
theorem info2_ed : ∃ i0, Try.prog.info? 57 = some i0 ∧ i0.zero = some (.agg #[.int .i64 0, .int .i64 0, .int .i64 0, .int .i64 0, .int .i64 0, .int .i64 0, .slice none 0 0]) ∧ i0.size = 7 ∧ i0.bytes ≤ 1000 := by
  have h : (Try.prog.info? 57).map (fun i => (i.zero, i.size, decide (i.bytes ≤ 1000))) = some (some (.agg #[.int .i64 0, .int .i64 0, .int .i64 0, .int .i64 0, .int .i64 0, .int .i64 0, .slice none 0 0]), 7, true) := by kernel_rfl
  cases e : Try.prog.info? 57 with
  | none => rw [e] at h; simp at h
  | some i =>
    rw [e] at h
    simp only [Option.map_some, Option.some.injEq, Prod.mk.injEq, decide_eq_true_eq] at h
    exact ⟨i, rfl, h.1, h.2.1, h.2.2⟩
theorem ed_one (f : Ed) (A : Option Addr) (n c : Nat) : ∀ u ∈ edCells f (.slice A n c), u.oneCell' = true := by
 intro u hu
 simp only [edCells, List.mem_cons, List.not_mem_nil, or_false] at hu
 rcases hu with rfl | rfl | rfl | rfl | rfl | rfl | rfl <;> rfl
theorem wp_append_ed {op : Oper} {a : Act} {w : World} {K : Act → World → Prop} {Q : Exit → Act → World → Prop} (s x : Operand)
  (ho : op.op = .call { callee := .builtin .append, args := #[s, x], argTypes := #[66, 66] })
  (B : Nat) (v : Value) (M : List Ed) (bs : List Nat) (hs : a.eval s = v) (hown : repEds.Own B w M [v] bs) (g1 : Nat) (f : Ed) (u : Value) (bu : List Nat)
  (hx : a.eval x = .slice (some ⟨g1, 0, none⟩) 1 1) (hg : BkAt w g1 57 #[.int .i64 f.kind, .int .i64 f.id, .int .i64 f.a, .int .i64 f.b, .int .i64 f.bw, .int .i64 f.bh, u]) (hf : repEd.Own B w f (edCells f u) bu) (hd : ∀ b ∈ bu, b ∉ bs) (hM : M.length ≤ 2097152) (hB : B ≤ w.heap.size)
  (h : ∀ v' bs' w', repEds.Own B w' (M ++ [f]) [v'] bs' → w.grownBy w' v.ownBlock → (∀ b ∈ bs', b ∈ bs ∨ b ∈ bu ∨ w.heap.size ≤ b) → (∃ A c, v' = .slice A (M.length + 1) c) → K (a.put op.dst v') w') : op.wp Try.prog a w K Q := by
 obtain ⟨i0, hi, hz0, hz1, hby⟩ := info2_ed
 have hbn : (M.length + 1) * i0.bytes ≤ (2097152 + 1) * 1000 := Nat.mul_le_mul (by omega) hby
 obtain ⟨⟨A, c, rfl⟩, _⟩ := ints_form (r_ed hf.r)
 obtain ⟨v0, xs, bss, he, hr, hls, how, rfl⟩ := hown.r
 obtain rfl : v = v0 := by simpa using he
 have hvl : ∀ b ∈ v.ownBlock.toList, B ≤ b := fun b hb => hown.lo b (List.mem_append.2 (.inl hb))
 have h1 : w.ownsRow 0 57 7 (.slice (some ⟨g1, 0, none⟩) 1 1) 1 (edCells f (.slice A f.data.length c)) :=
  ⟨rfl, .inr ⟨g1, 1, _, rfl, Nat.zero_le _, hg, Nat.le_refl _, by unfold maxLen; omega, rfl, rfl⟩⟩
 refine wp_append_row s x 66 ho B 0 57 i0 _ 7 i0.bytes Try.underlying66 hi hz0 hz1 rfl rfl (by omega) v M.length xs.flatten hs (own_rebase how hvl) _ 1 _ hx h1 (ed_one f _ _ _) (by unfold maxLen; omega) (by omega) hB (fun v' w' q1 q2 q3 => ?_)
 have hch := Chg.of_grown q2
 have hvx := own_ltB how
 have hnd := hown.nd
 rw [List.nodup_append] at hnd
 have hvn : ∀ b ∈ bss.flatten, b ∉ v.ownBlock.toList := fun b hb e => hnd.2.2 b e b hb rfl
 have hR' : rowsR repEd w' (M ++ [f]) (xs ++ [edCells f (.slice A f.data.length c)]) (bss ++ [bu]) :=
  rowsR_snoc (rowsR_keep hr fun b hb => hch.block b (rowsR_ex hr b hb) (hvn b hb)) (Rep.chg hf.r hch fun b hb e => hd b hb (List.mem_append.2 (.inl e)))
 have hlo' : ∀ b ∈ v'.ownBlock.toList, B ≤ b ∧ (b ∈ v.ownBlock.toList ∨ w.heap.size ≤ b) := fun b hb => by
  refine ⟨(own_ltB q1 b hb).1, ?_⟩
  rcases q3 with e | e
  ·rw [e] at hb; exact .inl hb
  ·rw [e] at hb; simp at hb; exact .inr (by omega)
 have hfl : (bss ++ [bu]).flatten = bss.flatten ++ bu := by simp
 have hex : ∀ b ∈ bss.flatten ++ bu, b < w.heap.size ∧ b ∉ v.ownBlock.toList ∧ B ≤ b := fun b hb => by
  rcases List.mem_append.1 hb with hb | hb
  ·exact ⟨rowsR_ex hr b hb, hvn b hb, hown.lo b (List.mem_append.2 (.inr hb))⟩
  ·exact ⟨repEd.ex hf.r b hb, fun e => hd b hb (List.mem_append.2 (.inl e)), hf.lo b hb⟩
 have hsh : ∃ A c, v' = .slice A (M.length + 1) c := by
  rcases q1.2 with ⟨_, e⟩ | ⟨g', cap, cur, e, _⟩
  ·omega
  ·exact ⟨_, _, e⟩
 refine h v' (v'.ownBlock.toList ++ (bss ++ [bu]).flatten) w' ⟨⟨v', _, _, rfl, hR', fun y hy => ?_, ?_, rfl⟩, ?_, fun b hb => ?_⟩ q2 (fun b hb => ?_) hsh
 ·rcases List.mem_append.1 hy with hy | hy
  ·exact hls y hy
  ·rw [List.mem_singleton.1 hy]; rfl
 ·rw [List.flatten_append]
  have := own_rebase q1 (C := 0) fun _ _ => Nat.zero_le _
  simpa using this
 ·rw [hfl, List.nodup_append]
  refine ⟨by cases v'.ownBlock <;> simp, ?_, fun x hx y hy e => ?_⟩
  ·rw [List.nodup_append]
   exact ⟨hnd.2.1, hf.nd, fun x hx y hy e => hd y hy (List.mem_append.2 (.inr (e ▸ hx)))⟩
  ·subst e
   have h3 := hex x hy
   rcases (hlo' x hx).2 with h4 | h4
   ·exact h3.2.1 h4
   ·omega
 ·rcases List.mem_append.1 hb with hb | hb
  ·exact (hlo' b hb).1
  ·rw [hfl] at hb; exact (hex b hb).2.2
 ·rcases List.mem_append.1 hb with hb | hb
  ·rcases (hlo' b hb).2 with h4 | h4
   ·exact .inl (List.mem_append.2 (.inl h4))
   ·exact .inr (.inr h4)
  ·rw [hfl] at hb
   rcases List.mem_append.1 hb with hb | hb
   ·exact .inl (List.mem_append.2 (.inr hb))
   ·exact .inr (.inl hb)
def DrawnEs (w : World) (g : Nat) (e' : Ending) (w' : World) : Prop :=
 ∃ (L : List Ed) (v : Value) (bs : List Nat), e' = .returned v ∧ L.length ≤ 4 ∧ (∀ e ∈ L, e.data.length ≤ 256) ∧ repEds.Own w.heap.size w' L [v] bs ∧ Cur w' g ∧ w.grownBy w' (some g)
structure LeB (w : World) (g : Nat) (L : List Ed) (v : Value) (bs : List Nat) (V : World) : Prop where
 own : repEds.Own w.heap.size V L [v] bs
 sm : ∀ e ∈ L, e.data.length ≤ 256
 gg : g < w.heap.size
 cur : Cur V g
 gr : w.grownBy V (some g)
theorem LeB.turn {w : World} {g : Nat} {L : List Ed} {v : Value} {bs : List Nat} {V V' : World} (h : LeB w g L v bs V) (hg : V.grownBy V' (some g)) (hc : Cur V' g) : LeB w g L v bs V' :=
 ⟨h.own.chg (Chg.of_grown hg) (fun q hq e => by have h1 := h.own.lo q hq; have h2 : q = g := (by simpa using e); have := h.gg; omega), h.sm, h.gg, hc, h.gr.trans hg⟩
theorem LeB.call {w : World} {g : Nat} {L : List Ed} {v : Value} {bs : List Nat} {V V' : World} (h : LeB w g L v bs V) (hb : Below V.heap.size V V') : LeB w g L v bs V' :=
 ⟨h.own.call hb, h.sm, h.gg, h.cur.below hb h.cur.lt, grown_below h.gr hb⟩
theorem form_les {w : World} {L : List Ed} {v : Value} {bs : List Nat} (h : repEds.R w L [v] bs) : ∃ A c, v = .slice A L.length c := by
 obtain ⟨v', xs, bss, e, hr, hls, how, _⟩ := h
 obtain rfl : v = v' := by simpa using e
 rcases how.2 with ⟨e, e2⟩ | ⟨g', cap, cur, e, _⟩
 ·exact ⟨none, 0, by rw [e, e2]⟩
 ·exact ⟨_, _, e⟩
theorem les_zero (w : World) (B : Nat) (hB : B ≤ w.heap.size) : repEds.Own B (w.alloc (.cells #[] 57)) [] [.slice (some ⟨w.heap.size, 0, none⟩) 0 0] [w.heap.size] :=
 ⟨⟨_, [], [], rfl, trivial, by simp, ⟨rfl, .inr ⟨w.heap.size, 0, _, rfl, Nat.zero_le _, heap_alloc_new _ _, Nat.le_refl _, by unfold maxLen; omega, rfl, rfl⟩⟩, by simp [Value.ownBlock]⟩, by simp, fun b hb => by rw [List.mem_singleton.1 hb]; exact hB⟩
set_option maxHeartbeats 4000000 in
set_option maxRecDepth 100000 in
theorem l10Edits_any (w : World) (g : Nat) (hc : Cur w g) : Calls Try.prog 79 #[.pointer (some ⟨g, 0, none⟩)] w (DrawnEs w g) := by
 have hgl := hc.lt
 have hL : LeB w g [] (.slice (some ⟨w.heap.size, 0, none⟩) 0 0) [w.heap.size] (w.alloc (.cells #[] 57)) := ⟨les_zero w _ (Nat.le_refl _), by simp, hgl, hc.alloc _, px_grown_alloc w _ (some g)⟩
 clear hc
 go_enter Try.func79, Try.ntmps79
 go_wp2_with fail
 refine (below_any _ g 5 (by omega) hL.cur).mono ?_
 rintro e' w4 ⟨k0, rfl, z0, z1, _, hcq, hgq⟩
 have z1 := z1 (by omega)
 obtain ⟨k0, rfl⟩ := Int.eq_ofNat_of_zero_le z0
 have HL := Lib.hid (hL.turn hgq hcq)
 clear hcq hgq hL
 go_wp2_with fail
 go_loopg [3, 4] k0 (fun gk s3 s4 wr => ∃ (k : Nat) (V : World) (L : List Ed) (v : Value) (bs : List Nat), V = wr ∧ k + L.length ≤ 4 ∧ k = gk ∧ s3 = v ∧ s4 = .int .i64 k ∧ Hid (LeB w g L v bs V))
 case atStart => exact ⟨k0, _, [], _, _, rfl, by simp; omega, rfl, rfl, rfl, HL⟩
 case round =>
  clear HL
  obtain ⟨k, V, L, v, bs, hV, hk, rfl, rfl, rfl, HL⟩ := hrel
  subst hV
  obtain ⟨Av, cv, hv⟩ := form_les HL.out.own.r
  subst hv
  obtain ⟨n, hn⟩ : ∃ n, n = L.length := ⟨_, rfl⟩
  rw [← hn] at HL hk ⊢
  have Hn := Lib.hid hn
  clear hn
  by_cases hk0 : 0 < k
  ·have hki : (k : Int) > 0 := by omega
   have hki2 : (0 : Int) < (k : Int) := by omega
   go_wp2_with fail
   refine (l10Edit_any _ g HL.out.cur).mono ?_
   rintro e' w5 ⟨x, d, rfl, hxl, hown, hcq, hgq⟩
   obtain ⟨Au, cu, hu⟩ := ownI_shape hown
   subst hu
   have hL5 := HL.out.turn hgq hcq
   have hszV := HL.out.gr.size
   have hx5 : repEd.Own w.heap.size w5 x (edCells x (.slice Au x.data.length cu)) (Value.slice Au x.data.length cu).ownBlock.toList := ⟨⟨_, rfl, edNew_rep hown⟩, by cases (Value.slice Au x.data.length cu).ownBlock <;> simp, fun b hb => by have := (own_ltB hown b hb).1; omega⟩
   have hdis : ∀ b ∈ (Value.slice Au x.data.length cu).ownBlock.toList, b ∉ bs := fun b hb e => by have h1 := (own_ltB hown b hb).1; have h2 := repEds.ex HL.out.own.r b e; omega
   have hbx := belI_box w5 (.cells #[.int .i64 x.kind, .int .i64 x.id, .int .i64 x.a, .int .i64 x.b, .int .i64 x.bw, .int .i64 x.bh, .slice Au x.data.length cu] 57)
   have HL6 := Lib.hid (hL5.call hbx)
   have HX6 := Lib.hid (hx5.call hbx)
   have HB6 := Lib.hid (BkAt.new w5 57 #[.int .i64 x.kind, .int .i64 x.id, .int .i64 x.a, .int .i64 x.b, .int .i64 x.bw, .int .i64 x.bh, .slice Au x.data.length cu])
   have Hdis := Lib.hid hdis
   have Hxl := Lib.hid hxl
   clear hcq hgq hown hL5 hx5 hdis hbx hxl hszV
   go_wp2_with (at_builtin; refine wpList_plain rfl fun _ hK => wp_append_ed _ _ rfl w.heap.size _ L bs rfl HL6.out.own w5.heap.size x _ _ rfl HB6.out HX6.out Hdis.out (by have := Hn.out; omega) (by have := HL6.out.gr.size; omega) ?_)
   intro v' bs' w' q1 q2 q3 A' c' q4
   refine hK _ _ ?_
   rw [← Hn.out] at q4
   subst q4
   have HL7 : Hid (LeB w g (L ++ [x]) (.slice A' (n + 1) c') bs' w') := Lib.hid ⟨q1, fun e he => by rcases List.mem_append.1 he with h | h; exact HL6.out.sm e h; rw [List.mem_singleton.1 h]; exact Hxl.out, HL6.out.gg, HL6.out.cur.grown q2 (fun k e => by have h1 := HL6.out.own.lo k (by obtain ⟨v0, xs, bss, h2, _, _, _, h3⟩ := HL6.out.own.r; have h4 : Value.slice Av n cv = v0 := (by simpa using h2); rw [h3, ← h4, e]; simp); have := HL6.out.gg; omega), HL6.out.gr.andThen q2 (fun j e => .inl (by have h1 := HL6.out.own.lo j (by obtain ⟨v0, xs, bss, h2, _, _, _, h3⟩ := HL6.out.own.r; have h4 : Value.slice Av n cv = v0 := (by simpa using h2); rw [h3, ← h4, e]; simp); omega))⟩
   clear q1 q2 q3
   go_wp2_with fail
   go_roundg (k - 1)
   case measure => omega
   case rel => exact ⟨k - 1, _, L ++ [x], _, bs', rfl, by have := Hn.out; simp only [List.length_append, List.length_singleton]; omega, rfl, rfl, by (have h1 : ((k - 1 : Nat) : Int) = (k : Int) - 1 := by omega); simp [h1], HL7⟩
  ·obtain rfl : k = 0 := by omega
   have hki : ¬ (0 : Int) > 0 := by omega
   go_wp2_with fail
   go_ret
   exact ⟨L, _, bs, rfl, by have := Hn.out; omega, HL.out.sm, HL.out.own, HL.out.cur, HL.out.gr⟩
end Go.Proofs.Ytdgagooldlnpeaa
namespace Go.Proofs.Ytdgagooldlnpeaa
open Go.RowKit
def DrawnSc (w : World) (e' : Ending) (w' : World) : Prop :=
 ∃ (s : Sn) (v : Value) (bs : List Nat) (L : List Ed) (u : Value) (cs : List Nat), e' = .returned (.tuple #[.agg #[.int .i64 s.w, .int .i64 s.h, .int .i64 s.back, v], u]) ∧ snOk s ∧ repSfs.Own w.heap.size w' s.fs [v] bs ∧ L.length ≤ 4 ∧ (∀ e ∈ L, e.data.length ≤ 256) ∧ repEds.Own w.heap.size w' L [u] cs ∧ (∀ q ∈ bs, q ∉ cs) ∧ Below w.heap.size w w'
structure DcS (w : World) (g b : Nat) (s : Sn) (v : Value) (V : World) : Prop where
 bx : BkAt V b 32 #[.int .i64 s.w, .int .i64 s.h, .int .i64 s.back, v]
 hg : w.heap.size < g
 hb : g < b
 bw : Below w.heap.size w V
theorem DcS.turn {w : World} {g b : Nat} {s : Sn} {v : Value} {V V' : World} (h : DcS w g b s v V) (hg : V.grownBy V' (some g)) : DcS w g b s v V' :=
 ⟨h.bx.grown hg (fun e => by have := Option.some.inj e; have := h.hb; omega), h.hg, h.hb, h.bw.grown hg h.bw.size (fun k e => by have := Option.some.inj e; have := h.hg; omega)⟩
theorem DcS.far {w : World} {g b : Nat} {s : Sn} {v : Value} {V V' : World} (h : DcS w g b s v V) (hg : V.grownBy V' (some w.heap.size)) : DcS w g b s v V' :=
 ⟨h.bx.grown hg (fun e => by have := Option.some.inj e; have := h.hb; have := h.hg; omega), h.hg, h.hb, h.bw.grown hg h.bw.size (fun k e => by have := Option.some.inj e; omega)⟩
set_option maxHeartbeats 2000000 in
set_option maxRecDepth 100000 in
theorem drawScene_any (w : World) (a : Option Addr) (len cap : Nat) (zs : List Int) (hrow : IsRow .u8 w a len cap zs) :
  Calls Try.prog 37 #[.slice a len cap] w (DrawnSc w) := by
 have hT := BkAt.new w 32 #[.int .i64 0, .int .i64 0, .int .i64 0, .slice none 0 0]
 have hK := belI_box w (.cells #[.int .i64 0, .int .i64 0, .int .i64 0, .slice none 0 0] 32)
 have hR : IsRow .u8 (w.alloc (.cells #[.int .i64 0, .int .i64 0, .int .i64 0, .slice none 0 0] 32)) a len cap zs := hrow.of_same (fun x hx hp => Below.heap_alloc _ _ _ (hrow.lt x hx hp))
 clear hrow
 go_enter Try.func37, Try.ntmps37
 go_wp2_with fail
 refine (new_any _ _ _ _ zs hR).mono ?_
 rintro e w1 ⟨g, rfl, hg, hc, hb⟩
 replace hT := hT.call hb
 replace hK := belI_call hK hb
 have hgw : w.heap.size + 1 ≤ g := by simpa using hg
 clear hR hb hg
 go_wp2_with fail
 refine (l10Scene_any _ g hc).mono ?_
 rintro e w2 ⟨s, v, bs, rfl, hok, hO, hc2, hg2⟩
 obtain ⟨Av, cv, hv⟩ := (repSfs_form hO.r).1
 subst hv
 have hc1 := hc.lt
 replace hT := hT.grown hg2 (fun e => by have := Option.some.inj e; omega)
 replace hK := hK.grown hg2 hK.size (fun k e => by have := Option.some.inj e; omega)
 obtain ⟨b, hbb⟩ : ∃ b, b = w2.heap.size := ⟨_, rfl⟩
 have hsz2 := hg2.size
 have hbx := belI_box w2 (.cells #[.int .i64 s.w, .int .i64 s.h, .int .i64 s.back, .slice Av s.fs.length cv] 32)
 have hB := BkAt.newAt (w := w2) hbb.symm 32 #[.int .i64 s.w, .int .i64 s.h, .int .i64 s.back, .slice Av s.fs.length cv]
 obtain ⟨V, hV⟩ : ∃ V, V = w2.alloc (.cells #[.int .i64 s.w, .int .i64 s.h, .int .i64 s.back, .slice Av s.fs.length cv] 32) := ⟨_, rfl⟩
 rw [← hV] at hbx hB
 have hS : DcS w g b s (.slice Av s.fs.length cv) V := ⟨hB, by omega, by omega, belI_call hK hbx⟩
 have hcV := hc2.below hbx hc2.lt
 have hbl := hB.lt
 have hgb := hS.hb
 have HgO := Lib.hid (fun (q : Nat) (hq : q ∈ bs) (e : q = g) => (show False by have h1 := hO.lo q hq; omega))
 replace hT := hT.call hbx
 have hOl := hO.lo
 replace hO := hO.call hbx
 have HVV := Lib.hid hV
 have Hbb := Lib.hid hbb
 obtain ⟨lo, hlo⟩ : ∃ lo, lo = w1.heap.size := ⟨_, rfl⟩
 rw [← hlo] at hO hOl
 have hlo1 : w.heap.size + 1 ≤ lo := by omega
 have hOx := fun q (hq : q ∈ bs) => repSfs.ex hO.r q hq
 clear hK hc hc2 hg2 hbx hB hV hbb hsz2 hlo hc1
 go_upto_region 3 with fail
 rw [← HVV.out, ← Hbb.out]
 refine wp_region_held_drew (S := fun V => DcS w g b s (.slice Av s.fs.length cv) V) (by kernel_rfl) (hS.turn (grown_below (World.grownBy.refl _ _) (belI_drew _))) (fun hS => ?_)
 replace hT := hT.call (belI_drew _)
 replace hO := hO.call (belI_drew _)
 have hcV := hcV.drew
 refine tcH (i := 0) (v := .agg #[.int .i64 s.w, .int .i64 s.h, .int .i64 s.back, .slice Av s.fs.length cv]) rfl (by intro w' hSw; (try dsimp only at hSw); (obtain ⟨d0, d1, d2, d3⟩ := hSw.bx.cells4); go_simp) ?_
 refine tkH (i := 1) (v := .pointer (some ⟨g, 0, none⟩)) rfl ?_
 (try simp only [Act.put]); (try simp only [zPa]); (try simp only [zPb, zPc])
 refine wpAnyH_ready (rs := [2]) (by kernel_rfl) (by simp) ?_
 refine (AllReadyH.cons rfl (fun K hK => ?_) AllReadyH.nil)
 ·rw [if_pos (by kernel_rfl)]
  (try simp only [zGa]); (try simp only [zGb]); (try simp only [zGc])
  go_simp
  with_reducible refine (l10Edits_any _ g hcV).mono ?_
  rintro e' W' ⟨L, u, cs, rfl, hLl, hLs, hLo, hcq, hg⟩
  have hlc : ∀ q ∈ cs, V.heap.size ≤ q := fun q hq => hLo.lo q hq
  dsimp only
  have hT := hT.grown hg (fun e => by have h1 := Option.some.inj e; omega)
  have hO := hO.chg (Chg.of_grown hg) (fun q hq e => HgO.out q hq (by simpa using e))
  refine hK.out _ _ (hS.turn hg) (fun hS => ?_)
  clear hK
  (try simp only [Act.put]); (try simp only [zPa]); (try simp only [zPb, zPc])
  refine wpAnyH_ready (rs := [3]) (by kernel_rfl) (by simp) ?_
  refine (AllReadyH.cons rfl (fun K hK => ?_) AllReadyH.nil)
  ·rw [if_pos (by kernel_rfl)]
   (try simp only [zGa]); (try simp only [zGb]); (try simp only [zGc])
   refine wp_store_bk 32 (.tmp 2) (.tmp 10) rfl w.heap.size 32 #[.int .i64 0, .int .i64 0, .int .i64 0, .slice none 0 0] #[.int .i64 s.w, .int .i64 s.h, .int .i64 s.back, .slice Av s.fs.length cv] (by kernel_rfl) rfl (by simp [Value.oneCell']) rfl (by first | with_reducible rfl | (go_simp; done) | rfl) hT ?_
   intro W3 IB hgB
   skip
   have hO := hO.chg (Chg.of_grown hgB) (fun q hq e => by have h1 := hOl q hq; have h2 : q = w.heap.size := (by simpa using e); omega)
   have hLo := hLo.chg (Chg.of_grown hgB) (fun q hq e => by have h1 := hlc q hq; have h2 : q = w.heap.size := (by simpa using e); omega)
   refine hK.out _ _ (hS.far hgB) (fun hS => ?_)
   clear hK
   (try simp only [Act.put]); (try simp only [zPa]); (try simp only [zPb, zPc])
   refine tkH (i := 4) (v := u) rfl ?_
   refine wpAnyH_done (by kernel_rfl) ?_ _
   obtain ⟨z0, z1, z2, z3⟩ := IB.cells4
   go_wp2_with fail
   exact bodyPost_ret (v := .tuple #[.agg #[.int .i64 s.w, .int .i64 s.h, .int .i64 s.back, .slice Av s.fs.length cv], u]) (by simp [results, Try.results37, go_sem, z0, z1, z2, z3]) rfl ⟨s, _, bs, L, u, cs, rfl, hok, hO.mono (by omega), hLl, hLs, hLo.mono (show w.heap.size ≤ V.heap.size from by omega), fun q hq hq2 => by have h1 := hlc q hq2; have h2 := hOx q hq; omega, hS.bw⟩
end Go.Proofs.Ytdgagooldlnpeaa
