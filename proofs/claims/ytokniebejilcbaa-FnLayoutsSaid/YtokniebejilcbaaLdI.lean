/- LoadImage of the program. No statement is proved here. -/
import Derived.Test.YtokniebejilcbaaMA
import Derived.Test.YtokniebejilcbaaMB
import Derived.Test.YtokniebejilcbaaLyI
import Derived.Test.YtokniebejilcbaaB1sa
import Derived.Test.YtokniebejilcbaaProg
import Derived.WalkKit
import Derived.ProofKit
import Derived.OpenShut
import Derived.WalkLawsBesides
import Derived.WalkSpells
import Derived.ShutString
import Derived.ChangeOld
import Derived.Below
import Derived.Lib.Hide
import Derived.BigQuiet
import Derived.Deep.QuietTactic
import Derived.Maps.AppendAt
import Derived.Deep.OwnRows
import Derived.Handy
import Derived.Deep.Draws
import Derived.OwnWalk
import Derived.Deep.AppendLies
import Derived.Deep.LoopGhost
import Derived.Deep.Onto
import Derived.RangeFuncNested
import Derived.RangeFuncCalls
import Derived.RangeFuncFrom
import Derived.Shelf.Abstract
import Derived.Shelf.RegionOpen
import Derived.OwnWalkIn
import Derived.TacticsInMore
import Derived.LoopNIn
import Derived.LoopIn
import Derived.Deep.MidRow
import Derived.Deep.WholeRow
import Derived.Laws.BitsAllLaws
import Derived.Lib.QuoteBits
import Derived.Deep.RegionHeld3
import Derived.Deep.DeepCutAuto
import Derived.Test.YtokniebejilcbaaShelf
import Derived.Laws.CopyOwn
import Derived.Deep.RegionLaw
import Derived.Great.BuildSlice
import Derived.Laws.AppendOwn
import Derived.Carry
import Derived.Maps.Own
import Derived.ChangeKeysEq
import Derived.Deep.RegionWith
import Derived.Shelf.RegionOpenPlain
import Derived.Lib.SliceRun
import Derived.Deep.DeepAppendRoom
namespace Go.Proofs.Ytokniebejilcbaa
open Go.RowKit
theorem wpListIn_append_at {F : Fence} {n : Nat} {P : Program} (w : World) {ops : Array Oper} {rest : List Oper} {o : Oper} {a : Act} {Q : Exit → Act → World → Prop} (hg : o.guard = none) (s x : Operand) (t : TypeId)
  (hop : o.op = Op.call { callee := Callee.builtin Builtin.append, args := #[s, x], argTypes := #[t, t] }) (base : Nat) (e : TypeId) (i : TypeInfo) (z : Value) (size bytes : Nat) (h1 : P.underlying t = some (.slice e)) (h2 : P.info? e = some i) (h3 : i.zero = some z)
  (h4 : i.size = size) (h5 : i.bytes = bytes) (h6 : z.cells.size = size) (h7 : 0 < size) (v : Value) (k : Nat) (xs : List Value) (hs : a.eval s = v) (hown : w.ownsRow base e size v k xs) (ad : Addr) (m c : Nat) (news : List Value) (hx : a.eval x = .slice (some ad) m c)
  (hn : news.length = m * size) (hc : ∀ j u, news[j]? = some u → w.cell? (ad.add j) = some u) (h1c : ∀ u ∈ news, u.oneCell' = true) (b1 : k + m ≤ maxLen) (b2 : (k + m) * bytes ≤ 140737488355328) (b3 : base ≤ w.heap.size)
  (hK : ∀ v' w', w'.ownsRow base e size v' (k + m) (xs ++ news) → w.grownBy w' v.ownBlock → (v'.ownBlock = v.ownBlock ∨ v'.ownBlock = some w.heap.size) → wpListIn F n P ops Q rest (a.put o.dst v') w') : wpListIn F n P ops Q (o :: rest) a w := by
 refine wpListIn_plain hg fun K hK2 => ?_
 obtain ⟨v', w', hrun, r1, r2, _, r4⟩ := run_append_own_at (P := P) w base t o.type e i z size bytes h1 h2 h3 h4 h5 h6 h7 v k xs hown ad m c news hn hc h1c b1 b2 b3
 unfold Oper.wpIn
 refine ⟨by simp [Oper.about, hop, resolve, Target.leads, Sem.run_pure], ?_⟩
 rw [Oper.semAt_plain F _ _ (by rw [hop]; intro c hc2; cases hc2)]
 simp [execOp, hop, resolve, invoke, builtin, hs, hx, hrun, Result.andThen]
 exact hK2 _ _ (hK v' w' r1 r2 r4)
theorem ImAt.putObj {w : World} {g D : Nat} {t : TypeId} {X Y : Int} {v : Value} {o : Obj} (h : ImAt w g t X Y v) (hn : g ≠ D) : ImAt (w.putObj D o) g t X Y v := (World.putObj_heap_other hn).trans h
theorem own_cells {w : World} {B n s : Nat} {e : TypeId} {v : Value} {xs : List Value} (h : w.ownsRow B e s v n xs) : ∀ g ∈ v.ownBlock.toList, ∃ o : Obj, w.heap[g]? = some o ∧ o.isCells = true := by
 intro g hg
 rcases h.2 with ⟨rfl, _⟩ | ⟨g', cap, cur, rfl, _, hh, _⟩
 ·simp [Value.ownBlock] at hg
 ·obtain rfl : g = g' := by simpa [Value.ownBlock] using hg
  exact ⟨_, hh, rfl⟩
theorem ld_put {I : Im} {z : Bool} {w V : World} {e : Ending} {D : Nat} {o : Obj} (hD : w.heap.size ≤ D) (hd : V.heap[D]? = some (.deferred (some []))) (h : LdAns I z w e V) : LdAns I z w e (V.putObj D o) := by
 obtain ⟨u, rfl, ho, hb⟩ := h
 refine ⟨u, rfl, own_keepB ho fun g hg => World.putObj_heap_other fun e => ?_, hb.grown (grownBy_putObj' V D o) hb.size fun k e => by cases e; exact hD⟩
 obtain ⟨o2, h2, hc⟩ := own_cells ho g hg
 rw [e, hd] at h2
 cases h2
 cases hc
def LdJ (w : World) (X Y : Nat) (v : Value) (ws pre : List Int) (V : World) : Prop :=
 ∃ u, LdX w (w.heap.size + 1 + 1) (w.heap.size + 1 + 1 + 1) X Y v ws u pre.length pre V ∧ BkAt V w.heap.size 3 #[.int .i64 X] ∧ BkAt V (w.heap.size + 1) 3 #[.int .i64 Y] ∧ pre.length ≤ X * Y
theorem LdJ.ownFrom {B : Nat} {w : World} {X Y : Nat} {v : Value} {ws : List Int} (hv : ws ≠ [] → ∀ g, v.ownBlock = some g → g < w.heap.size) (hB : w.heap.size + 4 ≤ B) : OwnFrom B (LdJ w X Y v ws) := by
 rintro s W W' row ⟨u, h, h1, h2, h3⟩ hg hr
 have far : ∀ k, k < B → some k ≠ row := fun k hk e => by have := (hr k e.symm).1; omega
 refine ⟨u, ⟨⟨h.o.r.grown hg (far _ (by omega)), h.o.rd.grownW hg (fun hw g hg2 => far g (by have := hv hw g hg2; omega)), h.o.bw.grown hg h.o.bw.size (fun k e => by have := (hr k e).1; omega)⟩, h.i.grown hg (far _ (by omega)), ?_⟩, h1.grown hg (far _ (by omega)), h2.grown hg (far _ (by omega)), h3⟩
 refine own_keepB h.own fun g hg2 => hg.block g (own_ltB h.own g hg2).2 fun e => ?_
 obtain ⟨o, ho, hc⟩ := own_cells h.own g hg2
 obtain ⟨_, o2, ho2, hc2⟩ := hr g e.symm
 rw [ho] at ho2
 cases ho2
 rw [hc] at hc2
 cases hc2
def LdX2 (w : World) (X Y : Nat) (v : Value) (ws pre : List Int) (V : World) : Prop := ∃ p x, pre = p ++ [x] ∧ p.length = X * Y ∧ LdJ w X Y v ws p V
theorem LdX2.ownFrom {B : Nat} {w : World} {X Y : Nat} {v : Value} {ws : List Int} (hv : ws ≠ [] → ∀ g, v.ownBlock = some g → g < w.heap.size) (hB : w.heap.size + 4 ≤ B) : OwnFrom B (LdX2 w X Y v ws) := by
 rintro s W W' row ⟨p, x, rfl, h1, h2⟩ hg hr
 exact ⟨p, x, rfl, h1, LdJ.ownFrom hv hB p W W' row h2 hg hr⟩
theorem kq_app {b : Nat} {V w5 : World} {u v2 : Value} {o : Obj} {t : TypeId} {X Y : Int} (hi : ImAt V b t X Y u) (hg : (V.alloc o).grownBy w5 u.ownBlock) (hv : v2.ownBlock = u.ownBlock ∨ v2.ownBlock = some (V.alloc o).heap.size) (hb : ∀ g, u.ownBlock = some g → g ≠ b) : Kq b 0 V (w5.setCell ⟨b, 2, none⟩ v2) := by
 have hs := hg.size
 have hz : (V.alloc o).heap.size = V.heap.size + 1 := by simp
 have h5 : ImAt w5 b t X Y u := (hi.alloc o).grown hg fun e => hb b e.symm rfl
 have h6 : (w5.setCell ⟨b, 2, none⟩ v2).cell? ⟨b, 2, none⟩ = some v2 := (h5.set2 v2).cells.2.2
 refine ⟨by simp [World.setCell]; omega, ?_, ?_⟩
 ·rintro g ⟨v, hv1, hv2⟩
  rw [h6] at hv1
  cases hv1
  rcases hv with e | e
  ·exact .inl ⟨u, hi.cells.2.2, by rw [← e]; exact hv2⟩
  ·rw [e] at hv2; cases hv2; exact .inr (by omega)
 ·intro k q hk _ hkb hno
  have hlt := (Array.getElem?_eq_some_iff.1 hk).1
  rw [Below.heap_setCell _ _ _ _ hkb]
  rw [hg.block k (by omega) fun e => hno ⟨u, hi.cells.2.2, e.symm⟩]
  exact (Below.heap_alloc V o k hlt).trans hk
attribute [local go_sem] Oper.semAt_some in
set_option maxHeartbeats 8000000 in
set_option maxRecDepth 100000 in
theorem ldI_in (X Y : Nat) (l : Int) (v : Value) (ws : List Int) (w : World) (hz : szOk X Y) (hv : RdI w v ws) (hws : ws.length ≤ 2000000) :
    CallsIn Fence.wide 9 Try.prog 27 #[v, .int .i64 X, .int .i64 Y, .int .i64 l] w (LdAns (ldM ws X Y l) (ldB ws X Y l) w) := by
  have hgu := rdI_lt hv
  obtain ⟨i0, hi, hz0, hz1, hz2⟩ := info_parts infoInt
  obtain ⟨gi, hgi⟩ : ∃ gi, 1 ≤ ws.length → ∃ c, v = .slice (some ⟨gi, 0, none⟩) ws.length c := by
    by_cases h : 1 ≤ ws.length
    · obtain ⟨gi, c, rfl, -, -⟩ := rd_block hv h
      exact ⟨gi, fun _ => ⟨c, rfl⟩⟩
    · exact ⟨0, fun h2 => absurd h2 h⟩
  obtain ⟨A0, c0, rfl⟩ := hv.form
  have hnc : 1 ≤ ws.length → ws.length ≤ c0 := by
    intro h
    obtain ⟨gi2, c2, e, _, h2⟩ := rd_block hv h
    cases e
    exact h2
  obtain ⟨n, hn⟩ : ∃ n, n = ws.length := ⟨_, rfl⟩
  rw [← hn] at hgu hv hws hgi hnc ⊢
  have Hn := Lib.hid hn
  obtain ⟨hx1, hx2, hy1, hy2⟩ := id hz
  have hX : X ≤ 16 := by omega
  have hY : Y ≤ 16 := by omega
  have hXY : X * Y ≤ 256 := mul_256 hX hY
  have Hz := Lib.hid hz
  obtain ⟨W1, hW1⟩ : ∃ V, V = (((w.alloc (.cells #[.int .i64 X] 3)).alloc (.cells #[.int .i64 Y] 3)).alloc (.cells #[.int .i64 0, .int .i64 0, .slice none 0 0] 32)).alloc (.cells #[.int .i64 X, .int .i64 Y, .slice none 0 0] 32) := ⟨_, rfl⟩
  have hbw : Below w.heap.size w W1 := by rw [hW1]; exact belI_call (belI_call (belI_call (belI_box _ _) (belI_box _ _)) (belI_box _ _)) (belI_box _ _)
  have s1 : W1.heap.size = w.heap.size + 4 := by rw [hW1]; simp
  have k5 : BkAt W1 w.heap.size 3 #[.int .i64 X] := by rw [hW1]; exact (((BkAt.newAt (w := w) rfl 3 #[.int .i64 X]).call (belI_box _ _)).call (belI_box _ _)).call (belI_box _ _)
  have k6 : BkAt W1 (w.heap.size + 1) 3 #[.int .i64 Y] := by rw [hW1]; exact ((BkAt.newAt (w := w.alloc (.cells #[.int .i64 X] 3)) (g := w.heap.size + 1) (by simp) 3 #[.int .i64 Y]).call (belI_box _ _)).call (belI_box _ _)
  have k8 : ImAt W1 (w.heap.size + 1 + 1) 32 0 0 (.slice none 0 0) := by rw [hW1]; exact (ImAt.newAt (w := (w.alloc (.cells #[.int .i64 X] 3)).alloc (.cells #[.int .i64 Y] 3)) (g := w.heap.size + 1 + 1) (by simp) _ _ _ _).call (belI_box _ _)
  have k10 : ImAt W1 (w.heap.size + 1 + 1 + 1) 32 X Y (.slice none 0 0) := by rw [hW1]; exact ImAt.newAt (by simp) _ _ _ _
  have J1 : LdJ w X Y (.slice A0 n c0) ws [] W1 := ⟨_, ⟨⟨k8, hv.call hbw, hbw⟩, k10, World.ownsRow_nil _ _ _ _⟩, k5, k6, Nat.zero_le _⟩
  have o1 : ∀ q, ¬ OwnOf (w.heap.size + 1 + 1 + 1) W1 q := fun q ⟨v2, h1, h2⟩ => by rw [k10.cells.2.2] at h1; cases h1; simp [Value.ownBlock] at h2
  have hd : 1 ≤ n → A0 = some ⟨gi, 0, none⟩ ∧ WdK (w.heap.size + 1 + 1 + 1) ws gi W1 := by
    intro h
    obtain ⟨c, e⟩ := hgi h
    injection e with e1 _ _
    subst e1
    have hrd := hv.call hbw
    have hc := fun k x hx => hrd.cell (k := k) (x := x) hx
    have h0 := hc 0 (ws[0]'(by rw [← Hn.out]; exact h)) (List.getElem?_eq_getElem _)
    have hlt := hgu (fun e => by rw [Hn.out, e] at h; simp at h) gi rfl
    refine ⟨rfl, ⟨?_, hc⟩⟩
    cases ho : W1.heap[gi]? with
    | none => simp [World.cell?, ho] at h0
    | some o =>
      refine ⟨o, ho, ?_, by omega, o1 _⟩
      cases o <;> simp [World.cell?, ho] at h0 <;> rfl
  have HSZ := Lib.hid (szI_yes X Y hz)
  have HSQ := Lib.hid (sqI 8 (by omega) A0 n c0 gi (w.heap.size + 1 + 1 + 1) X Y l ws W1 hn hws (Classical.byCases (fun h : 1 ≤ n => hnc h) (fun h => by omega)) hX hY (by omega) o1 hd)
  have HCp := Lib.hid (fun E h => pixD_cand (ws := ws) (W := X) (H := Y) (l := l) E h)
  have HW1 := Lib.hid hW1
  have HO1 := Lib.hid o1
  have Hgu := Lib.hid hgu
  have HJ1 := Lib.hid J1
  clear hn hgi hd hW1 o1 J1 hgu hv hnc hbw k5 k6 k8 k10
  refine callsIn_of_wp_marks Try.func27 rfl trivial ?_ rfl
  simp only [Try.ntmps27, List.size_toArray, List.length_cons, List.length_nil, Nat.reduceAdd, Nat.reduceSub, Array.replicate_succ, Array.replicate_zero, List.push_toArray, List.append_toArray, List.nil_append, List.cons_append]
  gi_wp2
  refine ⟨trivial, (callsIn_wide.2 (HSZ.out _)).mono ?_⟩
  rintro e w' ⟨rfl, rfl⟩
  gi_wp2
  rw [← HW1.out]
  refine ⟨trivial, (callsIn_wide.2 HSQ.out).mono ?_⟩
  rintro e W2 ⟨f, lb, rfl, hb2, hE, hseq⟩
  have s2 : w.heap.size + 4 ≤ W2.heap.size := by have := hb2.size; omega
  have J2 : LdJ w X Y (.slice A0 n c0) ws [] W2 := LdJ.ownFrom (B := w.heap.size + 4) Hgu.out (Nat.le_refl _) [] W1 W2 none HJ1.out (grown_of_below hb2) (fun r e => by cases e)
  have o2 : ∀ q, ¬ OwnOf (w.heap.size + 1 + 1 + 1) W2 q := fun q h => HO1.out q ((ownOf_same (hb2.block _ (by omega)) q).1 h)
  gi_wp2
  refine range_mine (b := w.heap.size + 1 + 1 + 1) (m := 0) (c := .exit 0) (encs := fun x : Int => #[.int .i64 x]) rfl (by omega) (f := f) (lb := lb) rfl trivial hE (L := fun pre => pre.length ≤ 1000000) (S := fun xs => xs = pixL ws X Y l) (Sp := fun pre => pre <+: pixL ws X Y l) (by omega) (by omega) (fun q h => absurd h (o2 q)) hseq (fun _ => rfl)
    (LdJ w X Y (.slice A0 n c0) ws) (LdX2 w X Y (.slice A0 n c0) ws) (LdJ.ownFrom Hgu.out s2) (LdX2.ownFrom Hgu.out s2) (fun pre V ⟨_, _, _, _, h⟩ => by omega) J2 ?act ?assign ?body ?done ?stop
  case assign =>
    intro l2 x W3 K hK
    gi_wp2
    exact hK
  case body =>
    rintro l2 pre x V ⟨u, hX2, hk5, hk6, hlen⟩
    have c5 := hk5.cell 0 rfl
    have c6 := hk6.cell 0 rfl
    obtain ⟨i0', i1', i2'⟩ := hX2.i.cells
    obtain ⟨Au, cu, hu⟩ := ownI_shape hX2.own
    subst hu
    have hmul : IntKind.i64.wrap ((X : Int) * (Y : Int)) = ((X * Y : Nat) : Int) := by rw [← Int.natCast_mul]; exact wrap_in _ (by omega) (by omega)
    obtain ⟨N, hN⟩ : ∃ N, N = X * Y := ⟨_, rfl⟩
    obtain ⟨q, hq⟩ : ∃ q, q = pre.length := ⟨_, rfl⟩
    rw [← hN] at hmul hlen
    rw [← hq] at i2' hlen hX2
    have hN256 : N ≤ 256 := by rw [hN]; exact hXY
    have HX2 := Lib.hid hX2
    have HN := Lib.hid hN
    have Hq := Lib.hid hq
    have Hk := Lib.hid (show BkAt V w.heap.size 3 #[.int .i64 X] ∧ BkAt V (w.heap.size + 1) 3 #[.int .i64 Y] from ⟨hk5, hk6⟩)
    clear hX2 hN hk5 hk6 hq
    by_cases he : q = N
    · subst he
      gi_wp2
      refine ⟨rfl, Kq.refl _ _ _, pre, x, rfl, by rw [← Hq.out]; exact HN.out, _, by rw [← Hq.out]; exact HX2.out, Hk.out.1, Hk.out.2, by rw [← Hq.out, ← HN.out]; exact hlen⟩
    · have hei : ¬ (q : Int) = (N : Int) := by omega
      have f2' := HX2.out.i.frozen 2
      have hsl : q + 1 ≤ maxLen := by unfold maxLen; omega
      have hsz := HX2.out.i.lt
      gi_wp2_with (gi_at_builtin; refine wpListIn_append_at _ rfl _ _ 26 rfl (w.heap.size + 1 + 1 + 1 + 1) 3 i0 (.int .i64 0) 1 8 Try.underlying26 hi hz0 hz1 hz2 rfl (by decide) _ _ _ rfl (HX2.out.own.alloc _) ⟨V.heap.size, 0, none⟩ 1 1 [.int .i64 x] rfl rfl (World.news_of_block (cs := #[.int .i64 x]) (fr := (0, 0)) (heap_alloc_new _ _)) (by intro u hu; simp at hu; subst hu; rfl) hsl (by omega) (by simp; omega) ?_; intro v2 w5 hown2 hgrow hfresh; obtain ⟨gq, cq, hvq, _, _⟩ := hown2.form (by omega); subst hvq; have i5 := (HX2.out.i.call (belI_box V (.cells #[.int .i64 x] 3))).grown hgrow (fun e => by have := (HX2.out.own.lt _ e.symm).1; omega); have m5 := i5.cells.2.2; have fr5 := i5.frozen 2)
      have hlt := fun g hg => (HX2.out.own.lt g hg).1
      have ob := belI_box V (.cells #[.int .i64 x] 3)
      refine ⟨kq_app HX2.out.i hgrow hfresh (fun g hg => by have := hlt g hg; omega), .slice (some ⟨gq, 0, none⟩) (q + 1) cq, ?_, ((Hk.out.1.call ob).grown hgrow (fun e => by have := hlt _ e.symm; omega)).grown (grown_setI _ (w.heap.size + 1 + 1 + 1) 2 _) (fun e => by injection e with e; omega), ((Hk.out.2.call ob).grown hgrow (fun e => by have := hlt _ e.symm; omega)).grown (grown_setI _ (w.heap.size + 1 + 1 + 1) 2 _) (fun e => by injection e with e; omega), by rw [List.length_append, ← Hq.out, ← HN.out]; simp; omega⟩
      refine ⟨((HX2.out.o.call ob).own (by omega) Hgu.out hgrow (fun k e => by have := hlt k e; omega)).own (by omega) Hgu.out (grown_setI _ (w.heap.size + 1 + 1 + 1) 2 _) (fun k e => by injection e with e; omega), i5.set2 _, ?_⟩
      rw [List.length_append, ← Hq.out, intCells_append]
      exact ownI_far hown2 (p := ⟨w.heap.size + 1 + 1 + 1, 2, none⟩) (fun g hg => by have := (hown2.lt g hg).1; dsimp only; omega) _
  case done =>
    rintro Dd xs V hD rfl ⟨u, hX2, hk5, hk6, hlen⟩ hK
    obtain ⟨D, hDD⟩ : ∃ D, D = pixL ws X Y l := ⟨_, rfl⟩
    rw [← hDD] at hX2 hlen
    have HCd : Hid (∀ E, ldP ws X Y l E → D = E) := Lib.hid (fun E h => by
      have h2 := HCp.out E h
      unfold pixD at h2
      rw [← hDD, List.take_of_length_le (by have := Int.natCast_mul X Y; omega)] at h2
      exact h2)
    have HT := Lib.hid hX2
    clear hX2 hk5 hk6 hlen hDD
    obtain ⟨Au, cu, hu⟩ := ownI_shape HT.out.own
    subst hu
    have HCA := Lib.hid (ld_cand HCd.out)
    have HST := fun V h => st_calls (stI X Y D l (.slice Au D.length cu) V h)
    obtain ⟨sb, hsb⟩ : ∃ b, b = stB X Y D l := ⟨_, rfl⟩
    obtain ⟨sm, hsm⟩ : ∃ m, m = stM X Y D l := ⟨_, rfl⟩
    rw [← hsb, ← hsm] at HST
    have HST := Lib.hid HST
    have Hsb := Lib.hid hsb
    have Hsm := Lib.hid hsm
    clear hsb hsm
    obtain ⟨i0', i1', i2'⟩ := HT.out.i.cells
    gi_wp2
    refine ⟨trivial, (callsIn_wide.2 (HST.out _ (RdI.of_own HT.out.own))).mono ?_⟩
    rintro e w5 ⟨A2, c2, rfl, hrd2, hb⟩
    have HT2 := Lib.hid (HT.out.call hb)
    have HR2 := Lib.hid hrd2
    have hK2 : w5.heap[Dd]? = some (.deferred (some [])) := (hb.block Dd (Array.getElem?_eq_some_iff.1 hK).1).trans hK
    clear hb hrd2 i0' i1' i2' HT hK
    cases sb
    · have HZ := Lib.hid (HCA.out.2 fun h => by rw [← Hsb.out] at h; cases h.1)
      have hr := HT2.out.o.r
      obtain ⟨r0, r1, r2⟩ := hr.cells
      have f0 := hr.frozen 0
      have f1 := hr.frozen 1
      have f2 := hr.frozen 2
      have HJ := Lib.hid (hr.set3 0 0 (.slice none 0 0))
      clear hr
      gi_wp2
      refine ⟨trivial, ?_⟩
      gi_wp2
      refine ⟨by simp, .inl ⟨_, _, rfl, run_takeDeferred (ds := []) (by rw [Below.heap_setCell _ _ _ _ (by dsimp only; omega), Below.heap_setCell _ _ _ _ (by dsimp only; omega), Below.heap_setCell _ _ _ _ (by dsimp only; omega)]; exact hK2), ?_⟩⟩
      obtain ⟨s0, s1, s2⟩ := (ImAt.putObj (D := Dd) (o := .deferred none) HJ.out (by omega)).cells
      refine ⟨.tuple #[.agg #[.int .i64 0, .int .i64 0, .slice none 0 0], .bool false], by simp [results, Try.results27, go_sem, s0, s1, s2], ?_⟩
      rw [HZ.out.1, HZ.out.2]
      exact ld_put (by omega) (by rw [Below.heap_setCell _ _ _ _ (by dsimp only; omega), Below.heap_setCell _ _ _ _ (by dsimp only; omega), Below.heap_setCell _ _ _ _ (by dsimp only; omega)]; exact hK2) (ld_zero (w.heap.size + 1 + 1) (by omega) HT2.out.o.bw)
    · have HEQ := fun V hx hy => equalI (.slice A2 sm.length c2) (.slice A0 n c0) sm ws V hx hy
      unfold ImEqAns at HEQ
      gi_wp2
      by_cases he : sm = ws
      · have HZ := Lib.hid (HCA.out.1 ⟨Hsb.out.symm, by rw [← Hsm.out]; exact he⟩)
        rw [show imEq sm ws = true by rw [he]; exact imEq_yes ws] at HEQ
        refine ⟨trivial, (callsIn_wide.2 (HEQ _ HR2.out HT2.out.o.rd)).mono ?_⟩
        rintro e w6 ⟨rfl, nq, rfl⟩
        have HT3 := Lib.hid (HT2.out.call (below_drewN (Below.refl _ w5) nq))
        have hK3 : (w5.drewN nq).heap[Dd]? = some (.deferred (some [])) := hK2
        have hr := HT3.out.o.r
        obtain ⟨r0, r1, r2⟩ := hr.cells
        have f0 := hr.frozen 0
        have f1 := hr.frozen 1
        have f2 := hr.frozen 2
        have HJ := Lib.hid (hr.set3 X Y (.slice Au D.length cu))
        obtain ⟨i0', i1', i2'⟩ := HT3.out.i.cells
        clear hr he HEQ hK2
        gi_wp2
        refine ⟨by simp, .inl ⟨_, _, rfl, run_takeDeferred (ds := []) (by rw [Below.heap_setCell _ _ _ _ (by dsimp only; omega), Below.heap_setCell _ _ _ _ (by dsimp only; omega), Below.heap_setCell _ _ _ _ (by dsimp only; omega)]; exact hK3), ?_⟩⟩
        obtain ⟨s0, s1, s2⟩ := (ImAt.putObj (D := Dd) (o := .deferred none) HJ.out (by omega)).cells
        refine ⟨.tuple #[.agg #[.int .i64 X, .int .i64 Y, .slice Au D.length cu], .bool true], by simp [results, Try.results27, go_sem, s0, s1, s2], ?_⟩
        rw [HZ.out.1, HZ.out.2]
        exact ld_put (by omega) (by rw [Below.heap_setCell _ _ _ _ (by dsimp only; omega), Below.heap_setCell _ _ _ _ (by dsimp only; omega), Below.heap_setCell _ _ _ _ (by dsimp only; omega)]; exact hK3) (ld_set HT3.out.own rfl (by omega) (by omega) HT3.out.o.bw)
      · have HZ := Lib.hid (HCA.out.2 fun h => he (by rw [Hsm.out]; exact h.2))
        rw [imEq_no he] at HEQ
        refine ⟨trivial, (callsIn_wide.2 (HEQ _ HR2.out HT2.out.o.rd)).mono ?_⟩
        rintro e w6 ⟨rfl, nq, rfl⟩
        have HT3 := Lib.hid (HT2.out.call (below_drewN (Below.refl _ w5) nq))
        have hK3 : (w5.drewN nq).heap[Dd]? = some (.deferred (some [])) := hK2
        have hr := HT3.out.o.r
        obtain ⟨r0, r1, r2⟩ := hr.cells
        have f0 := hr.frozen 0
        have f1 := hr.frozen 1
        have f2 := hr.frozen 2
        have HJ := Lib.hid (hr.set3 0 0 (.slice none 0 0))
        clear hr he HEQ hK2
        gi_wp2
        refine ⟨by simp, .inl ⟨_, _, rfl, run_takeDeferred (ds := []) (by rw [Below.heap_setCell _ _ _ _ (by dsimp only; omega), Below.heap_setCell _ _ _ _ (by dsimp only; omega), Below.heap_setCell _ _ _ _ (by dsimp only; omega)]; exact hK3), ?_⟩⟩
        obtain ⟨s0, s1, s2⟩ := (ImAt.putObj (D := Dd) (o := .deferred none) HJ.out (by omega)).cells
        refine ⟨.tuple #[.agg #[.int .i64 0, .int .i64 0, .slice none 0 0], .bool false], by simp [results, Try.results27, go_sem, s0, s1, s2], ?_⟩
        rw [HZ.out.1, HZ.out.2]
        exact ld_put (by omega) (by rw [Below.heap_setCell _ _ _ _ (by dsimp only; omega), Below.heap_setCell _ _ _ _ (by dsimp only; omega), Below.heap_setCell _ _ _ _ (by dsimp only; omega)]; exact hK3) (ld_zero (w.heap.size + 1 + 1) (by omega) HT3.out.o.bw)
  case stop =>
    rintro Dd pre V hD hpre ⟨D, x, rfl, hp, u, hX2, hk5, hk6, hlen⟩ hK
    have HCd : Hid (∀ E, ldP ws X Y l E → D = E) := Lib.hid (fun E h => by
      have h2 := HCp.out E h
      unfold pixD at h2
      obtain ⟨t, ht⟩ := hpre
      rw [← ht, show ((X : Int) * (Y : Int)).toNat = D.length by have := Int.natCast_mul X Y; omega, List.append_assoc, List.take_left' rfl] at h2
      exact h2)
    have HT := Lib.hid hX2
    clear hX2 hk5 hk6 hlen hp hpre
    obtain ⟨Au, cu, hu⟩ := ownI_shape HT.out.own
    subst hu
    have HCA := Lib.hid (ld_cand HCd.out)
    have HST := fun V h => st_calls (stI X Y D l (.slice Au D.length cu) V h)
    obtain ⟨sb, hsb⟩ : ∃ b, b = stB X Y D l := ⟨_, rfl⟩
    obtain ⟨sm, hsm⟩ : ∃ m, m = stM X Y D l := ⟨_, rfl⟩
    rw [← hsb, ← hsm] at HST
    have HST := Lib.hid HST
    have Hsb := Lib.hid hsb
    have Hsm := Lib.hid hsm
    clear hsb hsm
    obtain ⟨i0', i1', i2'⟩ := HT.out.i.cells
    gi_wp2
    refine ⟨trivial, (callsIn_wide.2 (HST.out _ (RdI.of_own HT.out.own))).mono ?_⟩
    rintro e w5 ⟨A2, c2, rfl, hrd2, hb⟩
    have HT2 := Lib.hid (HT.out.call hb)
    have HR2 := Lib.hid hrd2
    have hK2 : w5.heap[Dd]? = some (.deferred (some [])) := (hb.block Dd (Array.getElem?_eq_some_iff.1 hK).1).trans hK
    clear hb hrd2 i0' i1' i2' HT hK
    cases sb
    · have HZ := Lib.hid (HCA.out.2 fun h => by rw [← Hsb.out] at h; cases h.1)
      have hr := HT2.out.o.r
      obtain ⟨r0, r1, r2⟩ := hr.cells
      have f0 := hr.frozen 0
      have f1 := hr.frozen 1
      have f2 := hr.frozen 2
      have HJ := Lib.hid (hr.set3 0 0 (.slice none 0 0))
      clear hr
      gi_wp2
      refine ⟨trivial, ?_⟩
      gi_wp2
      refine ⟨by simp, .inl ⟨_, _, rfl, run_takeDeferred (ds := []) (by rw [Below.heap_setCell _ _ _ _ (by dsimp only; omega), Below.heap_setCell _ _ _ _ (by dsimp only; omega), Below.heap_setCell _ _ _ _ (by dsimp only; omega)]; exact hK2), ?_⟩⟩
      obtain ⟨s0, s1, s2⟩ := (ImAt.putObj (D := Dd) (o := .deferred none) HJ.out (by omega)).cells
      refine ⟨.tuple #[.agg #[.int .i64 0, .int .i64 0, .slice none 0 0], .bool false], by simp [results, Try.results27, go_sem, s0, s1, s2], ?_⟩
      rw [HZ.out.1, HZ.out.2]
      exact ld_put (by omega) (by rw [Below.heap_setCell _ _ _ _ (by dsimp only; omega), Below.heap_setCell _ _ _ _ (by dsimp only; omega), Below.heap_setCell _ _ _ _ (by dsimp only; omega)]; exact hK2) (ld_zero (w.heap.size + 1 + 1) (by omega) HT2.out.o.bw)
    · have HEQ := fun V hx hy => equalI (.slice A2 sm.length c2) (.slice A0 n c0) sm ws V hx hy
      unfold ImEqAns at HEQ
      gi_wp2
      by_cases he : sm = ws
      · have HZ := Lib.hid (HCA.out.1 ⟨Hsb.out.symm, by rw [← Hsm.out]; exact he⟩)
        rw [show imEq sm ws = true by rw [he]; exact imEq_yes ws] at HEQ
        refine ⟨trivial, (callsIn_wide.2 (HEQ _ HR2.out HT2.out.o.rd)).mono ?_⟩
        rintro e w6 ⟨rfl, nq, rfl⟩
        have HT3 := Lib.hid (HT2.out.call (below_drewN (Below.refl _ w5) nq))
        have hK3 : (w5.drewN nq).heap[Dd]? = some (.deferred (some [])) := hK2
        have hr := HT3.out.o.r
        obtain ⟨r0, r1, r2⟩ := hr.cells
        have f0 := hr.frozen 0
        have f1 := hr.frozen 1
        have f2 := hr.frozen 2
        have HJ := Lib.hid (hr.set3 X Y (.slice Au D.length cu))
        obtain ⟨i0', i1', i2'⟩ := HT3.out.i.cells
        clear hr he HEQ hK2
        gi_wp2
        refine ⟨by simp, .inl ⟨_, _, rfl, run_takeDeferred (ds := []) (by rw [Below.heap_setCell _ _ _ _ (by dsimp only; omega), Below.heap_setCell _ _ _ _ (by dsimp only; omega), Below.heap_setCell _ _ _ _ (by dsimp only; omega)]; exact hK3), ?_⟩⟩
        obtain ⟨s0, s1, s2⟩ := (ImAt.putObj (D := Dd) (o := .deferred none) HJ.out (by omega)).cells
        refine ⟨.tuple #[.agg #[.int .i64 X, .int .i64 Y, .slice Au D.length cu], .bool true], by simp [results, Try.results27, go_sem, s0, s1, s2], ?_⟩
        rw [HZ.out.1, HZ.out.2]
        exact ld_put (by omega) (by rw [Below.heap_setCell _ _ _ _ (by dsimp only; omega), Below.heap_setCell _ _ _ _ (by dsimp only; omega), Below.heap_setCell _ _ _ _ (by dsimp only; omega)]; exact hK3) (ld_set HT3.out.own rfl (by omega) (by omega) HT3.out.o.bw)
      · have HZ := Lib.hid (HCA.out.2 fun h => he (by rw [Hsm.out]; exact h.2))
        rw [imEq_no he] at HEQ
        refine ⟨trivial, (callsIn_wide.2 (HEQ _ HR2.out HT2.out.o.rd)).mono ?_⟩
        rintro e w6 ⟨rfl, nq, rfl⟩
        have HT3 := Lib.hid (HT2.out.call (below_drewN (Below.refl _ w5) nq))
        have hK3 : (w5.drewN nq).heap[Dd]? = some (.deferred (some [])) := hK2
        have hr := HT3.out.o.r
        obtain ⟨r0, r1, r2⟩ := hr.cells
        have f0 := hr.frozen 0
        have f1 := hr.frozen 1
        have f2 := hr.frozen 2
        have HJ := Lib.hid (hr.set3 0 0 (.slice none 0 0))
        clear hr he HEQ hK2
        gi_wp2
        refine ⟨by simp, .inl ⟨_, _, rfl, run_takeDeferred (ds := []) (by rw [Below.heap_setCell _ _ _ _ (by dsimp only; omega), Below.heap_setCell _ _ _ _ (by dsimp only; omega), Below.heap_setCell _ _ _ _ (by dsimp only; omega)]; exact hK3), ?_⟩⟩
        obtain ⟨s0, s1, s2⟩ := (ImAt.putObj (D := Dd) (o := .deferred none) HJ.out (by omega)).cells
        refine ⟨.tuple #[.agg #[.int .i64 0, .int .i64 0, .slice none 0 0], .bool false], by simp [results, Try.results27, go_sem, s0, s1, s2], ?_⟩
        rw [HZ.out.1, HZ.out.2]
        exact ld_put (by omega) (by rw [Below.heap_setCell _ _ _ _ (by dsimp only; omega), Below.heap_setCell _ _ _ _ (by dsimp only; omega), Below.heap_setCell _ _ _ _ (by dsimp only; omega)]; exact hK3) (ld_zero (w.heap.size + 1 + 1) (by omega) HT3.out.o.bw)
set_option maxHeartbeats 1000000 in
theorem ldI_sz (X Y l : Int) (v : Value) (ws : List Int) (w : World) (hz : ¬ szOk X Y) (hv : RdI w v ws) :
  Calls Try.prog 27 #[v, .int .i64 X, .int .i64 Y, .int .i64 l] w (LdAns (ldM ws X Y l) (ldB ws X Y l) w) := by
 have HZ := Lib.hid (ldM_sz (ws := ws) (l := l) hz)
 have HSZ := Lib.hid (szI_no X Y hz)
 obtain ⟨W1, hW1⟩ : ∃ V, V = ((w.alloc (.cells #[.int .i64 X] 3)).alloc (.cells #[.int .i64 Y] 3)).alloc (.cells #[.int .i64 0, .int .i64 0, .slice none 0 0] 32) := ⟨_, rfl⟩
 have hr : ImAt W1 (w.heap.size + 1 + 1) 32 0 0 (.slice none 0 0) := by rw [hW1]; exact ImAt.newAt (w := (w.alloc (.cells #[.int .i64 X] 3)).alloc (.cells #[.int .i64 Y] 3)) (g := w.heap.size + 1 + 1) (by simp) _ _ _ _
 have HB : Hid (Below w.heap.size w W1) := Lib.hid (by rw [hW1]; exact belI_call (belI_call (belI_box _ _) (belI_box _ _)) (belI_box _ _))
 have HW1 := Lib.hid hW1
 obtain ⟨r0, r1, r2⟩ := hr.cells
 have f0 := hr.frozen 0
 have f1 := hr.frozen 1
 have f2 := hr.frozen 2
 have HJ := Lib.hid (hr.set3 0 0 (.slice none 0 0))
 obtain ⟨A0, c0, rfl⟩ := hv.form
 clear hr hv hW1 hz
 go_enter Try.func27, Try.ntmps27
 go_wp2_with fail
 refine (HSZ.out _).mono ?_
 rintro e w' ⟨rfl, hw⟩
 rw [← HW1.out] at hw
 subst hw
 go_wp2_with fail
 obtain ⟨s0, s1, s2⟩ := HJ.out.cells
 exact bodyPost_ret (v := .tuple #[.agg #[.int .i64 0, .int .i64 0, .slice none 0 0], .bool false]) (by simp [results, Try.results27, go_sem, s0, s1, s2]) rfl (by rw [HZ.out.1, HZ.out.2]; exact ld_zero (w.heap.size + 1 + 1) (by omega) HB.out)
theorem ldI (X Y l : Int) (v : Value) (ws : List Int) (w : World) (hv : RdI w v ws) (hws : ws.length ≤ 2000000) :
  Calls Try.prog 27 #[v, .int .i64 X, .int .i64 Y, .int .i64 l] w (LdAns (ldM ws X Y l) (ldB ws X Y l) w) := by
 by_cases hz : szOk X Y
 ·obtain ⟨h1, h2, h3, h4⟩ := id hz
  obtain ⟨W, rfl⟩ := Int.eq_ofNat_of_zero_le (show 0 ≤ X by omega)
  obtain ⟨H, rfl⟩ := Int.eq_ofNat_of_zero_le (show 0 ≤ Y by omega)
  exact callsIn_wide.1 (ldI_in W H l v ws w hz hv hws)
 ·exact ldI_sz X Y l v ws w hz hv
end Go.Proofs.Ytokniebejilcbaa
