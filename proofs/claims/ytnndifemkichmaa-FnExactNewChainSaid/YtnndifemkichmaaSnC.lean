/- The contract of copiedScene. No statement is proved here. -/
import Derived.Test.YtnndifemkichmaaMA
import Derived.Test.YtnndifemkichmaaMB
import Derived.Test.YtnndifemkichmaaSlE
import Derived.Test.YtnndifemkichmaaSlC
import Derived.Test.YtnndifemkichmaaSnS
import Derived.Test.YtnndifemkichmaaProg
import Derived.WalkKit
import Derived.ProofKit
import Derived.OpenShut
import Derived.WalkLawsBesides
import Derived.WalkSpells
import Derived.ShutString
import Derived.ChangeOld
import Derived.Below
import Derived.Lib.Hide
import Derived.BigQuiet
import Derived.Deep.QuietTactic
import Derived.Maps.AppendAt
import Derived.Deep.OwnRows
import Derived.Handy
import Derived.Deep.Draws
import Derived.OwnWalk
import Derived.Deep.AppendLies
import Derived.Deep.LoopGhost
import Derived.Deep.Onto
import Derived.Deep.MidRow
import Derived.Deep.WholeRow
import Derived.Laws.BitsAllLaws
import Derived.Lib.QuoteBits
import Derived.Deep.RegionHeld3
import Derived.Deep.DeepCutAuto
import Derived.Test.YtnndifemkichmaaShelf
import Derived.Laws.CopyOwn
import Derived.Deep.RegionLaw
import Derived.Great.BuildSlice
import Derived.Shelf.RegionOpenPlain
import Derived.Lib.SliceRun
namespace Go.Proofs.Ytnndifemkichmaa
open Go.RowKit
def SnAns (s : Sn) (w : World) (e : Ending) (w' : World) : Prop := ∃ u bs, e = .returned (.agg #[.int .i64 s.w, .int .i64 s.h, .int .i64 s.back, u]) ∧ repSfs.Own w.heap.size w' s.fs [u] bs ∧ Below w.heap.size w w'
structure CpU (B : Nat) (L : List Sf) (g c n k : Nat) (xs : List (List Value)) (bss : List (List Nat)) (W : World) : Prop where
 u : SlU repSf 80 11 W L g c n xs bss
 nd : (bss.take k).flatten.Nodup
 lo : ∀ b ∈ (bss.take k).flatten, B ≤ b
 gn : ∀ b ∈ bss.flatten, b ≠ g
 hg : B ≤ g
theorem CpU.call {B : Nat} {L : List Sf} {g c n k : Nat} {xs : List (List Value)} {bss : List (List Nat)} {W W' : World} (h : CpU B L g c n k xs bss W) (hb : Below W.heap.size W W') : CpU B L g c n k xs bss W' := ⟨h.u.call hb, h.nd, h.lo, h.gn, h.hg⟩
theorem take_set {bss : List (List Nat)} {k : Nat} {d e : List Nat} (hk : bss[k]? = some d) : (bss.set k e).take (k + 1) = bss.take k ++ [e] := by
 have hlt := (List.getElem?_eq_some_iff.1 hk).1
 apply List.ext_getElem?
 intro j
 by_cases h1 : j < k
 ·rw [List.getElem?_take_of_lt (by omega), List.getElem?_set_ne (by omega), List.getElem?_append_left (by rw [List.length_take]; omega), List.getElem?_take_of_lt h1]
 ·by_cases h2 : j = k
  ·subst h2
   rw [List.getElem?_take_of_lt (by omega), List.getElem?_set_self hlt, List.getElem?_append_right (by rw [List.length_take]; omega), List.length_take]
   simp [Nat.min_eq_left (Nat.le_of_lt hlt)]
  ·rw [List.getElem?_eq_none (by rw [List.length_take, List.length_set]; omega), List.getElem?_eq_none (by rw [List.length_append, List.length_take]; simp; omega)]
theorem CpU.next {B : Nat} {L : List Sf} {g c n k : Nat} {xs : List (List Value)} {bss : List (List Nat)} {W : World} (h : CpU B L g c n k xs bss W) (hk : k < n) {f : Sf} {d u : Value} {b bu : List Nat} (hf : L[k]? = some f) (hx : xs[k]? = some (sfCells f d)) (hb : bss[k]? = some b)
  (hu : repInts.Own B W f.data [u] bu) (hfr : ∀ q ∈ bu, q ∉ bss.flatten ∧ q ≠ g) :
  ∃ xs' bss', CpU B L g c n (k + 1) xs' bss' (((W.setCell ⟨g, k * 11 + 8, none⟩ (.int .i64 f.bw)).setCell ⟨g, k * 11 + 8 + 1, none⟩ (.int .i64 f.bh)).setCell ⟨g, k * 11 + 8 + 2, none⟩ u) ∧
   W.grownBy (((W.setCell ⟨g, k * 11 + 8, none⟩ (.int .i64 f.bw)).setCell ⟨g, k * 11 + 8 + 1, none⟩ (.int .i64 f.bh)).setCell ⟨g, k * 11 + 8 + 2, none⟩ u) (some g) := by
 have hkx : k < xs.length := (List.getElem?_eq_some_iff.1 hx).1
 have hS3 := (((SetK.zero h.u hx).put hkx 8 (by omega) (.int .i64 f.bw) rfl).put hkx 9 (by omega) (.int .i64 f.bh) rfl).put hkx 10 (by omega) u rfl
 rw [show k * 11 + 9 = k * 11 + 8 + 1 by omega, show k * 11 + 10 = k * 11 + 8 + 2 by omega] at hS3
 have hch := Chg.of_grown hS3.gr
 have hR : repSf.R _ f (sfCells f u) bu := ⟨u, rfl, Rep.chg hu.r hch fun q hq e => (hfr q hq).2 (by simpa using e)⟩
 have hU := SlU.upd (a' := f) (b' := bu) h.u hk hS3.ow hS3.ls hR (fun j dd _ hd q hq => hch.block q (rowsR_ex h.u.rr q (flat_mem hd hq)) fun e => h.gn q (flat_mem hd hq) (by simpa using e))
 rw [show L.set k f = L from by
  apply List.ext_getElem?
  intro j
  by_cases e : j = k
  ·subst e; rw [List.getElem?_set_self (List.getElem?_eq_some_iff.1 hf).1, hf]
  ·rw [List.getElem?_set_ne (Ne.symm e)]] at hU
 refine ⟨_, _, ⟨hU, ?_, ?_, ?_, h.hg⟩, hS3.gr⟩
 ·rw [take_set hb, List.flatten_append, List.nodup_append]
  refine ⟨h.nd, by simpa using hu.nd, fun x hx y hy e => ?_⟩
  have hy : y ∈ bu := by simpa using hy
  exact (hfr y hy).1 (by rw [← e]; obtain ⟨dd, hd, hm⟩ := List.mem_flatten.1 hx; exact List.mem_flatten.2 ⟨dd, List.mem_of_mem_take hd, hm⟩)
 ·intro q hq
  rw [take_set hb, List.flatten_append, List.mem_append] at hq
  rcases hq with hq | hq
  ·exact h.lo q hq
  ·exact hu.lo q (by simpa using hq)
 ·intro q hq
  obtain ⟨dd, hd, hm⟩ := List.mem_flatten.1 hq
  rcases List.mem_or_eq_of_mem_set hd with hd | rfl
  ·exact h.gn q (List.mem_flatten.2 ⟨dd, hd, hm⟩)
  ·exact (hfr q hm).2
theorem CpU.own {B : Nat} {L : List Sf} {g c n : Nat} {xs : List (List Value)} {bss : List (List Nat)} {W : World} (h : CpU B L g c n n xs bss W) : repSfs.Own B W L [.slice (some ⟨g, 0, none⟩) n c] (g :: bss.flatten) := by
 have hl : bss.take n = bss := List.take_of_length_le (by rw [(rowsR_len h.u.rr).2, h.u.hn]; exact Nat.le_refl _)
 have h1 := h.nd
 have h2 := h.lo
 rw [hl] at h1 h2
 exact h.u.own (fun e => h.gn g e rfl) h1 h.hg h2
theorem cpu_cell {B : Nat} {L : List Sf} {g c n k : Nat} {xs : List (List Value)} {bss : List (List Nat)} {W : World} (h : CpU B L g c n k xs bss W) {x : List Value} (hx : xs[k]? = some x) (j : Nat) (v : Value) (hv : x[j]? = some v) (hj : j < 11) : W.cell? ⟨g, k * 11 + j, none⟩ = some v ∧ W.frozen? ⟨g, k * 11 + j, none⟩ = false :=
 ⟨own_cellI h.u.ow (by rw [flat_at h.u.ls k j hx hj]; exact hv), h.u.ow.frozenAt _⟩
structure CscB (w : World) (s : Sn) (v : Value) (W : World) : Prop where
 t : BkAt W w.heap.size 36 #[.int .i64 s.w, .int .i64 s.h, .int .i64 s.back, v]
 r : BkAt W (w.heap.size + 1) 36 #[.int .i64 0, .int .i64 0, .int .i64 0, .slice none 0 0]
 bw : Below w.heap.size w W
theorem CscB.call {w : World} {s : Sn} {v : Value} {W W' : World} (h : CscB w s v W) (hb : Below W.heap.size W W') : CscB w s v W' := ⟨h.t.call hb, h.r.call hb, belI_call h.bw hb⟩
theorem CscB.set {w : World} {s : Sn} {v : Value} {W W' : World} {g : Nat} (h : CscB w s v W) (hg : W.grownBy W' (some g)) (hk : w.heap.size + 2 ≤ g) : CscB w s v W' :=
 ⟨h.t.grown hg (fun e => by have := Option.some.inj e; omega), h.r.grown hg (fun e => by have := Option.some.inj e; omega), h.bw.grown hg h.bw.size (fun k e => by have := Option.some.inj e; omega)⟩
structure CscI (w : World) (s : Sn) (g c n bt : Nat) (f : Sf) (d : Value) (W : World) : Prop where
 o : CscB w s (.slice (some ⟨g, 0, none⟩) n c) W
 x : BkAt W bt 80 #[.int .i64 f.id, .int .i64 f.x, .int .i64 f.y, .int .i64 f.w, .int .i64 f.h, .int .i64 f.alpha, .int .i64 f.orient, .bool f.vis, .int .i64 f.bw, .int .i64 f.bh, d]
 d : RdI W d f.data
theorem CscI.call {w : World} {s : Sn} {g c n bt : Nat} {f : Sf} {d : Value} {W W' : World} (h : CscI w s g c n bt f d W) (hb : Below W.heap.size W W') : CscI w s g c n bt f d W' := ⟨h.o.call hb, h.x.call hb, h.d.call hb⟩
set_option maxHeartbeats 4000000 in
set_option maxRecDepth 10000 in
theorem copiedSn (s : Sn) (v : Value) (bs : List Nat) (w : World) (hm : sizFs s.fs ≤ 2097152) (h : repSfs.R w s.fs [v] bs) : Calls Try.prog 69 #[.agg #[.int .i64 s.w, .int .i64 s.h, .int .i64 s.back, v]] w (SnAns s w) := by
 have hB0 : CscB w s v ((w.alloc (.cells #[.int .i64 s.w, .int .i64 s.h, .int .i64 s.back, v] 36)).alloc (.cells #[.int .i64 0, .int .i64 0, .int .i64 0, .slice none 0 0] 36)) := ⟨(BkAt.new _ _ _).alloc _, BkAt.newAt (by simp) _ _, belI_call (belI_box _ _) (belI_box _ _)⟩
 have hr := Rep.call h hB0.bw
 rcases SlU.of_rep hr with ⟨rfl, h0, _⟩ | ⟨g0, c0, xs0, bss0, rfl, hU0, hbs⟩
 ·clear h hr
  have HC := Lib.hid (cloneFs_nil ((w.alloc (.cells #[.int .i64 s.w, .int .i64 s.h, .int .i64 s.back, .slice none 0 0] 36)).alloc (.cells #[.int .i64 0, .int .i64 0, .int .i64 0, .slice none 0 0] 36)))
  have H0 := Lib.hid h0
  obtain ⟨d0, d1, d2, d3⟩ := hB0.t.cells4
  have fz3 := hB0.t.frozen 3
  obtain ⟨r0, r1, r2, r3⟩ := hB0.r.cells4
  have f0 := hB0.r.frozen 0
  have f1 := hB0.r.frozen 1
  have f2 := hB0.r.frozen 2
  have f3 := hB0.r.frozen 3
  obtain ⟨W0, hW0⟩ : ∃ W, W = (w.alloc (.cells #[.int .i64 s.w, .int .i64 s.h, .int .i64 s.back, .slice none 0 0] 36)).alloc (.cells #[.int .i64 0, .int .i64 0, .int .i64 0, .slice none 0 0] 36) := ⟨_, rfl⟩
  rw [← hW0] at hB0 HC
  have HW := Lib.hid hW0
  have hJ := ((hB0.r.far (p := ⟨w.heap.size, 3, none⟩) (by dsimp only; omega) (.slice none 0 0)).all4 (.int .i64 s.w) (.int .i64 s.h) (.int .i64 s.back) (.slice none 0 0))
  have HB := Lib.hid hB0.bw
  clear hm h0 hW0 hB0
  go_enter Try.func69, Try.ntmps69
  go_wp2_with fail
  rw [← HW.out]
  refine HC.out.mono ?_
  rintro e w1 ⟨rfl, rfl⟩
  rw [← HW.out] at d0 d1 d2 d3 fz3 r0 r1 r2 r3 f0 f1 f2 f3
  go_wp2_with fail
  go_loopw [3, 4, 12] (fun _ _ s12 wr => s12 = .int .i64 0 ∧ wr = w1.setCell ⟨w.heap.size, 3, none⟩ (.slice none 0 0)) (fun _ _ _ _ => 0)
  case atStart => exact ⟨rfl, rfl⟩
  case round =>
   obtain ⟨rfl, rfl⟩ := hrel
   have e3 : (w1.setCell ⟨w.heap.size, 3, none⟩ (.slice none 0 0)).cell? ⟨w.heap.size, 3, none⟩ = some (.slice none 0 0) := by
    rw [HW.out]; exact ((BkAt.alloc (BkAt.new w 36 #[.int .i64 s.w, .int .i64 s.h, .int .i64 s.back, .slice none 0 0]) _).put 3 (.slice none 0 0) rfl).cell 3 rfl
   go_wp2_with fail
   obtain ⟨x0, x1, x2, x3⟩ := hJ.cells4
   exact bodyPost_ret (v := .agg #[.int .i64 s.w, .int .i64 s.h, .int .i64 s.back, .slice none 0 0]) (by simp [results, Try.results69, go_sem, x0, x1, x2, x3]) rfl ⟨_, [], rfl, ⟨⟨.slice none 0 0, [], [], rfl, by rw [H0.out]; trivial, by simp, by rw [H0.out]; exact ⟨rfl, .inl ⟨rfl, rfl⟩⟩, rfl⟩, List.nodup_nil, by simp⟩, by repeat (first | exact HB.out | refine Below.setCell ?_ (by dsimp only; omega) _)⟩
 ·obtain ⟨n, hn⟩ : ∃ n, n = s.fs.length := ⟨_, rfl⟩
  have hn2 : n ≤ 2097152 := by unfold sizFs at hm; omega
  have HC := cloneFs s.fs g0 c0 xs0 bss0 _ (by rw [← hn]; exact hn2) hU0
  unfold CloneFs at HC
  rw [← hn] at HC hB0 ⊢
  have hold0 : ∀ b ∈ bss0.flatten, b < w.heap.size := fun b hb' => repSfs.ex h b (by rw [hbs]; simp [hb'])
  have HC := Lib.hid HC
  have Hn := Lib.hid hn
  have HU0 := Lib.hid hU0
  have Hm := Lib.hid (show lenFs s.fs ≤ 2097152 by unfold sizFs at hm; omega)
  obtain ⟨W0, hW0⟩ : ∃ W, W = (w.alloc (.cells #[.int .i64 s.w, .int .i64 s.h, .int .i64 s.back, .slice (some ⟨g0, 0, none⟩) n c0] 36)).alloc (.cells #[.int .i64 0, .int .i64 0, .int .i64 0, .slice none 0 0] 36) := ⟨_, rfl⟩
  have HW := Lib.hid hW0
  obtain ⟨d0, d1, d2, d3⟩ := hB0.t.cells4
  clear h hr hn hU0 hW0 hm
  go_enter Try.func69, Try.ntmps69
  go_wp2_with fail
  refine HC.out.mono ?_
  rintro e w1 ⟨g, c, rfl, hU, hg, hb⟩
  have hgl := hB0.r.lt
  replace hB0 := hB0.call hb
  have fz3 := hB0.t.frozen 3
  obtain ⟨V0, hV0⟩ : ∃ V, V = w1.setCell ⟨w.heap.size, 3, none⟩ (.slice (some ⟨g, 0, none⟩) n c) := ⟨_, rfl⟩
  have hgr0 := grown_setB w1 w.heap.size 3 (.slice (some ⟨g, 0, none⟩) n c)
  have hg2 : w.heap.size + 2 ≤ g := by omega
  have hold : ∀ b ∈ bss0.flatten, b < w1.heap.size ∧ b < g := fun b hb' => by have := hold0 b hb'; have := hU.lt; omega
  have hB1 : CscB w s (.slice (some ⟨g, 0, none⟩) n c) V0 := by
   rw [hV0]; exact ⟨hB0.t.put 3 _ rfl, hB0.r.far (by dsimp only; omega) _, hB0.bw.setCell (by dsimp only; omega) _⟩
  have hbo0 : ∀ b ∈ bss0.flatten, b ≠ w.heap.size := fun b hb' e => by have := hold0 b hb'; omega
  have hU1 : CpU (w.heap.size + 2) s.fs g c n 0 xs0 bss0 V0 := by
   rw [hV0]
   refine ⟨⟨rowsR_keep hU.rr fun b hb' => ?_, hU.ls, own_chgN hU.ow (Chg.setB _ _ _ _ [w.heap.size] (by simp)) (fun b hb' e => ?_), ?_⟩, by simp, by simp, fun b hb' => by have := hold b hb'; omega, by omega⟩
   ·exact Below.heap_setCell w1 _ _ b (hbo0 b hb')
   ·simp [Value.ownBlock] at hb'; have : b = w.heap.size := (by simpa using e); omega
   ·exact Hn.out
  have HB1 := Lib.hid hB1
  have HU1 := Lib.hid hU1
  have HV := Lib.hid hV0
  have d3 := hB0.t.cells4.2.2.2
  clear hU hb hB0 hgl hold hgr0 hB1 hbo0 hU1 hV0
  go_wp2_with fail
  rw [← HV.out]
  go_loopw [3, 4, 12] (fun _ _ s12 wr => ∃ (k : Nat) (xs : List (List Value)) (bss : List (List Nat)), k ≤ n ∧ s12 = .int .i64 k ∧ CpU (w.heap.size + 2) s.fs g c n k xs bss wr ∧ CscB w s (.slice (some ⟨g, 0, none⟩) n c) wr) (fun _ _ s12 _ => n - (intOf s12).toNat)
  case atStart => exact ⟨0, _, _, Nat.zero_le _, rfl, HU1.out, HB1.out⟩
  case round =>
   clear d0 d1 d2 d3 fz3
   obtain ⟨k, xs, bss, hk, rfl, hU, hT⟩ := hrel
   by_cases hlt : k < n
   ·obtain ⟨f, x, b, hf, hx, hb, hxl, hR, hC⟩ := hU.u.at_ hlt
    have hR2 := hR
    obtain ⟨d, rfl, hd⟩ := hR2
    have HF := Lib.hid hf
    have HX := Lib.hid hx
    have HBk := Lib.hid hb
    have hrd := repInts_rd hd
    have hdg : ∀ q, d.ownBlock = some q → some q ≠ some g := fun q hq e => hU.gn q (flat_mem hb (by obtain ⟨v', e1, _, e2⟩ := hd; obtain rfl : d = v' := (by simpa using e1); rw [e2, hq]; simp)) (Option.some.inj e)
    have c0' := hC 0 _ rfl
    rw [Nat.add_zero] at c0'
    have c1' := hC 1 _ rfl
    have c2' := hC 2 _ rfl
    have c3' := hC 3 _ rfl
    have c4' := hC 4 _ rfl
    have c5' := hC 5 _ rfl
    have c6' := hC 6 _ rfl
    have c7' := hC 7 _ rfl
    have c8' := hC 8 _ rfl
    have c9' := hC 9 _ rfl
    have c10' := hC 10 _ rfl
    obtain ⟨Ad, cd, hdd⟩ := hrd.form
    have k0 : (0 : Int) ≤ (k : Int) := by omega
    have k1 : (k : Int) < (n : Int) := by omega
    have hlen : f.data.length ≤ 2097152 := by have := lenFs_at hf; have := Hm.out; omega
    have Hlen := Lib.hid hlen
    obtain ⟨bt, hbt⟩ : ∃ b, b = wr.heap.size := ⟨_, rfl⟩
    have hb0 := belI_box wr (.cells #[.int .i64 f.id, .int .i64 f.x, .int .i64 f.y, .int .i64 f.w, .int .i64 f.h, .int .i64 f.alpha, .int .i64 f.orient, .bool f.vis, .int .i64 f.bw, .int .i64 f.bh, d] 80)
    obtain ⟨W2, hW2⟩ : ∃ W, W = wr.alloc (.cells #[.int .i64 f.id, .int .i64 f.x, .int .i64 f.y, .int .i64 f.w, .int .i64 f.h, .int .i64 f.alpha, .int .i64 f.orient, .bool f.vis, .int .i64 f.bw, .int .i64 f.bh, d] 80) := ⟨_, rfl⟩
    have hI : CscI w s g c n bt f d W2 := by rw [hW2]; exact ⟨hT.call hb0, BkAt.newAt hbt.symm _ _, hrd.call hb0⟩
    have hU2 : CpU (w.heap.size + 2) s.fs g c n k xs bss W2 := by rw [hW2]; exact hU.call hb0
    have hbt2 : w.heap.size + 2 ≤ bt ∧ bt ≠ g := ⟨by have := hT.r.lt; omega, by have := hU.u.lt; omega⟩
    have HW2 := Lib.hid hW2
    have Hbt := Lib.hid hbt
    have hfin : bt < W2.heap.size := hI.x.lt
    subst hdd
    clear hf hx hb hR hd hC hrd hU hT hb0 hW2 hbt hlen hxl
    go_upto_region 5 with fail
    rw [← HW2.out, ← Hbt.out]
    clear c0' c1' c2' c3' c4' c5' c6' c7' c8' c9' c10'
    refine wp_region_held_drew (S := fun W => CscI w s g c n bt f (.slice Ad f.data.length cd) W) (by kernel_rfl) (hI.call (belI_drew _)) (fun hS => ?_)
    have hU := hU2.call (belI_drew _)
    refine tcH (i := 0) (v := .pointer (some ⟨w.heap.size, 3, none⟩)) rfl (by intro w' hSw; (try dsimp only at hSw); (obtain ⟨d0, d1, d2, d3⟩ := hSw.o.t.cells4); (have x8 := hSw.x.cell 8 rfl); (have x9 := hSw.x.cell 9 rfl); (have x10 := hSw.x.cell 10 rfl); go_simp) ?_
    refine tcH (i := 1) (v := .slice (some ⟨g, 0, none⟩) n c) rfl (by intro w' hSw; (try dsimp only at hSw); (obtain ⟨d0, d1, d2, d3⟩ := hSw.o.t.cells4); (have x8 := hSw.x.cell 8 rfl); (have x9 := hSw.x.cell 9 rfl); (have x10 := hSw.x.cell 10 rfl); go_simp) ?_
    refine tcH (i := 2) (v := .int .i64 (k : Int)) rfl (by intro w' hSw; (try dsimp only at hSw); (obtain ⟨d0, d1, d2, d3⟩ := hSw.o.t.cells4); (have x8 := hSw.x.cell 8 rfl); (have x9 := hSw.x.cell 9 rfl); (have x10 := hSw.x.cell 10 rfl); go_simp) ?_
    refine tcH (i := 3) (v := .pointer (some ⟨bt, 8, none⟩)) rfl (by intro w' hSw; (try dsimp only at hSw); (obtain ⟨d0, d1, d2, d3⟩ := hSw.o.t.cells4); (have x8 := hSw.x.cell 8 rfl); (have x9 := hSw.x.cell 9 rfl); (have x10 := hSw.x.cell 10 rfl); go_simp) ?_
    refine tcH (i := 4) (v := .agg #[.int .i64 f.bw, .int .i64 f.bh, .slice Ad f.data.length cd]) rfl (by intro w' hSw; (try dsimp only at hSw); (obtain ⟨d0, d1, d2, d3⟩ := hSw.o.t.cells4); (have x8 := hSw.x.cell 8 rfl); (have x9 := hSw.x.cell 9 rfl); (have x10 := hSw.x.cell 10 rfl); go_simp) ?_
    (try simp only [Act.put]); (try simp only [zPa]); (try simp only [zPb, zPc])
    refine wpAnyH_ready (rs := [5]) (by kernel_rfl) (by simp) ?_
    refine (AllReadyH.cons rfl (fun K hK => ?_) AllReadyH.nil)
    ·rw [if_pos (by kernel_rfl)]
     (try simp only [zGa]); (try simp only [zGb]); (try simp only [zGc])
     go_simp
     with_reducible refine (copiedI f.bw f.bh _ f.data _ Hlen.out hS.d).mono ?_
     rintro e W' ⟨u, rfl, howU, hb⟩
     obtain ⟨Au, cu, hu⟩ := ownI_shape howU
     subst hu
     dsimp only
     have hUb := hU.call hb
     have y8 := (cpu_cell hUb HX.out 8 _ rfl (by omega)).1
     have y9 := (cpu_cell hUb HX.out 9 _ rfl (by omega)).1
     have y10 := (cpu_cell hUb HX.out 10 _ rfl (by omega)).1
     have z8 := (cpu_cell hUb HX.out 8 _ rfl (by omega)).2
     have z9 := (cpu_cell hUb HX.out 9 _ rfl (by omega)).2
     have z10 := (cpu_cell hUb HX.out 10 _ rfl (by omega)).2
     have hfr : ∀ q ∈ (Value.slice Au f.data.length cu).ownBlock.toList, q ∉ bss.flatten ∧ q ≠ g := fun q hq => by
      have h1 := (own_ltB howU q hq).1
      exact ⟨fun e => by have := rowsR_ex hU.u.rr q e; omega, by have := hU.u.lt; omega⟩
     have hlo := hS.o.r.lt
     obtain ⟨xs', bss', hN, hG⟩ := hUb.next hlt HF.out HX.out HBk.out (repInts_own (howU.mono (show w.heap.size + 2 ≤ _ by omega))) hfr
     clear hUb hfr hlo
     refine hK.out _ _ (hS.call hb) (fun hS => ?_)
     clear hK
     (try simp only [Act.put]); (try simp only [zPa]); (try simp only [zPb, zPc])
     refine tcH (i := 6) (v := .pointer (some ⟨g, k * 11, none⟩)) rfl (by intro w' hSw; (try dsimp only at hSw); (obtain ⟨d0, d1, d2, d3⟩ := hSw.o.t.cells4); (have x8 := hSw.x.cell 8 rfl); (have x9 := hSw.x.cell 9 rfl); (have x10 := hSw.x.cell 10 rfl); go_simp) ?_
     refine tcH (i := 7) (v := .pointer (some ⟨g, k * 11 + 8, none⟩)) rfl (by intro w' hSw; (try dsimp only at hSw); (obtain ⟨d0, d1, d2, d3⟩ := hSw.o.t.cells4); (have x8 := hSw.x.cell 8 rfl); (have x9 := hSw.x.cell 9 rfl); (have x10 := hSw.x.cell 10 rfl); go_simp) ?_
     (try simp only [Act.put]); (try simp only [zPa]); (try simp only [zPb, zPc])
     refine wpAnyH_ready (rs := [8]) (by kernel_rfl) (by simp) ?_
     refine (AllReadyH.cons rfl (fun K hK => ?_) AllReadyH.nil)
     ·rw [if_pos (by kernel_rfl)]
      (try simp only [zGa]); (try simp only [zGb]); (try simp only [zGc])
      go_simp
      refine hK.out _ _ (⟨hS.o.set hG hg2, hS.x.grown hG (fun e => hbt2.2 (Option.some.inj e)), hS.d.grown hG hdg⟩) (fun hS => ?_)
      clear hK
      (try simp only [Act.put]); (try simp only [zPa]); (try simp only [zPb, zPc])
      refine wpAnyH_done (by kernel_rfl) ?_ _
      go_wp2_with fail
      go_roundw
      case rel => exact ⟨k + 1, xs', bss', by omega, by go_num, hN, hS.o⟩
      case measure => simp [intOf]; omega
   ·obtain rfl : k = n := by omega
    obtain ⟨d0, d1, d2, d3⟩ := hT.t.cells4
    obtain ⟨r0, r1, r2, r3⟩ := hT.r.cells4
    have f0 := hT.r.frozen 0
    have f1 := hT.r.frozen 1
    have f2 := hT.r.frozen 2
    have f3 := hT.r.frozen 3
    have HJ := Lib.hid (hT.r.all4 (.int .i64 s.w) (.int .i64 s.h) (.int .i64 s.back) (.slice (some ⟨g, 0, none⟩) k c))
    have HO := Lib.hid hU.own
    have HBw := Lib.hid hT.bw
    clear hT hU
    go_wp2_with fail
    obtain ⟨x0, x1, x2, x3⟩ := HJ.out.cells4
    have hCh := (((Chg.setB wr (w.heap.size + 1) 0 (.int .i64 s.w) [w.heap.size + 1] (by simp)).trans (Chg.setB _ (w.heap.size + 1) 1 (.int .i64 s.h) _ (by simp))).trans (Chg.setB _ (w.heap.size + 1) 2 (.int .i64 s.back) _ (by simp))).trans (Chg.setB _ (w.heap.size + 1) 3 (.slice (some ⟨g, 0, none⟩) k c) _ (by simp))
    have hOl : ∀ b ∈ g :: bss.flatten, b ≠ w.heap.size + 1 := fun b hb => by have := HO.out.lo b hb; omega
    exact bodyPost_ret (v := .agg #[.int .i64 s.w, .int .i64 s.h, .int .i64 s.back, .slice (some ⟨g, 0, none⟩) k c]) (by simp [results, Try.results69, go_sem, x0, x1, x2, x3]) rfl ⟨_, _, rfl, (Rep.Own.chg HO.out hCh (fun b hb e => hOl b hb (by simpa using e))).mono (by omega), hCh.below HBw.out HBw.out.size (fun b hb => by have : b = w.heap.size + 1 := (by simpa using hb); omega)⟩
end Go.Proofs.Ytnndifemkichmaa
