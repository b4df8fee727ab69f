/- The contract of copiedBuffers. No statement is proved here. -/
import Derived.Test.YtnndifemkichmaaMA
import Derived.Test.YtnndifemkichmaaMB
import Derived.Test.YtnndifemkichmaaLk
import Derived.Test.YtnndifemkichmaaChM
import Derived.Test.YtnndifemkichmaaIsE
import Derived.Test.YtnndifemkichmaaSlE
import Derived.Test.YtnndifemkichmaaIsT
import Derived.Test.YtnndifemkichmaaChR
import Derived.Test.YtnndifemkichmaaSnS
import Derived.Test.YtnndifemkichmaaSnC
import Derived.Test.YtnndifemkichmaaProg
import Derived.WalkKit
import Derived.ProofKit
import Derived.OpenShut
import Derived.WalkLawsBesides
import Derived.WalkSpells
import Derived.ShutString
import Derived.ChangeOld
import Derived.Below
import Derived.Lib.Hide
import Derived.BigQuiet
import Derived.Deep.QuietTactic
import Derived.Maps.AppendAt
import Derived.Deep.OwnRows
import Derived.Handy
import Derived.Deep.Draws
import Derived.OwnWalk
import Derived.Deep.AppendLies
import Derived.Deep.LoopGhost
import Derived.Deep.Onto
import Derived.Deep.MidRow
import Derived.Deep.WholeRow
import Derived.Laws.BitsAllLaws
import Derived.Lib.QuoteBits
import Derived.Deep.RegionHeld3
import Derived.Deep.DeepCutAuto
import Derived.Test.YtnndifemkichmaaShelf
import Derived.Laws.CopyOwn
import Derived.Deep.RegionLaw
import Derived.Great.BuildSlice
import Derived.Laws.AppendOwn
import Derived.Shelf.RegionOpenPlain
import Derived.Lib.SliceRun
namespace Go.Proofs.Ytnndifemkichmaa
open Go.RowKit
def CbAns (L : List Im) (w : World) (e : Ending) (w' : World) : Prop := ∃ u bs, e = .returned u ∧ repIms.Own w.heap.size w' L [u] bs ∧ Below w.heap.size w w'
theorem splice_full {α : Type} (L C : List α) (h : C.length = L.length) : splice L 0 C = C := by
 unfold splice
 rw [List.take_zero, List.nil_append, Nat.zero_add, h, List.drop_length, List.append_nil]
theorem ims_one {w : World} : ∀ {L : List Im} {xs : List (List Value)} {bss : List (List Nat)}, rowsR repIm w L xs bss → ∀ v ∈ xs.flatten, v.oneCell' = true
  | [], [], [], _, v, hv => by simp at hv
  | f :: L, x :: xs, b :: bss, h, v, hv => by
    rw [List.flatten_cons, List.mem_append] at hv
    rcases hv with hv | hv
    · obtain ⟨d, rfl, hd⟩ := h.1
      obtain ⟨A, c, rfl⟩ := (repInts_rd hd).form
      simp [imCells] at hv
      rcases hv with rfl | rfl | rfl <;> rfl
    · exact ims_one h.2 v hv
theorem wp_copy_ints {op : Oper} {a : Act} {w : World} {K : Act → World → Prop} {Q : Exit → Act → World → Prop} (d s : Operand) (ho : op.op = .call { callee := .builtin .copy, args := #[d, s], argTypes := #[23, 23] })
  (B g m : Nat) (A : Option Addr) (c : Nat) (L Z : List Int) (hL : L.length = m) (hZ : Z.length = m) (hd : a.eval d = .slice (some ⟨g, 0, none⟩) m m) (hs : a.eval s = .slice A m c) (hr : RdI w (.slice A m c) L) (hown : w.ownsRow B 3 1 (.slice (some ⟨g, 0, none⟩) m m) m (intCells Z))
  (h : ∀ w', w'.ownsRow B 3 1 (.slice (some ⟨g, 0, none⟩) m m) m (intCells L) → w.grownBy w' (some g) → K (a.put op.dst (goInt m)) w') : op.wp Try.prog a w K Q := by
 by_cases h0 : m = 0
 ·subst h0
  obtain rfl : L = [] := List.eq_nil_of_length_eq_zero hL
  obtain rfl : Z = [] := List.eq_nil_of_length_eq_zero hZ
  have hrun := run_copy_none (P := Try.prog) w 23 23 op.type 3 (some ⟨g, 0, none⟩) A 0 0 0 c Try.underlying23 szInt rfl
  unfold Oper.wp
  simp [execOp, ho, resolve, invoke, builtin, hd, hs, hrun, Result.andThen]
  exact h w hown (World.grownBy.refl _ _)
 ·obtain ⟨g', x, rfl, _, _⟩ := hr.at_ (k := 0) (by omega)
  refine wp_copy_mine d s 23 23 ho 3 Try.underlying23 szInt B g 0 m m m m ⟨g', 0, none⟩ m c (intCells Z) (intCells L) m (by rw [intCells_length, hL]) hd hs hown (by show m = min m m; omega) (fun j v hv => ?_) (by omega) (intCells_one _) (fun w' h1 h2 => ?_)
  ·rw [intCells_get] at hv
   obtain ⟨y, hy, rfl⟩ := Option.map_eq_some_iff.1 hv
   rw [addr_plus, Nat.zero_add]
   obtain ⟨g2, x2, e2, hx2, hc2⟩ := hr.at_ (k := j) (List.getElem?_eq_some_iff.1 hy).1
   obtain rfl : g' = g2 := by simpa using e2
   rw [Option.some.inj (hy.symm.trans hx2)]
   exact hc2
  ·have h3 := h1.out
   rw [splice_full _ _ (by rw [intCells_length, intCells_length, hL, hZ])] at h3
   exact h w' h3 h2.out
structure RdUp (w W : World) : Prop where
 b : Below w.heap.size w W
theorem RdUp.rd {w W : World} (h : RdUp w W) {v : Value} {L : List Int} (hr : RdI w v L) : RdI W v L := hr.call h.b
structure CbI (B : Nat) (L : List Im) (g c n k : Nat) (xs : List (List Value)) (bss : List (List Nat)) (W : World) : Prop where
 u : SlU repIm 58 3 W L g c n xs bss
 nd : (bss.take k).flatten.Nodup
 lo : ∀ b ∈ (bss.take k).flatten, B ≤ b
 gn : ∀ b ∈ bss.flatten, b ≠ g
 hg : B ≤ g
theorem CbI.next {B : Nat} {L : List Im} {g c n k : Nat} {xs : List (List Value)} {bss : List (List Nat)} {W V W2 : World} (h : CbI B L g c n k xs bss W) (hk : k < n) {f : Im} {d : Value} {b : List Nat} (hf : L[k]? = some f) (hx : xs[k]? = some (imCells f d)) (hb : bss[k]? = some b)
    (hV : Below W.heap.size W V) {g6 m : Nat} (h6 : W.heap.size ≤ g6) (hm : f.d.length = m) (hB : B ≤ W.heap.size) (hg2 : (V.setCell ⟨g, k * 3 + 2, none⟩ (.slice (some ⟨g6, 0, none⟩) m m)).grownBy W2 (some g6))
    (hu : W2.ownsRow W.heap.size 3 1 (.slice (some ⟨g6, 0, none⟩) m m) m (intCells f.d)) : ∃ xs' bss', CbI B L g c n (k + 1) xs' bss' W2 := by
  have hkx : k < xs.length := (List.getElem?_eq_some_iff.1 hx).1
  have hUV := h.u.call hV
  have hS := (SetK.zero hUV hx).put hkx 2 (by omega) (.slice (some ⟨g6, 0, none⟩) m m) rfl
  have hgl := h.u.lt
  have hbl : ∀ q ∈ bss.flatten, q < W.heap.size := fun q hq => rowsR_ex h.u.rr q hq
  have hc2 := Chg.of_grown hg2
  have hcS := Chg.of_grown hS.gr
  have how2 := own_chgN hS.ow hc2 (fun q hq e => by have h1 : q = g := by simpa [Value.ownBlock] using hq
                                                    have h2 : q = g6 := by simpa using e
                                                    omega)
  have hR : repIm.R W2 f (imCells f (.slice (some ⟨g6, 0, none⟩) m m)) [g6] := ⟨_, rfl, _, rfl, by rw [hm]; exact own_rebase hu fun _ _ => Nat.zero_le _, by simp [Value.ownBlock]⟩
  have hfin := SlU.upd (a' := f) (b' := [g6]) hUV hk how2 hS.ls hR (fun j dd _ hd q hq => by
    have hqf := flat_mem hd hq
    have h1 := hbl q hqf
    have h2 := h.gn q hqf
    have h3 := hV.size
    rw [hc2.block q (by have := hcS.size; omega) (fun e => by have : q = g6 := (by simpa using e); omega)]
    exact hcS.block q (by omega) (fun e => h2 (by simpa using e)))
  rw [show L.set k f = L from by
    apply List.ext_getElem?
    intro j
    by_cases e : j = k
    · subst e; rw [List.getElem?_set_self (List.getElem?_eq_some_iff.1 hf).1, hf]
    · rw [List.getElem?_set_ne (Ne.symm e)]] at hfin
  refine ⟨_, _, hfin, ?_, ?_, ?_, h.hg⟩
  · rw [take_set hb, List.flatten_append, List.nodup_append]
    refine ⟨h.nd, by simp, fun x hx y hy e => ?_⟩
    have hy : y = g6 := by simpa using hy
    have h1 : x < W.heap.size := hbl x (by obtain ⟨dd, hd, hm⟩ := List.mem_flatten.1 hx; exact List.mem_flatten.2 ⟨dd, List.mem_of_mem_take hd, hm⟩)
    omega
  · intro q hq
    rw [take_set hb, List.flatten_append, List.mem_append] at hq
    rcases hq with hq | hq
    · exact h.lo q hq
    · have : q = g6 := by simpa using hq
      omega
  · intro q hq
    obtain ⟨dd, hd, hm⟩ := List.mem_flatten.1 hq
    rcases List.mem_or_eq_of_mem_set hd with hd | rfl
    · exact h.gn q (List.mem_flatten.2 ⟨dd, hd, hm⟩)
    · have : q = g6 := by simpa using hm
      omega
theorem CbI.own {B : Nat} {L : List Im} {g c n : Nat} {xs : List (List Value)} {bss : List (List Nat)} {W : World} (h : CbI B L g c n n xs bss W) : repIms.Own B W L [.slice (some ⟨g, 0, none⟩) n c] (g :: bss.flatten) := by
 have hl : bss.take n = bss := List.take_of_length_le (by rw [(rowsR_len h.u.rr).2, h.u.hn]; exact Nat.le_refl _)
 have h1 := h.nd
 have h2 := h.lo
 rw [hl] at h1 h2
 exact h.u.own (fun e => h.gn g e rfl) h1 h.hg h2
set_option maxHeartbeats 2000000 in
set_option maxRecDepth 10000 in
theorem cbI_some (L : List Im) (g0 c0 : Nat) (xs0 : List (List Value)) (bss0 : List (List Nat)) (w : World) (hm : sizIs L ≤ 2097152) (hU : SlU repIm 58 3 w L g0 c0 L.length xs0 bss0) : Calls Try.prog 67 #[.slice (some ⟨g0, 0, none⟩) L.length c0] w (CbAns L w) := by
 have hr := hU.rep
 obtain ⟨n, hn⟩ : ∃ n, n = L.length := ⟨_, rfl⟩
 unfold sizIs at hm
 have Hll := Lib.hid (show lenIs L ≤ 2097152 by omega)
 rw [← hn] at hU hr hm ⊢
 have hn2 : n ≤ 2097152 := by omega
 have hmk := fun W => make_im n hn2 W
 have hxl : xs0.length = n := by rw [(rowsR_len hU.rr).1, ← hU.hn]
 have hfl : xs0.flatten.length = n * 3 := by rw [flat_len hU.ls, hxl]
 have hgl := hU.lt
 have Hn := Lib.hid hn
 have HR := Lib.hid hr
 clear hr hn hm
 go_enter Try.func67, Try.ntmps67
 go_wp2_with fail
 have hown0 := own_rebase (C := w.heap.size) (slu_made_im w n hn2).ow (fun k hk => by rw [show k = w.heap.size by simpa [Value.ownBlock] using hk]; exact Nat.le_refl _)
 obtain ⟨w2, hrun, hown2, hgr2⟩ := run_copy_ownW (P := Try.prog) _ 32 32 3 58 3 w.heap.size w.heap.size 0 n n n n ⟨g0, 0, none⟩ n c0 _ xs0.flatten n hfl Try.underlying32 szImC hown0
  (by show n = min n n; omega)
  (fun j v hv => by
   rw [addr_plus, Nat.zero_add]
   exact (World.cell?_of_block (Below.heap_alloc w _ g0 hgl)).trans (own_cellI hU.ow hv)) (by omega) (ims_one hU.rr)
 rw [splice_full _ _ (by rw [hfl, flat_len (s := 3) fun x hx => by rw [List.eq_of_mem_replicate hx]; rfl, List.length_replicate])] at hown2
 have hb2 : Below w.heap.size w w2 := ((Below.refl _ _).alloc (Nat.le_refl _) _).grown hgr2 (by simp) (fun k hk => by injection hk with hk; omega)
 have hC0 : CbI w.heap.size L w.heap.size n n 0 xs0 bss0 w2 := ⟨⟨rowsR_keep hU.rr fun b hb => hb2.block b (rowsR_ex hU.rr b hb), hU.ls, own_rebase hown2 fun _ _ => Nat.zero_le _, hU.hn⟩, by simp, by simp, fun b hb => by have := rowsR_ex hU.rr b hb; omega, Nat.le_refl _⟩
 have HC0 := Lib.hid hC0
 have HB2 := Lib.hid hb2
 simp only [hrun, Result.andThen_ok]
 clear hrun hown0 hown2 hgr2 hmk hfl hxl hU hC0 hb2
 obtain ⟨g, hg⟩ : ∃ g, g = w.heap.size := ⟨_, rfl⟩
 have Hg := Lib.hid hg
 rw [← hg] at HC0 HB2 ⊢
 clear hg
 go_wp2_with fail
 go_loopw [4, 5, 14] (fun s4 s5 s14 wr => ∃ (k : Nat) (xs : List (List Value)) (bss : List (List Nat)), k ≤ n ∧ s14 = .int .i64 k ∧ Hid (CbI g L g n n k xs bss wr) ∧ Hid (Below g w wr)) (fun _ _ s14 _ => n - (intOf s14).toNat)
 case atStart => exact ⟨0, _, _, Nat.zero_le _, rfl, HC0, HB2⟩
 case round =>
  clear HC0 HB2
  obtain ⟨k, xs, bss, hk, rfl, HC, HB⟩ := hrel
  by_cases hlt : k < n
  ·obtain ⟨g', f, d, b', he, hf, hR, hc⟩ := at_lIs HR.out (k := k) (by rw [← Hn.out]; exact hlt)
   obtain rfl : g0 = g' := by simpa using he
   have hrd := repInts_rd (r_im hR)
   obtain ⟨A, cp, rfl⟩ := hrd.form
   obtain ⟨m, hm⟩ : ∃ m, m = f.d.length := ⟨_, rfl⟩
   have hml : m ≤ 2097152 := by rw [hm]; exact Nat.le_trans (lenIs_at hf) Hll.out
   have HBw : Below w.heap.size w wr := by rw [← Hg.out]; exact HB.out
   have cw : ∀ j v, (imCells f (.slice A f.d.length cp))[j]? = some v → wr.cell? ⟨g0, k * 3 + j, none⟩ = some v := fun j v hv => (HBw.cell (World.block_lt_of_cell? _ _ (hc j v hv))).trans (hc j v hv)
   have s0 := cw 0 _ rfl
   rw [Nat.add_zero] at s0
   have s1 := cw 1 _ rfl
   have s2 := cw 2 _ rfl
   rw [← hm] at s2 hrd
   have Hf := Lib.hid hf
   have Hm := Lib.hid hm
   have Hrd := Lib.hid hrd
   obtain ⟨f0, x, b, hf0, hx, hbk, hxl, hRx, hcx⟩ := HC.out.u.at_ hlt
   obtain rfl : f = f0 := Option.some.inj (Hf.out.symm.trans hf0)
   obtain ⟨d0, rfl, _⟩ := hRx
   have y2 := hcx 2 _ rfl
   have hgw := HC.out.u.lt
   have k0 : (0 : Int) ≤ (k : Int) := by omega
   have k1 : (k : Int) < (n : Int) := by omega
   have hmkI := fun W => run_make_row' (P := Try.prog) 23 3 (.int .i64 0) 8 Try.underlying23 infoInt rfl .i64 .i64 m (by omega) (by omega) W
   have hb1 := belI_call (belI_box wr (.cells #[.int .i64 f.w, .int .i64 f.h, .slice A m cp] 58)) (belI_box _ (.cells (madeCells #[.int .i64 0] m) 3))
   have y2' := (hb1.cell (World.block_lt_of_cell? _ _ y2)).trans y2
   have z2' := (HC.out.u.call hb1).frozen (k * 3 + 2)
   have HX := Lib.hid hx
   have HBK := Lib.hid hbk
   have hkx : k < xs.length := (List.getElem?_eq_some_iff.1 hx).1
   obtain ⟨u, hu⟩ : ∃ u, u = Value.slice (some ⟨wr.heap.size + 1, 0, none⟩) m m := ⟨_, rfl⟩
   have hS := (SetK.zero HC.out.u hx).put hkx 2 (by omega) u rfl
   have hcellU := own_cellI hS.ow (j := k * 3 + 2) (u := u) (by rw [flat_at hS.ls k 2 (List.getElem?_set_self hkx) (by omega)]; rfl)
   have hbS : Below w.heap.size w (wr.setCell ⟨g, k * 3 + 2, none⟩ u) := (Chg.setB wr g (k * 3 + 2) u [g] (by simp)).below HBw HBw.size (fun q hq => by rw [List.mem_singleton.1 hq, Hg.out]; exact Nat.le_refl _)
   obtain ⟨Va, hVa⟩ : ∃ V, V = (wr.setCell ⟨g, k * 3 + 2, none⟩ u).alloc (.cells #[.int .i64 f.w, .int .i64 f.h, .slice A m cp] 58) := ⟨_, rfl⟩
   obtain ⟨Vb, hVb⟩ : ∃ V, V = Va.alloc (.cells (madeCells #[.int .i64 0] m) 3) := ⟨_, rfl⟩
   have hsa : Va.heap.size = wr.heap.size + 1 := by rw [hVa]; simp
   have hba : Below (wr.setCell ⟨g, k * 3 + 2, none⟩ u).heap.size (wr.setCell ⟨g, k * 3 + 2, none⟩ u) Va := by rw [hVa]; exact belI_box _ _
   have hbb : Below Va.heap.size Va Vb := by rw [hVb]; exact belI_box _ _
   have hbv := belI_call (belI_call hbS hba) hbb
   have hox : BkAt Vb wr.heap.size 58 #[.int .i64 f.w, .int .i64 f.h, .slice A m cp] := by rw [hVb, hVa]; exact (BkAt.newAt (by simp) _ _).alloc _
   have hcu := (hbb.cell (World.block_lt_of_cell? _ _ ((hba.cell (World.block_lt_of_cell? _ _ hcellU)).trans hcellU))).trans ((hba.cell (World.block_lt_of_cell? _ _ hcellU)).trans hcellU)
   have hoi : Vb.ownsRow (wr.heap.size + 1) 3 1 u m (intCells (tabI m (fun _ => 0))) := by
    rw [hVb, hu, ← hsa]
    exact own_of_rowIs (World.rowIs_made _ _ _ _) (Nat.le_refl _) (by unfold maxLen; omega) (tabI_length _ _) (fun j x hx => by
     have hj : j < m := by have := (List.getElem?_eq_some_iff.1 hx).1; rwa [tabI_length] at this
     rw [tabI_get m _ j hj] at hx
     injection hx with hx
     rw [← hx])
   have hgr : (wr.setCell ⟨g, k * 3 + 2, none⟩ u).grownBy Vb (some (wr.heap.size + 1)) := by rw [hVb, hVa]; exact (World.grownBy_alloc _ _ _).trans (World.grownBy_alloc _ _ _)
   have HG := Lib.hid hgr
   have HO := Lib.hid hoi
   have HBV := Lib.hid hbv
   have HV := Lib.hid (show Vb = ((wr.setCell ⟨g, k * 3 + 2, none⟩ u).alloc (.cells #[.int .i64 f.w, .int .i64 f.h, .slice A m cp] 58)).alloc (.cells (madeCells #[.int .i64 0] m) 3) by rw [hVb, hVa])
   have HX2 := Lib.hid (And.intro hcu (And.intro (hox.cell 2 rfl) hox.lt))
   have Hu := Lib.hid hu
   clear he hf hR hc hf0 hx hbk hcx hm hxl y2 cw hS hcellU hbS hVa hVb hsa hba hbb hbv hox hcu hoi hgr hu hkx hrd
   go_upto_region 7 with fail
   rw [← Hu.out, ← HV.out]
   clear s0 s1 s2 y2' z2' hmkI hb1
   refine wp_region_held_drew (S := fun W => W.cell? ⟨g, k * 3 + 2, none⟩ = some u ∧ W.cell? ⟨wr.heap.size, 2, none⟩ = some (.slice A m cp)) (by kernel_rfl) ⟨HX2.out.1, HX2.out.2.1⟩ (fun hS => ?_)
   have hod : Vb.drew.ownsRow (wr.heap.size + 1) 3 1 u m (intCells (tabI m (fun _ => 0))) := HO.out.drew
   have hbd : RdUp w Vb.drew := ⟨HBV.out.drew⟩
   refine tcH (i := 0) (v := .slice (some ⟨g, 0, none⟩) n n) rfl (by intro w' hSw; (try dsimp only at hSw); (obtain ⟨e1, e2⟩ := hSw); go_simp) ?_
   refine tcH (i := 1) (v := .int .i64 (k : Int)) rfl (by intro w' hSw; (try dsimp only at hSw); (obtain ⟨e1, e2⟩ := hSw); go_simp) ?_
   refine tcH (i := 2) (v := .pointer (some ⟨g, k * 3, none⟩)) rfl (by intro w' hSw; (try dsimp only at hSw); (obtain ⟨e1, e2⟩ := hSw); go_simp) ?_
   refine tcH (i := 3) (v := .pointer (some ⟨g, k * 3 + 2, none⟩)) rfl (by intro w' hSw; (try dsimp only at hSw); (obtain ⟨e1, e2⟩ := hSw); go_simp) ?_
   refine tcH (i := 4) (v := u) rfl (by intro w' hSw; (try dsimp only at hSw); (obtain ⟨e1, e2⟩ := hSw); go_simp) ?_
   refine tcH (i := 5) (v := .pointer (some ⟨wr.heap.size, 2, none⟩)) rfl (by intro w' hSw; (try dsimp only at hSw); (obtain ⟨e1, e2⟩ := hSw); go_simp) ?_
   refine tcH (i := 6) (v := .slice A m cp) rfl (by intro w' hSw; (try dsimp only at hSw); (obtain ⟨e1, e2⟩ := hSw); go_simp) ?_
   (try simp only [Act.put]); (try simp only [zPa]); (try simp only [zPb, zPc])
   refine wpAnyH_ready (rs := [7]) (by kernel_rfl) (by simp) ?_
   refine (AllReadyH.cons rfl (fun K hK => ?_) AllReadyH.nil)
   ·rw [if_pos (by kernel_rfl)]
    (try simp only [zGa]); (try simp only [zGb]); (try simp only [zGc])
    refine wp_copy_ints (.tmp 31) (.tmp 33) rfl (wr.heap.size + 1) (wr.heap.size + 1) m A cp f.d (tabI m fun _ => 0) Hm.out.symm (tabI_length _ _) (by rw [← Hu.out]; first | with_reducible rfl | (go_simp; done) | rfl) (by first | with_reducible rfl | (go_simp; done) | rfl) (hbd.rd Hrd.out) (by rw [← Hu.out]; exact hod) ?_
    intro W3 ho3 hg3
    refine hK.out _ _ (⟨(World.cell?_of_block (hg3.block g (World.block_lt_of_cell? _ _ hS.1) (fun e => by injection e with e; omega))).trans hS.1, (World.cell?_of_block (hg3.block wr.heap.size (World.block_lt_of_cell? _ _ hS.2) (fun e => by injection e with e; omega))).trans hS.2⟩) (fun hS => ?_)
    clear hK
    (try simp only [Act.put]); (try simp only [zPa]); (try simp only [zPb, zPc])
    refine wpAnyH_done (by kernel_rfl) ?_ _
    obtain ⟨xs', bss', hC'⟩ := CbI.next HC.out hlt Hf.out HX.out HBK.out (Below.refl _ _) (g6 := wr.heap.size + 1) (Nat.le_succ _) Hm.out.symm (by rw [Hg.out]; exact HBw.size) (by rw [← Hu.out]; exact HG.out.trans ((grown_drewI _ _).trans hg3)) (own_rebase ho3 (fun q hq => by have h := (own_ltB ho3 q hq).1; omega))
    have hbf : Below g w W3 := by rw [Hg.out]; exact HBV.out.drew.grown hg3 (by have h1 := HBV.out.size; have h2 := HB.out.size; simpa using h1) (fun q hq => by injection hq with hq; have h2 := HB.out.size; omega)
    have HC' := Lib.hid hC'
    have HB' := Lib.hid hbf
    clear hC' hbf hS ho3 hg3
    go_wp2_with fail
    go_roundw
    case rel => exact ⟨k + 1, xs', bss', by omega, by go_num, HC', HB'⟩
    case measure => simp [intOf]; omega
  ·obtain rfl : k = n := by omega
   have HO := Lib.hid HC.out.own
   go_wp2_with fail
   go_ret
   exact ⟨_, _, rfl, by rw [← Hg.out]; exact HO.out, by rw [← Hg.out]; exact HB.out⟩
theorem cbI_nil (w : World) : Calls Try.prog 67 #[.slice none 0 0] w (CbAns [] w) := by
 have hU := slu_made_im w 0 (by omega)
 have hO := hU.own (B := w.heap.size) (by simp) (by simp) (Nat.le_refl _) (fun b hb => by simp at hb)
 have hB := belI_box w (.cells (madeCells #[.int .i64 0, .int .i64 0, .slice none 0 0] (0 * 3)) 58)
 obtain ⟨V, hV⟩ : ∃ V, V = w.alloc (.cells (madeCells #[.int .i64 0, .int .i64 0, .slice none 0 0] (0 * 3)) 58) := ⟨_, rfl⟩
 rw [← hV] at hO hB
 have hmk : (Instr.makeSlice 32 (.int .i64 0) (.int .i64 0)).run Try.prog w = .ok (.slice (some ⟨w.heap.size, 0, none⟩) 0 0) V := by rw [hV]; exact make_im 0 (by omega) w
 have hrun := run_copy_nil (P := Try.prog) V 32 32 3 58 ⟨w.heap.size, 0, none⟩ 0 0 Try.underlying32 (by rw [szImC]; rfl)
 have HO := Lib.hid hO
 have HB := Lib.hid hB
 clear hU hO hB hV
 go_enter Try.func67, Try.ntmps67
 go_wp2_with fail
 go_loopw [4, 5, 14] (fun _ _ s14 wr => s14 = .int .i64 0 ∧ wr = V) (fun _ _ _ _ => 0)
 case atStart => exact ⟨rfl, rfl⟩
 case round =>
  obtain ⟨rfl, rfl⟩ := hrel
  go_wp2_with fail
  go_ret
  exact ⟨_, _, rfl, HO.out, HB.out⟩
theorem cbI (L : List Im) (v : Value) (bs : List Nat) (w : World) (hm : sizIs L ≤ 2097152) (h : repIms.R w L [v] bs) : Calls Try.prog 67 #[v] w (CbAns L w) := by
 rcases SlU.of_rep h with ⟨rfl, rfl, rfl⟩ | ⟨g, c, xs, bss, rfl, hU, rfl⟩
 ·exact cbI_nil w
 ·exact cbI_some L g c xs bss w hm hU
end Go.Proofs.Ytnndifemkichmaa
