/- The contract of l10Copy. No statement is proved here. -/
import Derived.Test.YtokniebejilcbaaGreatMA
import Derived.Test.YtokniebejilcbaaGreatMC
import Derived.Test.YtokniebejilcbaaGreatMB
import Derived.Test.YtokniebejilcbaaGreatSnS
import Derived.Test.YtokniebejilcbaaGreatSlA
import Derived.Test.YtokniebejilcbaaGreatProg
import Derived.WalkKit
import Derived.ProofKit
import Derived.OpenShut
import Derived.WalkLawsBesides
import Derived.WalkSpells
import Derived.ShutString
import Derived.ChangeOld
import Derived.Below
import Derived.Lib.Hide
import Derived.BigQuiet
import Derived.Deep.QuietTactic
import Derived.Maps.AppendAt
import Derived.Deep.OwnRows
import Derived.Handy
import Derived.Deep.Draws
import Derived.OwnWalk
import Derived.Deep.AppendLies
import Derived.Deep.LoopGhost
import Derived.Deep.Onto
import Derived.Deep.MidRow
import Derived.Deep.WholeRow
import Derived.Laws.BitsAllLaws
import Derived.Lib.QuoteBits
import Derived.Deep.RegionHeld3
import Derived.Deep.DeepCutAuto
import Derived.Test.YtokniebejilcbaaGreatShelf
import Derived.Laws.CopyOwn
import Derived.Deep.RegionLaw
import Derived.Great.BuildSlice
import Derived.Shelf.RegionOpenPlain
import Derived.Lib.SliceRun
import Derived.Deep.RegionWith
import Derived.Laws.AppendOwn
namespace Go.Proofs.YtokniebejilcbaaGreat
open Go.RowKit
theorem take_snoc {L : List Sf} {k : Nat} {f : Sf} (h : L[k]? = some f) : L.take (k + 1) = L.take k ++ [f] := by rw [List.take_add_one, h]; rfl
structure LcB (w : World) (s : Sn) (v : Value) (bs : List Nat) (W : World) : Prop where
 a : SnA w.heap.size s v bs W
 r : BkAt W (w.heap.size + 1) 34 #[.int .i64 0, .int .i64 0, .int .i64 0, .slice none 0 0]
 bw : Below w.heap.size w W
theorem LcB.call {w : World} {s : Sn} {v : Value} {bs : List Nat} {W W' : World} (h : LcB w s v bs W) (hb : Below W.heap.size W W') : LcB w s v bs W' := ⟨h.a.call hb, h.r.call hb, belI_call h.bw hb⟩
theorem LcB.set {w : World} {s : Sn} {v : Value} {bs : List Nat} {W W' : World} {row : Option Nat} (h : LcB w s v bs W) (ho : ∀ b ∈ bs, b < w.heap.size) (hg : W.grownBy W' row) (hk : ∀ k, row = some k → w.heap.size + 2 ≤ k) : LcB w s v bs W' :=
 ⟨⟨h.a.at_.grown hg (fun e => by have := hk _ e.symm; omega), Rep.chg h.a.r (Chg.of_grown hg) fun b hb e => by have := hk b (by simpa using e); have := ho b hb; omega⟩, h.r.grown hg (fun e => by have := hk _ e.symm; omega), h.bw.grown hg h.bw.size (fun k e => by have := hk k e; omega)⟩
structure LcI (w : World) (s : Sn) (v : Value) (bs : List Nat) (g k : Nat) (f : Sf) (d : Value) (W : World) : Prop where
 o : LcB w s v bs W
 c : C11 W g (k * 11) f d
 d : RdI W d f.data
theorem LcI.set {w : World} {s : Sn} {v : Value} {bs : List Nat} {g k : Nat} {f : Sf} {d : Value} {W W' : World} {row : Option Nat} (h : LcI w s v bs g k f d W) (ho : ∀ b ∈ bs, b < w.heap.size) (hgd : g ∈ bs ∧ ∀ q, d.ownBlock = some q → q ∈ bs) (hg : W.grownBy W' row) (hk : ∀ k, row = some k → w.heap.size + 2 ≤ k) : LcI w s v bs g k f d W' := by
 have hc : ∀ o u, W.cell? ⟨g, o, none⟩ = some u → W'.cell? ⟨g, o, none⟩ = some u := fun o u hu => by
  have hl := World.block_lt_of_cell? W _ hu
  rw [← hu]
  exact World.cell?_of_block (hg.block g hl fun e => by have := hk g e.symm; have := ho g hgd.1; omega)
 exact ⟨h.o.set ho hg hk, ⟨hc _ _ h.c.c0, hc _ _ h.c.c1, hc _ _ h.c.c2, hc _ _ h.c.c3, hc _ _ h.c.c4, hc _ _ h.c.c5, hc _ _ h.c.c6, hc _ _ h.c.c7, hc _ _ h.c.c8, hc _ _ h.c.c9, hc _ _ h.c.c10⟩, h.d.grown hg fun q hq e => by have := hk q e.symm; have := ho q (hgd.2 q hq); omega⟩
theorem repSfs_at2 {w : World} {A : Option Addr} {n c k : Nat} {L : List Sf} {bs : List Nat} (h : repSfs.R w L [.slice A n c] bs) (hk : k < L.length) : ∃ g f d, A = some ⟨g, 0, none⟩ ∧ L[k]? = some f ∧ C11 w g (k * 11) f d ∧ RdI w d f.data ∧ (g ∈ bs ∧ ∀ q, d.ownBlock = some q → q ∈ bs) := by
 rcases SlU.of_rep h with ⟨_, rfl, _⟩ | ⟨g, c', xs, bss, he, hU, rfl⟩
 ·simp at hk
 ·injection he with e1 e2 e3
  subst e1
  obtain ⟨f, x, b, hf, hx, hb, hl, hR, hc⟩ := hU.at_ hk
  obtain ⟨d, rfl, hd⟩ := hR
  have hd2 := hd
  obtain ⟨v', e4, _, e5⟩ := hd2
  obtain rfl : d = v' := by simpa using e4
  exact ⟨g, f, d, rfl, hf, c11_of hc, repInts_rd hd, by simp, fun q hq => List.mem_cons.2 (.inr (flat_mem hb (by rw [e5, hq]; simp)))⟩
theorem own_blk {B : Nat} {W : World} {M : List Sf} {v : Value} {bs : List Nat} (h : repSfs.Own B W M [v] bs) : ∀ q, v.ownBlock = some q → B ≤ q := fun q hq => by
 obtain ⟨v', xs, bss, e1, _, _, _, e2⟩ := h.r
 obtain rfl : v = v' := by simpa using e1
 exact h.lo q (by rw [e2, hq]; simp)
theorem LcI.call {w : World} {s : Sn} {v : Value} {bs : List Nat} {g k : Nat} {f : Sf} {d : Value} {W W' : World} (h : LcI w s v bs g k f d W) (hb : Below W.heap.size W W') : LcI w s v bs g k f d W' := ⟨h.o.call hb, h.c.call hb, h.d.call hb⟩
set_option maxHeartbeats 4000000 in
set_option maxRecDepth 10000 in
theorem copySn (s : Sn) (v : Value) (bs : List Nat) (w : World) (hm : sizFs s.fs ≤ 2097152) (h : repSfs.R w s.fs [v] bs) : Calls Tryz.prog 63 #[.agg #[.int .i64 s.w, .int .i64 s.h, .int .i64 s.back, v]] w (SnAns s w) := by
 have hold : ∀ b ∈ bs, b < w.heap.size := fun b hb => repSfs.ex h b hb
 have hB0 : LcB w s v bs ((w.alloc (.cells #[.int .i64 s.w, .int .i64 s.h, .int .i64 s.back, v] 34)).alloc (.cells #[.int .i64 0, .int .i64 0, .int .i64 0, .slice none 0 0] 34)) := ⟨(SnA.born h).call (belI_box _ _), BkAt.newAt (by simp) _ _, belI_call (belI_box _ _) (belI_box _ _)⟩
 obtain ⟨⟨A, c, rfl⟩, hmx⟩ := repSfs_form h
 obtain ⟨n, hn⟩ : ∃ n, n = s.fs.length := ⟨_, rfl⟩
 have hn2 : n ≤ 2097152 := by unfold sizFs at hm; omega
 have Hm := Lib.hid (show lenFs s.fs ≤ 2097152 by unfold sizFs at hm; omega)
 rw [← hn] at hB0 ⊢
 have Hn := Lib.hid hn
 have Hold := Lib.hid hold
 obtain ⟨W0, hW0⟩ : ∃ W, W = ((w.alloc (.cells #[.int .i64 s.w, .int .i64 s.h, .int .i64 s.back, .slice A n c] 34)).alloc (.cells #[.int .i64 0, .int .i64 0, .int .i64 0, .slice none 0 0] 34)).alloc (.cells #[.int .i64 s.w, .int .i64 s.h, .int .i64 s.back, .slice none 0 0] 34) := ⟨_, rfl⟩
 have hO0 : BkAt W0 (w.heap.size + 1 + 1) 34 #[.int .i64 s.w, .int .i64 s.h, .int .i64 s.back, .slice none 0 0] := by rw [hW0]; exact BkAt.newAt (by simp) _ _
 have hB1 : LcB w s (.slice A n c) bs W0 := by rw [hW0]; exact hB0.call (belI_box _ _)
 have HW := Lib.hid hW0
 obtain ⟨d0, d1, d2, d3⟩ := hB0.a.cells
 have HB1 := Lib.hid hB1
 have HO0 := Lib.hid hO0
 clear h hold hm hn hW0 hB1 hO0 hB0 hmx
 go_enter Tryz.func63, Tryz.ntmps63
 go_wp2_with fail
 go_loopw [4] (fun s4 wr => ∃ (k : Nat) (u : Value) (bu : List Nat), k ≤ n ∧ s4 = .int .i64 k ∧ LcB w s (.slice A n c) bs wr ∧ BkAt wr (w.heap.size + 1 + 1) 34 #[.int .i64 s.w, .int .i64 s.h, .int .i64 s.back, u] ∧ Hid (repSfs.Own (w.heap.size + 1 + 1 + 1) wr (s.fs.take k) [u] bu)) (fun s4 _ => n - (intOf s4).toNat)
 case atStart =>
  rw [← HW.out]
  exact ⟨0, .slice none 0 0, [], Nat.zero_le _, rfl, HB1.out, HO0.out, Lib.hid ⟨⟨.slice none 0 0, [], [], rfl, trivial, by simp, ⟨rfl, .inl ⟨rfl, rfl⟩⟩, rfl⟩, List.nodup_nil, by simp⟩⟩
 case round =>
  clear d0 d1 d2 d3
  obtain ⟨k, u, bu, hk, rfl, hT, hO, HU⟩ := hrel
  obtain ⟨d0, d1, d2, d3⟩ := hT.a.cells
  by_cases hlt : k < n
  ·obtain ⟨g, f, d, rfl, hf, hC, hrd, hgd⟩ := repSfs_at2 hT.a.r (k := k) (by rw [← Hn.out]; exact hlt)
   have HF := Lib.hid hf
   obtain ⟨Ad, cd, rfl⟩ := hrd.form
   have hI : LcI w s (.slice (some ⟨g, 0, none⟩) n c) bs g k f (.slice Ad f.data.length cd) wr := ⟨hT, hC, hrd⟩
   have k0 : (0 : Int) ≤ (k : Int) := by omega
   have k1 : (k : Int) < (n : Int) := by omega
   have Hlen := Lib.hid (show f.data.length ≤ 2097152 by have := lenFs_at hf; have := Hm.out; omega)
   have htk : (s.fs.take k).length = k := by rw [List.length_take, ← Hn.out]; omega
   have Htk := Lib.hid htk
   have hO2 := hO
   obtain ⟨Au, cu, hu⟩ := (repSfs_form HU.out.r).1
   subst hu
   rw [htk] at hO hO2 HU
   clear hf hC hrd hT htk hO
   go_upto_region 5 with fail
   clear d0 d1 d2 d3
   refine wp_region_held_drew (S := fun W => LcI w s (.slice (some ⟨g, 0, none⟩) n c) bs g k f (.slice Ad f.data.length cd) W) (by kernel_rfl) (hI.call (belI_drew _)) (fun hS => ?_)
   have hOw := Rep.Own.call HU.out (belI_drew _)
   have hOb := hO2.call (belI_drew _)
   refine tcH (i := 0) (v := .pointer (some ⟨w.heap.size + 1 + 1, 3, none⟩)) rfl (by intro w' hSw; (try dsimp only at hSw); (obtain ⟨d0, d1, d2, d3⟩ := hSw.o.a.cells); (obtain ⟨c0, c1, c2, c3, c4, c5, c6, c7, c8, c9, c10⟩ := hSw.c); go_simp) ?_
   refine tcH (i := 2) (v := .pointer (some ⟨w.heap.size, 3, none⟩)) rfl (by intro w' hSw; (try dsimp only at hSw); (obtain ⟨d0, d1, d2, d3⟩ := hSw.o.a.cells); (obtain ⟨c0, c1, c2, c3, c4, c5, c6, c7, c8, c9, c10⟩ := hSw.c); go_simp) ?_
   refine tcH (i := 3) (v := .slice (some ⟨g, 0, none⟩) n c) rfl (by intro w' hSw; (try dsimp only at hSw); (obtain ⟨d0, d1, d2, d3⟩ := hSw.o.a.cells); (obtain ⟨c0, c1, c2, c3, c4, c5, c6, c7, c8, c9, c10⟩ := hSw.c); go_simp) ?_
   refine tcH (i := 4) (v := .int .i64 (k : Int)) rfl (by intro w' hSw; (try dsimp only at hSw); (obtain ⟨d0, d1, d2, d3⟩ := hSw.o.a.cells); (obtain ⟨c0, c1, c2, c3, c4, c5, c6, c7, c8, c9, c10⟩ := hSw.c); go_simp) ?_
   refine tcH (i := 5) (v := .pointer (some ⟨g, k * 11, none⟩)) rfl (by intro w' hSw; (try dsimp only at hSw); (obtain ⟨d0, d1, d2, d3⟩ := hSw.o.a.cells); (obtain ⟨c0, c1, c2, c3, c4, c5, c6, c7, c8, c9, c10⟩ := hSw.c); go_simp) ?_
   refine tcH (i := 6) (v := .agg #[.int .i64 f.id, .int .i64 f.x, .int .i64 f.y, .int .i64 f.w, .int .i64 f.h, .int .i64 f.alpha, .int .i64 f.orient, .bool f.vis, .int .i64 f.bw, .int .i64 f.bh, .slice Ad f.data.length cd]) rfl (by intro w' hSw; (try dsimp only at hSw); (obtain ⟨d0, d1, d2, d3⟩ := hSw.o.a.cells); (obtain ⟨c0, c1, c2, c3, c4, c5, c6, c7, c8, c9, c10⟩ := hSw.c); go_simp) ?_
   (try simp only [Act.put]); (try simp only [zPa]); (try simp only [zPb, zPc])
   refine wpAnyH_ready (rs := [1, 7]) (by kernel_rfl) (by simp) ?_
   refine (AllReadyH.cons rfl (fun K hK => ?_) (AllReadyH.cons rfl (fun K hK => ?_) AllReadyH.nil))
   ·rw [if_pos (by kernel_rfl)]
    (try simp only [zGa]); (try simp only [zGb]); (try simp only [zGc])
    have m3 := hOb.cell 3 rfl
    go_simp
    skip
    skip
    clear m3
    refine hK.out _ _ (hS) (fun hS => ?_)
    clear hK
    (try simp only [Act.put]); (try simp only [zPa]); (try simp only [zPb, zPc])
    refine wpAnyH_ready (rs := [7]) (by kernel_rfl) (by simp) ?_
    refine (AllReadyH.cons rfl (fun K hK => ?_) AllReadyH.nil)
    ·rw [if_pos (by kernel_rfl)]
     (try simp only [zGa]); (try simp only [zGb]); (try simp only [zGc])
     go_simp
     with_reducible refine (copySf f _ _ Hlen.out hS.d).mono ?_
     rintro e W' ⟨u7, rfl, how7, hb⟩
     dsimp only
     have hi7 := ints_own how7
     have hf7 : repSf.Own _ W' f (sfCells f u7) u7.ownBlock.toList := ⟨⟨u7, rfl, hi7.r⟩, hi7.nd, hi7.lo⟩
     have hfr7 : ∀ b ∈ u7.ownBlock.toList, b ∉ bu := fun b hb7 e => by have := hi7.lo b hb7; have := repSfs.ex hOw.r b e; omega
     replace hf7 := hf7.mono (show w.heap.size + 1 + 1 + 1 ≤ _ from hOb.lt)
     clear how7 hi7
     have hOw := hOw.call hb
     have hOb := hOb.call hb
     refine hK.out _ _ (hS.call hb) (fun hS => ?_)
     clear hK
     (try simp only [Act.put]); (try simp only [zPa]); (try simp only [zPb, zPc])
     refine wpAnyH_ready (rs := [8]) (by kernel_rfl) (by simp) ?_
     refine (AllReadyH.cons rfl (fun K hK => ?_) AllReadyH.nil)
     ·rw [if_pos (by kernel_rfl)]
      (try simp only [zGa]); (try simp only [zGb]); (try simp only [zGc])
      refine wp_build_sf 27 (.tmp 26) f u7 rfl (by first | with_reducible rfl | (go_simp; done) | rfl) rfl ?_
      intro g8 W' hb hG8 hg8
      have hOw := hOw.call hb
      have hOb := hOb.call hb
      have hf7 := hf7.call hb
      refine hK.out _ _ (hS.call hb) (fun hS => ?_)
      clear hK
      (try simp only [Act.put]); (try simp only [zPa]); (try simp only [zPb, zPc])
      refine wpAnyH_ready (rs := [9]) (by kernel_rfl) (by simp) ?_
      refine (AllReadyH.cons rfl (fun K hK => ?_) AllReadyH.nil)
      ·rw [if_pos (by kernel_rfl)]
       (try simp only [zGa]); (try simp only [zGb]); (try simp only [zGc])
       refine wp_append_sf (.tmp 20) (.tmp 27) rfl (w.heap.size + 1 + 1 + 1) (.slice Au k cu) (s.fs.take k) bu (by first | with_reducible rfl | (go_simp; done) | rfl) hOw g8 f u7 _ (by first | with_reducible rfl | (go_simp; done) | rfl) hG8 hf7 hfr7 (by rw [Htk.out]; omega) (by have := hOb.lt; omega) ?_
       intro v9 bs9 W9 hO9 hg9 _ hv9
       have hq9 := own_blk hOw
       have hob9 := hOb.grown hg9 (fun e => by have := hq9 _ e.symm; omega)
       rw [Htk.out] at hv9
       obtain ⟨A9, c9, hv9⟩ := hv9
       subst hv9
       skip
       skip
       skip
       skip
       refine hK.out _ _ (hS.set Hold.out hgd hg9 (fun q e => by have := hq9 q e; omega)) (fun hS => ?_)
       clear hK
       (try simp only [Act.put]); (try simp only [zPa]); (try simp only [zPb, zPc])
       refine tcH (i := 10) (v := .pointer (some ⟨w.heap.size + 1 + 1, 3, none⟩)) rfl (by intro w' hSw; (try dsimp only at hSw); (obtain ⟨d0, d1, d2, d3⟩ := hSw.o.a.cells); (obtain ⟨c0, c1, c2, c3, c4, c5, c6, c7, c8, c9, c10⟩ := hSw.c); go_simp) ?_
       (try simp only [Act.put]); (try simp only [zPa]); (try simp only [zPb, zPc])
       refine wpAnyH_ready (rs := [11]) (by kernel_rfl) (by simp) ?_
       refine (AllReadyH.cons rfl (fun K hK => ?_) AllReadyH.nil)
       ·rw [if_pos (by kernel_rfl)]
        (try simp only [zGa]); (try simp only [zGb]); (try simp only [zGc])
        have m3 := hob9.cell 3 rfl
        have fz3 := hob9.frozen 3
        go_simp
        skip
        skip
        skip
        skip
        clear m3 fz3
        refine hK.out _ _ (hS.set Hold.out hgd (grown_setB _ (w.heap.size + 1 + 1) 3 _) (fun q e => by have := Option.some.inj e; omega)) (fun hS => ?_)
        clear hK
        (try simp only [Act.put]); (try simp only [zPa]); (try simp only [zPb, zPc])
        refine wpAnyH_done (by kernel_rfl) ?_ _
        go_wp2_with fail
        go_roundw
        case rel => exact ⟨k + 1, .slice A9 (k + 1) c9, bs9, by omega, by go_num, hS.o, hob9.put 3 _ rfl, Lib.hid (by rw [take_snoc HF.out]; exact Rep.Own.chg hO9 (Chg.of_grown (grown_setB _ (w.heap.size + 1 + 1) 3 _)) (fun b hb e => by have h1 := hO9.lo b hb; have h2 : b = w.heap.size + 1 + 1 := (by simpa using e); omega))⟩
        case measure => simp [intOf]; omega
   ·rw [if_pos (by kernel_rfl)]
    (try simp only [zGa]); (try simp only [zGb]); (try simp only [zGc])
    go_simp
    with_reducible refine (copySf f _ _ Hlen.out hS.d).mono ?_
    rintro e W' ⟨u7, rfl, how7, hb⟩
    dsimp only
    have hi7 := ints_own how7
    have hf7 : repSf.Own _ W' f (sfCells f u7) u7.ownBlock.toList := ⟨⟨u7, rfl, hi7.r⟩, hi7.nd, hi7.lo⟩
    have hfr7 : ∀ b ∈ u7.ownBlock.toList, b ∉ bu := fun b hb7 e => by have := hi7.lo b hb7; have := repSfs.ex hOw.r b e; omega
    replace hf7 := hf7.mono (show w.heap.size + 1 + 1 + 1 ≤ _ from hOb.lt)
    clear how7 hi7
    have hOw := hOw.call hb
    have hOb := hOb.call hb
    refine hK.out _ _ (hS.call hb) (fun hS => ?_)
    clear hK
    (try simp only [Act.put]); (try simp only [zPa]); (try simp only [zPb, zPc])
    refine wpAnyH_ready (rs := [1, 8]) (by kernel_rfl) (by simp) ?_
    refine (AllReadyH.cons rfl (fun K hK => ?_) (AllReadyH.cons rfl (fun K hK => ?_) AllReadyH.nil))
    ·rw [if_pos (by kernel_rfl)]
     (try simp only [zGa]); (try simp only [zGb]); (try simp only [zGc])
     have m3 := hOb.cell 3 rfl
     go_simp
     skip
     skip
     skip
     clear m3
     refine hK.out _ _ (hS) (fun hS => ?_)
     clear hK
     (try simp only [Act.put]); (try simp only [zPa]); (try simp only [zPb, zPc])
     refine wpAnyH_ready (rs := [8]) (by kernel_rfl) (by simp) ?_
     refine (AllReadyH.cons rfl (fun K hK => ?_) AllReadyH.nil)
     ·rw [if_pos (by kernel_rfl)]
      (try simp only [zGa]); (try simp only [zGb]); (try simp only [zGc])
      refine wp_build_sf 27 (.tmp 26) f u7 rfl (by first | with_reducible rfl | (go_simp; done) | rfl) rfl ?_
      intro g8 W' hb hG8 hg8
      have hOw := hOw.call hb
      have hOb := hOb.call hb
      have hf7 := hf7.call hb
      refine hK.out _ _ (hS.call hb) (fun hS => ?_)
      clear hK
      (try simp only [Act.put]); (try simp only [zPa]); (try simp only [zPb, zPc])
      refine wpAnyH_ready (rs := [9]) (by kernel_rfl) (by simp) ?_
      refine (AllReadyH.cons rfl (fun K hK => ?_) AllReadyH.nil)
      ·rw [if_pos (by kernel_rfl)]
       (try simp only [zGa]); (try simp only [zGb]); (try simp only [zGc])
       refine wp_append_sf (.tmp 20) (.tmp 27) rfl (w.heap.size + 1 + 1 + 1) (.slice Au k cu) (s.fs.take k) bu (by first | with_reducible rfl | (go_simp; done) | rfl) hOw g8 f u7 _ (by first | with_reducible rfl | (go_simp; done) | rfl) hG8 hf7 hfr7 (by rw [Htk.out]; omega) (by have := hOb.lt; omega) ?_
       intro v9 bs9 W9 hO9 hg9 _ hv9
       have hq9 := own_blk hOw
       have hob9 := hOb.grown hg9 (fun e => by have := hq9 _ e.symm; omega)
       rw [Htk.out] at hv9
       obtain ⟨A9, c9, hv9⟩ := hv9
       subst hv9
       skip
       skip
       skip
       skip
       refine hK.out _ _ (hS.set Hold.out hgd hg9 (fun q e => by have := hq9 q e; omega)) (fun hS => ?_)
       clear hK
       (try simp only [Act.put]); (try simp only [zPa]); (try simp only [zPb, zPc])
       refine tcH (i := 10) (v := .pointer (some ⟨w.heap.size + 1 + 1, 3, none⟩)) rfl (by intro w' hSw; (try dsimp only at hSw); (obtain ⟨d0, d1, d2, d3⟩ := hSw.o.a.cells); (obtain ⟨c0, c1, c2, c3, c4, c5, c6, c7, c8, c9, c10⟩ := hSw.c); go_simp) ?_
       (try simp only [Act.put]); (try simp only [zPa]); (try simp only [zPb, zPc])
       refine wpAnyH_ready (rs := [11]) (by kernel_rfl) (by simp) ?_
       refine (AllReadyH.cons rfl (fun K hK => ?_) AllReadyH.nil)
       ·rw [if_pos (by kernel_rfl)]
        (try simp only [zGa]); (try simp only [zGb]); (try simp only [zGc])
        have m3 := hob9.cell 3 rfl
        have fz3 := hob9.frozen 3
        go_simp
        skip
        skip
        skip
        skip
        clear m3 fz3
        refine hK.out _ _ (hS.set Hold.out hgd (grown_setB _ (w.heap.size + 1 + 1) 3 _) (fun q e => by have := Option.some.inj e; omega)) (fun hS => ?_)
        clear hK
        (try simp only [Act.put]); (try simp only [zPa]); (try simp only [zPb, zPc])
        refine wpAnyH_done (by kernel_rfl) ?_ _
        go_wp2_with fail
        go_roundw
        case rel => exact ⟨k + 1, .slice A9 (k + 1) c9, bs9, by omega, by go_num, hS.o, hob9.put 3 _ rfl, Lib.hid (by rw [take_snoc HF.out]; exact Rep.Own.chg hO9 (Chg.of_grown (grown_setB _ (w.heap.size + 1 + 1) 3 _)) (fun b hb e => by have h1 := hO9.lo b hb; have h2 : b = w.heap.size + 1 + 1 := (by simpa using e); omega))⟩
        case measure => simp [intOf]; omega
    ·rw [if_pos (by kernel_rfl)]
     (try simp only [zGa]); (try simp only [zGb]); (try simp only [zGc])
     refine wp_build_sf 27 (.tmp 26) f u7 rfl (by first | with_reducible rfl | (go_simp; done) | rfl) rfl ?_
     intro g8 W' hb hG8 hg8
     have hOw := hOw.call hb
     have hOb := hOb.call hb
     have hf7 := hf7.call hb
     refine hK.out _ _ (hS.call hb) (fun hS => ?_)
     clear hK
     (try simp only [Act.put]); (try simp only [zPa]); (try simp only [zPb, zPc])
     refine wpAnyH_ready (rs := [1]) (by kernel_rfl) (by simp) ?_
     refine (AllReadyH.cons rfl (fun K hK => ?_) AllReadyH.nil)
     ·rw [if_pos (by kernel_rfl)]
      (try simp only [zGa]); (try simp only [zGb]); (try simp only [zGc])
      have m3 := hOb.cell 3 rfl
      go_simp
      skip
      skip
      skip
      skip
      clear m3
      refine hK.out _ _ (hS) (fun hS => ?_)
      clear hK
      (try simp only [Act.put]); (try simp only [zPa]); (try simp only [zPb, zPc])
      refine wpAnyH_ready (rs := [9]) (by kernel_rfl) (by simp) ?_
      refine (AllReadyH.cons rfl (fun K hK => ?_) AllReadyH.nil)
      ·rw [if_pos (by kernel_rfl)]
       (try simp only [zGa]); (try simp only [zGb]); (try simp only [zGc])
       refine wp_append_sf (.tmp 20) (.tmp 27) rfl (w.heap.size + 1 + 1 + 1) (.slice Au k cu) (s.fs.take k) bu (by first | with_reducible rfl | (go_simp; done) | rfl) hOw g8 f u7 _ (by first | with_reducible rfl | (go_simp; done) | rfl) hG8 hf7 hfr7 (by rw [Htk.out]; omega) (by have := hOb.lt; omega) ?_
       intro v9 bs9 W9 hO9 hg9 _ hv9
       have hq9 := own_blk hOw
       have hob9 := hOb.grown hg9 (fun e => by have := hq9 _ e.symm; omega)
       rw [Htk.out] at hv9
       obtain ⟨A9, c9, hv9⟩ := hv9
       subst hv9
       skip
       skip
       skip
       skip
       refine hK.out _ _ (hS.set Hold.out hgd hg9 (fun q e => by have := hq9 q e; omega)) (fun hS => ?_)
       clear hK
       (try simp only [Act.put]); (try simp only [zPa]); (try simp only [zPb, zPc])
       refine tcH (i := 10) (v := .pointer (some ⟨w.heap.size + 1 + 1, 3, none⟩)) rfl (by intro w' hSw; (try dsimp only at hSw); (obtain ⟨d0, d1, d2, d3⟩ := hSw.o.a.cells); (obtain ⟨c0, c1, c2, c3, c4, c5, c6, c7, c8, c9, c10⟩ := hSw.c); go_simp) ?_
       (try simp only [Act.put]); (try simp only [zPa]); (try simp only [zPb, zPc])
       refine wpAnyH_ready (rs := [11]) (by kernel_rfl) (by simp) ?_
       refine (AllReadyH.cons rfl (fun K hK => ?_) AllReadyH.nil)
       ·rw [if_pos (by kernel_rfl)]
        (try simp only [zGa]); (try simp only [zGb]); (try simp only [zGc])
        have m3 := hob9.cell 3 rfl
        have fz3 := hob9.frozen 3
        go_simp
        skip
        skip
        skip
        skip
        clear m3 fz3
        refine hK.out _ _ (hS.set Hold.out hgd (grown_setB _ (w.heap.size + 1 + 1) 3 _) (fun q e => by have := Option.some.inj e; omega)) (fun hS => ?_)
        clear hK
        (try simp only [Act.put]); (try simp only [zPa]); (try simp only [zPb, zPc])
        refine wpAnyH_done (by kernel_rfl) ?_ _
        go_wp2_with fail
        go_roundw
        case rel => exact ⟨k + 1, .slice A9 (k + 1) c9, bs9, by omega, by go_num, hS.o, hob9.put 3 _ rfl, Lib.hid (by rw [take_snoc HF.out]; exact Rep.Own.chg hO9 (Chg.of_grown (grown_setB _ (w.heap.size + 1 + 1) 3 _)) (fun b hb e => by have h1 := hO9.lo b hb; have h2 : b = w.heap.size + 1 + 1 := (by simpa using e); omega))⟩
        case measure => simp [intOf]; omega
  ·obtain rfl : k = n := by omega
   obtain ⟨Au, cu, hu⟩ := (repSfs_form HU.out.r).1
   subst hu
   have hle : (s.fs.take k).length = k := by rw [List.length_take, ← Hn.out]; omega
   rw [hle] at hO HU
   have hall : s.fs.take k = s.fs := List.take_of_length_le (by rw [← Hn.out]; exact Nat.le_refl _)
   rw [hall] at HU
   obtain ⟨o0, o1, o2, o3⟩ := hO.cells4
   obtain ⟨r0, r1, r2, r3⟩ := hT.r.cells4
   have f0 := hT.r.frozen 0
   have f1 := hT.r.frozen 1
   have f2 := hT.r.frozen 2
   have f3 := hT.r.frozen 3
   have HJ := Lib.hid (hT.r.all4 (.int .i64 s.w) (.int .i64 s.h) (.int .i64 s.back) (.slice Au k cu))
   have HBw := Lib.hid hT.bw
   clear hT hO hle hall
   go_wp2_with fail
   obtain ⟨x0, x1, x2, x3⟩ := HJ.out.cells4
   have hCh := (((Chg.setB wr (w.heap.size + 1) 0 (.int .i64 s.w) [w.heap.size + 1] (by simp)).trans (Chg.setB _ (w.heap.size + 1) 1 (.int .i64 s.h) _ (by simp))).trans (Chg.setB _ (w.heap.size + 1) 2 (.int .i64 s.back) _ (by simp))).trans (Chg.setB _ (w.heap.size + 1) 3 (.slice Au k cu) _ (by simp))
   exact bodyPost_ret (v := .agg #[.int .i64 s.w, .int .i64 s.h, .int .i64 s.back, .slice Au k cu]) (by simp [results, Tryz.results63, go_sem, x0, x1, x2, x3]) rfl ⟨_, _, rfl, (Rep.Own.chg HU.out hCh (fun b hb e => by have h1 := HU.out.lo b hb; have h2 : b = w.heap.size + 1 := (by simpa using e); omega)).mono (by omega), hCh.below HBw.out HBw.out.size (fun b hb => by have : b = w.heap.size + 1 := (by simpa using hb); omega)⟩
end Go.Proofs.YtokniebejilcbaaGreat
