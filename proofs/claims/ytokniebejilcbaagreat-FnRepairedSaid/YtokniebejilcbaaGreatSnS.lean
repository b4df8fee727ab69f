/- The contract of SceneOk of the model. No statement is proved here. -/
import Derived.Test.YtokniebejilcbaaGreatMA
import Derived.Test.YtokniebejilcbaaGreatMC
import Derived.Test.YtokniebejilcbaaGreatSfO
import Derived.Test.YtokniebejilcbaaGreatSnO
import Derived.Test.YtokniebejilcbaaGreatProg
import Derived.WalkKit
import Derived.ProofKit
import Derived.OpenShut
import Derived.WalkLawsBesides
import Derived.WalkSpells
import Derived.ShutString
import Derived.ChangeOld
import Derived.Below
import Derived.Lib.Hide
import Derived.BigQuiet
import Derived.Deep.QuietTactic
import Derived.Maps.AppendAt
import Derived.Deep.OwnRows
import Derived.Handy
import Derived.Deep.Draws
import Derived.OwnWalk
import Derived.Deep.AppendLies
import Derived.Deep.LoopGhost
import Derived.Deep.Onto
import Derived.Deep.MidRow
import Derived.Deep.WholeRow
import Derived.Laws.BitsAllLaws
import Derived.Lib.QuoteBits
import Derived.Deep.RegionHeld3
import Derived.Deep.DeepCutAuto
namespace Go.Proofs.YtokniebejilcbaaGreat
open Go.RowKit
structure SnR (w : World) (s : Sn) (v : Value) (bs : List Nat) (g k : Nat) (f : Sf) (d : Value) (W : World) : Prop where
 a : SnA w.heap.size s v bs W
 bw : Below w.heap.size w W
 c : C11 W g (k * 11) f d
 d : RdI W d f.data
theorem cell_callB {W W' : World} {g o : Nat} {u : Value} (h : W.cell? ⟨g, o, none⟩ = some u) (hb : Below W.heap.size W W') : W'.cell? ⟨g, o, none⟩ = some u := (hb.cell (World.block_lt_of_cell? W _ h)).trans h
theorem C11.call {W W' : World} {g o : Nat} {f : Sf} {d : Value} (h : C11 W g o f d) (hb : Below W.heap.size W W') : C11 W' g o f d :=
 ⟨cell_callB h.c0 hb, cell_callB h.c1 hb, cell_callB h.c2 hb, cell_callB h.c3 hb, cell_callB h.c4 hb, cell_callB h.c5 hb, cell_callB h.c6 hb, cell_callB h.c7 hb, cell_callB h.c8 hb, cell_callB h.c9 hb, cell_callB h.c10 hb⟩
theorem SnR.call {w : World} {s : Sn} {v : Value} {bs : List Nat} {g k : Nat} {f : Sf} {d : Value} {W W' : World} (h : SnR w s v bs g k f d W) (hb : Below W.heap.size W W') : SnR w s v bs g k f d W' := ⟨h.a.call hb, belI_call h.bw hb, h.c.call hb, h.d.call hb⟩
set_option maxHeartbeats 4000000 in
set_option maxRecDepth 10000 in
theorem snS (s : Sn) (v : Value) (bs : List Nat) (w : World) (h : repSfs.R w s.fs [v] bs) :
  Calls Tryz.prog 73 #[.agg #[.int .i64 s.w, .int .i64 s.h, .int .i64 s.back, v]] w (SnOkAns s w) := by
 have hA := SnA.born h
 have hB := belI_box w (.cells #[.int .i64 s.w, .int .i64 s.h, .int .i64 s.back, v] 34)
 obtain ⟨⟨A, c, rfl⟩, hm⟩ := repSfs_form h
 obtain ⟨n, hn⟩ : ∃ n, n = s.fs.length := ⟨_, rfl⟩
 rw [← hn] at hA hB hm ⊢
 unfold maxLen at hm
 have Hn := Lib.hid hn
 obtain ⟨d0, d1, d2, d3⟩ := hA.cells
 clear h hn
 by_cases h0 : 1 ≤ s.w ∧ s.w ≤ 16
 ·by_cases h9 : 1 ≤ s.h ∧ s.h ≤ 16
  ·have H0 := Lib.hid (show szOk s.w s.h from ⟨h0.1, h0.2, h9.1, h9.2⟩)
   have HO := Lib.hid (fun W => opqS s.back W)
   by_cases h1 : opq s.back
   ·have H1 := Lib.hid h1
    rw [opqB_yes h1] at HO
    clear h1
    by_cases h2 : n ≤ 6
    ·have H2 := Lib.hid h2
     go_enter Tryz.func73, Tryz.ntmps73
     go_wp2_with fail
     refine (inS_yes _ _ _ _ h0.1 h0.2).mono ?_
     rintro e w' ⟨rfl, rfl⟩
     go_wp2_with fail
     refine (inS_yes _ _ _ _ h9.1 h9.2).mono ?_
     rintro e w' ⟨rfl, rfl⟩
     go_wp2_with fail
     refine (HO.out _).mono ?_
     rintro e w1 ⟨rfl, hb⟩
     replace hA := hA.call hb
     replace hB := belI_call hB hb
     clear d0 d1 d2 d3 hb
     obtain ⟨d0, d1, d2, d3⟩ := hA.cells
     go_wp2_with fail
     clear d0 d1 d2 d3
     go_loopw [3] (fun s3 wr => ∃ k : Nat, k ≤ n ∧ s3 = .int .i64 k ∧ Hid (∀ (j : Nat) (g : Sf), j < k → s.fs[j]? = some g → sfOk g ∧ idxF s.fs g.id = j) ∧ SnA w.heap.size s (.slice A n c) bs wr ∧ Hid (Below w.heap.size w wr)) (fun s3 _ => n - (intOf s3).toNat)
     case atStart => exact ⟨0, Nat.zero_le _, rfl, Lib.hid (fun j x h => by omega), hA, Lib.hid hB⟩
     case round =>
      clear hA hB
      obtain ⟨k, hk, rfl, Hall, hA, HB⟩ := hrel
      by_cases hlt : k < n
      ·obtain ⟨g, f, d, rfl, hf, hC, hd⟩ := repSfs_at hA.r (k := k) (by rw [← Hn.out]; exact hlt)
       have Hf := Lib.hid hf
       have hT : SnR w s (.slice (some ⟨g, 0, none⟩) n c) bs g k f d wr := ⟨hA, HB.out, hC, hd⟩
       have k0 : (0 : Int) ≤ (k : Int) := by omega
       have k1 : (k : Int) < (n : Int) := by omega
       have HC := fun W h => sfS f d W h
       unfold SfOkAns at HC
       obtain ⟨d0, d1, d2, d3⟩ := hA.cells
       clear hf hC hd
       by_cases hs : sfOk f
       ·rw [sfB_yes hs] at HC
        have Hs := Lib.hid hs
        have HC := Lib.hid HC
        have HI := fun W h => idxS s f.id (.slice (some ⟨g, 0, none⟩) n c) bs W h
        unfold IdxAns at HI
        obtain ⟨q, hq⟩ : ∃ q, q = idxF s.fs f.id := ⟨_, rfl⟩
        rw [← hq] at HI
        have Hq := Lib.hid hq
        have HI := Lib.hid HI
        clear hs hq
        by_cases hk2 : q = (k : Int)
        ·subst hk2
         go_upto_region 6 with fail
         clear d0 d1 d2 d3 hA HB
         refine wp_region_held_drew (S := fun W => SnR w s (.slice (some ⟨g, 0, none⟩) n c) bs g k f d W) (by kernel_rfl) (hT.call (belI_drew _)) (fun hS => ?_)
         refine tcH (i := 0) (v := .pointer (some ⟨w.heap.size, 3, none⟩)) rfl (by intro w' hSw; (try dsimp only at hSw); (obtain ⟨d0, d1, d2, d3⟩ := hSw.a.cells); (obtain ⟨c0, c1, c2, c3, c4, c5, c6, c7, c8, c9, c10⟩ := hSw.c); go_simp) ?_
         refine tcH (i := 1) (v := .slice (some ⟨g, 0, none⟩) n c) rfl (by intro w' hSw; (try dsimp only at hSw); (obtain ⟨d0, d1, d2, d3⟩ := hSw.a.cells); (obtain ⟨c0, c1, c2, c3, c4, c5, c6, c7, c8, c9, c10⟩ := hSw.c); go_simp) ?_
         refine tcH (i := 2) (v := .int .i64 (k : Int)) rfl (by intro w' hSw; (try dsimp only at hSw); (obtain ⟨d0, d1, d2, d3⟩ := hSw.a.cells); (obtain ⟨c0, c1, c2, c3, c4, c5, c6, c7, c8, c9, c10⟩ := hSw.c); go_simp) ?_
         refine tcH (i := 3) (v := .pointer (some ⟨g, k * 11, none⟩)) rfl (by intro w' hSw; (try dsimp only at hSw); (obtain ⟨d0, d1, d2, d3⟩ := hSw.a.cells); (obtain ⟨c0, c1, c2, c3, c4, c5, c6, c7, c8, c9, c10⟩ := hSw.c); go_simp) ?_
         refine tcH (i := 4) (v := .agg #[.int .i64 f.id, .int .i64 f.x, .int .i64 f.y, .int .i64 f.w, .int .i64 f.h, .int .i64 f.alpha, .int .i64 f.orient, .bool f.vis, .int .i64 f.bw, .int .i64 f.bh, d]) rfl (by intro w' hSw; (try dsimp only at hSw); (obtain ⟨d0, d1, d2, d3⟩ := hSw.a.cells); (obtain ⟨c0, c1, c2, c3, c4, c5, c6, c7, c8, c9, c10⟩ := hSw.c); go_simp) ?_
         (try simp only [Act.put]); (try simp only [zPa]); (try simp only [zPb, zPc])
         refine wpAnyH_ready (rs := [5]) (by kernel_rfl) (by simp) ?_
         refine (AllReadyH.cons rfl (fun K hK => ?_) AllReadyH.nil)
         ·rw [if_pos (by kernel_rfl)]
          (try simp only [zGa]); (try simp only [zGb]); (try simp only [zGc])
          go_simp
          with_reducible refine (HC.out _ hS.d).mono ?_
          rintro e W' ⟨rfl, hb⟩
          dsimp only
          refine hK.out _ _ (hS.call hb) (fun hS => ?_)
          clear hK
          (try simp only [Act.put]); (try simp only [zPa]); (try simp only [zPb, zPc])
          refine tcH (i := 6) (v := .bool false) rfl (by intro w' hSw; (try dsimp only at hSw); (obtain ⟨d0, d1, d2, d3⟩ := hSw.a.cells); (obtain ⟨c0, c1, c2, c3, c4, c5, c6, c7, c8, c9, c10⟩ := hSw.c); go_simp) ?_
          refine tcH (i := 7) (v := .bool false) rfl (by intro w' hSw; (try dsimp only at hSw); (obtain ⟨d0, d1, d2, d3⟩ := hSw.a.cells); (obtain ⟨c0, c1, c2, c3, c4, c5, c6, c7, c8, c9, c10⟩ := hSw.c); go_simp) ?_
          refine tcH (i := 8) (v := .agg #[.int .i64 s.w, .int .i64 s.h, .int .i64 s.back, .slice (some ⟨g, 0, none⟩) n c]) rfl (by intro w' hSw; (try dsimp only at hSw); (obtain ⟨d0, d1, d2, d3⟩ := hSw.a.cells); (obtain ⟨c0, c1, c2, c3, c4, c5, c6, c7, c8, c9, c10⟩ := hSw.c); go_simp) ?_
          refine tcH (i := 9) (v := .pointer (some ⟨w.heap.size, 3, none⟩)) rfl (by intro w' hSw; (try dsimp only at hSw); (obtain ⟨d0, d1, d2, d3⟩ := hSw.a.cells); (obtain ⟨c0, c1, c2, c3, c4, c5, c6, c7, c8, c9, c10⟩ := hSw.c); go_simp) ?_
          refine tcH (i := 10) (v := .slice (some ⟨g, 0, none⟩) n c) rfl (by intro w' hSw; (try dsimp only at hSw); (obtain ⟨d0, d1, d2, d3⟩ := hSw.a.cells); (obtain ⟨c0, c1, c2, c3, c4, c5, c6, c7, c8, c9, c10⟩ := hSw.c); go_simp) ?_
          refine tcH (i := 11) (v := .int .i64 (k : Int)) rfl (by intro w' hSw; (try dsimp only at hSw); (obtain ⟨d0, d1, d2, d3⟩ := hSw.a.cells); (obtain ⟨c0, c1, c2, c3, c4, c5, c6, c7, c8, c9, c10⟩ := hSw.c); go_simp) ?_
          refine tcH (i := 12) (v := .pointer (some ⟨g, k * 11, none⟩)) rfl (by intro w' hSw; (try dsimp only at hSw); (obtain ⟨d0, d1, d2, d3⟩ := hSw.a.cells); (obtain ⟨c0, c1, c2, c3, c4, c5, c6, c7, c8, c9, c10⟩ := hSw.c); go_simp) ?_
          refine tcH (i := 13) (v := .pointer (some ⟨g, k * 11, none⟩)) rfl (by intro w' hSw; (try dsimp only at hSw); (obtain ⟨d0, d1, d2, d3⟩ := hSw.a.cells); (obtain ⟨c0, c1, c2, c3, c4, c5, c6, c7, c8, c9, c10⟩ := hSw.c); go_simp) ?_
          refine tcH (i := 14) (v := .int .i64 f.id) rfl (by intro w' hSw; (try dsimp only at hSw); (obtain ⟨d0, d1, d2, d3⟩ := hSw.a.cells); (obtain ⟨c0, c1, c2, c3, c4, c5, c6, c7, c8, c9, c10⟩ := hSw.c); go_simp) ?_
          refine tcH (i := 16) (v := .int .i64 (k : Int)) rfl (by intro w' hSw; (try dsimp only at hSw); (obtain ⟨d0, d1, d2, d3⟩ := hSw.a.cells); (obtain ⟨c0, c1, c2, c3, c4, c5, c6, c7, c8, c9, c10⟩ := hSw.c); go_simp) ?_
          (try simp only [Act.put]); (try simp only [zPa]); (try simp only [zPb, zPc])
          refine wpAnyH_ready (rs := [15]) (by kernel_rfl) (by simp) ?_
          refine (AllReadyH.cons rfl (fun K hK => ?_) AllReadyH.nil)
          ·rw [if_pos (by kernel_rfl)]
           (try simp only [zGa]); (try simp only [zGb]); (try simp only [zGc])
           go_simp
           with_reducible refine (HI.out _ hS.a.r).mono ?_
           rintro e W' ⟨rfl, hb⟩
           dsimp only
           refine hK.out _ _ (hS.call hb) (fun hS => ?_)
           clear hK
           (try simp only [Act.put]); (try simp only [zPa]); (try simp only [zPb, zPc])
           refine tcH (i := 17) (v := .bool false) rfl (by intro w' hSw; (try dsimp only at hSw); (obtain ⟨d0, d1, d2, d3⟩ := hSw.a.cells); (obtain ⟨c0, c1, c2, c3, c4, c5, c6, c7, c8, c9, c10⟩ := hSw.c); go_simp) ?_
           refine tcH (i := 18) (v := .bool false) rfl (by intro w' hSw; (try dsimp only at hSw); (obtain ⟨d0, d1, d2, d3⟩ := hSw.a.cells); (obtain ⟨c0, c1, c2, c3, c4, c5, c6, c7, c8, c9, c10⟩ := hSw.c); go_simp) ?_
           refine wpAnyH_done (by kernel_rfl) ?_ _
           go_wp2_with fail
           go_roundw
           case rel =>
            refine ⟨k + 1, by omega, by go_num, Lib.hid (fun j y hj hy => ?_), hS.a, Lib.hid hS.bw⟩
            by_cases e : j < k
            ·exact Hall.out j y e hy
            ·obtain rfl : j = k := by omega
             rw [Hf.out] at hy
             rw [← Option.some.inj hy]
             exact ⟨Hs.out, Hq.out.symm⟩
           case measure => simp [intOf]; omega
        ·have Hno := Lib.hid (snB_no fun h : snOk s => hk2 (Hq.out.trans (h.2.2.2 k f Hf.out).2))
         go_upto_region 6 with fail
         clear d0 d1 d2 d3 hA HB
         refine wp_region_held_drew (S := fun W => SnR w s (.slice (some ⟨g, 0, none⟩) n c) bs g k f d W) (by kernel_rfl) (hT.call (belI_drew _)) (fun hS => ?_)
         refine tcH (i := 0) (v := .pointer (some ⟨w.heap.size, 3, none⟩)) rfl (by intro w' hSw; (try dsimp only at hSw); (obtain ⟨d0, d1, d2, d3⟩ := hSw.a.cells); (obtain ⟨c0, c1, c2, c3, c4, c5, c6, c7, c8, c9, c10⟩ := hSw.c); go_simp) ?_
         refine tcH (i := 1) (v := .slice (some ⟨g, 0, none⟩) n c) rfl (by intro w' hSw; (try dsimp only at hSw); (obtain ⟨d0, d1, d2, d3⟩ := hSw.a.cells); (obtain ⟨c0, c1, c2, c3, c4, c5, c6, c7, c8, c9, c10⟩ := hSw.c); go_simp) ?_
         refine tcH (i := 2) (v := .int .i64 (k : Int)) rfl (by intro w' hSw; (try dsimp only at hSw); (obtain ⟨d0, d1, d2, d3⟩ := hSw.a.cells); (obtain ⟨c0, c1, c2, c3, c4, c5, c6, c7, c8, c9, c10⟩ := hSw.c); go_simp) ?_
         refine tcH (i := 3) (v := .pointer (some ⟨g, k * 11, none⟩)) rfl (by intro w' hSw; (try dsimp only at hSw); (obtain ⟨d0, d1, d2, d3⟩ := hSw.a.cells); (obtain ⟨c0, c1, c2, c3, c4, c5, c6, c7, c8, c9, c10⟩ := hSw.c); go_simp) ?_
         refine tcH (i := 4) (v := .agg #[.int .i64 f.id, .int .i64 f.x, .int .i64 f.y, .int .i64 f.w, .int .i64 f.h, .int .i64 f.alpha, .int .i64 f.orient, .bool f.vis, .int .i64 f.bw, .int .i64 f.bh, d]) rfl (by intro w' hSw; (try dsimp only at hSw); (obtain ⟨d0, d1, d2, d3⟩ := hSw.a.cells); (obtain ⟨c0, c1, c2, c3, c4, c5, c6, c7, c8, c9, c10⟩ := hSw.c); go_simp) ?_
         (try simp only [Act.put]); (try simp only [zPa]); (try simp only [zPb, zPc])
         refine wpAnyH_ready (rs := [5]) (by kernel_rfl) (by simp) ?_
         refine (AllReadyH.cons rfl (fun K hK => ?_) AllReadyH.nil)
         ·rw [if_pos (by kernel_rfl)]
          (try simp only [zGa]); (try simp only [zGb]); (try simp only [zGc])
          go_simp
          with_reducible refine (HC.out _ hS.d).mono ?_
          rintro e W' ⟨rfl, hb⟩
          dsimp only
          refine hK.out _ _ (hS.call hb) (fun hS => ?_)
          clear hK
          (try simp only [Act.put]); (try simp only [zPa]); (try simp only [zPb, zPc])
          refine tcH (i := 6) (v := .bool false) rfl (by intro w' hSw; (try dsimp only at hSw); (obtain ⟨d0, d1, d2, d3⟩ := hSw.a.cells); (obtain ⟨c0, c1, c2, c3, c4, c5, c6, c7, c8, c9, c10⟩ := hSw.c); go_simp) ?_
          refine tcH (i := 7) (v := .bool false) rfl (by intro w' hSw; (try dsimp only at hSw); (obtain ⟨d0, d1, d2, d3⟩ := hSw.a.cells); (obtain ⟨c0, c1, c2, c3, c4, c5, c6, c7, c8, c9, c10⟩ := hSw.c); go_simp) ?_
          refine tcH (i := 8) (v := .agg #[.int .i64 s.w, .int .i64 s.h, .int .i64 s.back, .slice (some ⟨g, 0, none⟩) n c]) rfl (by intro w' hSw; (try dsimp only at hSw); (obtain ⟨d0, d1, d2, d3⟩ := hSw.a.cells); (obtain ⟨c0, c1, c2, c3, c4, c5, c6, c7, c8, c9, c10⟩ := hSw.c); go_simp) ?_
          refine tcH (i := 9) (v := .pointer (some ⟨w.heap.size, 3, none⟩)) rfl (by intro w' hSw; (try dsimp only at hSw); (obtain ⟨d0, d1, d2, d3⟩ := hSw.a.cells); (obtain ⟨c0, c1, c2, c3, c4, c5, c6, c7, c8, c9, c10⟩ := hSw.c); go_simp) ?_
          refine tcH (i := 10) (v := .slice (some ⟨g, 0, none⟩) n c) rfl (by intro w' hSw; (try dsimp only at hSw); (obtain ⟨d0, d1, d2, d3⟩ := hSw.a.cells); (obtain ⟨c0, c1, c2, c3, c4, c5, c6, c7, c8, c9, c10⟩ := hSw.c); go_simp) ?_
          refine tcH (i := 11) (v := .int .i64 (k : Int)) rfl (by intro w' hSw; (try dsimp only at hSw); (obtain ⟨d0, d1, d2, d3⟩ := hSw.a.cells); (obtain ⟨c0, c1, c2, c3, c4, c5, c6, c7, c8, c9, c10⟩ := hSw.c); go_simp) ?_
          refine tcH (i := 12) (v := .pointer (some ⟨g, k * 11, none⟩)) rfl (by intro w' hSw; (try dsimp only at hSw); (obtain ⟨d0, d1, d2, d3⟩ := hSw.a.cells); (obtain ⟨c0, c1, c2, c3, c4, c5, c6, c7, c8, c9, c10⟩ := hSw.c); go_simp) ?_
          refine tcH (i := 13) (v := .pointer (some ⟨g, k * 11, none⟩)) rfl (by intro w' hSw; (try dsimp only at hSw); (obtain ⟨d0, d1, d2, d3⟩ := hSw.a.cells); (obtain ⟨c0, c1, c2, c3, c4, c5, c6, c7, c8, c9, c10⟩ := hSw.c); go_simp) ?_
          refine tcH (i := 14) (v := .int .i64 f.id) rfl (by intro w' hSw; (try dsimp only at hSw); (obtain ⟨d0, d1, d2, d3⟩ := hSw.a.cells); (obtain ⟨c0, c1, c2, c3, c4, c5, c6, c7, c8, c9, c10⟩ := hSw.c); go_simp) ?_
          refine tcH (i := 16) (v := .int .i64 (k : Int)) rfl (by intro w' hSw; (try dsimp only at hSw); (obtain ⟨d0, d1, d2, d3⟩ := hSw.a.cells); (obtain ⟨c0, c1, c2, c3, c4, c5, c6, c7, c8, c9, c10⟩ := hSw.c); go_simp) ?_
          (try simp only [Act.put]); (try simp only [zPa]); (try simp only [zPb, zPc])
          refine wpAnyH_ready (rs := [15]) (by kernel_rfl) (by simp) ?_
          refine (AllReadyH.cons rfl (fun K hK => ?_) AllReadyH.nil)
          ·rw [if_pos (by kernel_rfl)]
           (try simp only [zGa]); (try simp only [zGb]); (try simp only [zGc])
           go_simp
           with_reducible refine (HI.out _ hS.a.r).mono ?_
           rintro e W' ⟨rfl, hb⟩
           dsimp only
           refine hK.out _ _ (hS.call hb) (fun hS => ?_)
           clear hK
           (try simp only [Act.put]); (try simp only [zPa]); (try simp only [zPb, zPc])
           refine tcH (i := 17) (v := .bool true) rfl (by intro w' hSw; (try dsimp only at hSw); (obtain ⟨d0, d1, d2, d3⟩ := hSw.a.cells); (obtain ⟨c0, c1, c2, c3, c4, c5, c6, c7, c8, c9, c10⟩ := hSw.c); go_simp) ?_
           refine tcH (i := 18) (v := .bool true) rfl (by intro w' hSw; (try dsimp only at hSw); (obtain ⟨d0, d1, d2, d3⟩ := hSw.a.cells); (obtain ⟨c0, c1, c2, c3, c4, c5, c6, c7, c8, c9, c10⟩ := hSw.c); go_simp) ?_
           refine wpAnyH_done (by kernel_rfl) ?_ _
           go_wp2_with fail
           go_ret
           exact ⟨ret_bool Hno.out.symm, hS.bw⟩
       ·have Hno := Lib.hid (snB_no fun h : snOk s => hs (h.2.2.2 k f Hf.out).1)
        rw [sfB_no hs] at HC
        have HC := Lib.hid HC
        clear hs
        go_upto_region 6 with fail
        clear d0 d1 d2 d3 hA HB
        refine wp_region_held_drew (S := fun W => SnR w s (.slice (some ⟨g, 0, none⟩) n c) bs g k f d W) (by kernel_rfl) (hT.call (belI_drew _)) (fun hS => ?_)
        refine tcH (i := 0) (v := .pointer (some ⟨w.heap.size, 3, none⟩)) rfl (by intro w' hSw; (try dsimp only at hSw); (obtain ⟨d0, d1, d2, d3⟩ := hSw.a.cells); (obtain ⟨c0, c1, c2, c3, c4, c5, c6, c7, c8, c9, c10⟩ := hSw.c); go_simp) ?_
        refine tcH (i := 1) (v := .slice (some ⟨g, 0, none⟩) n c) rfl (by intro w' hSw; (try dsimp only at hSw); (obtain ⟨d0, d1, d2, d3⟩ := hSw.a.cells); (obtain ⟨c0, c1, c2, c3, c4, c5, c6, c7, c8, c9, c10⟩ := hSw.c); go_simp) ?_
        refine tcH (i := 2) (v := .int .i64 (k : Int)) rfl (by intro w' hSw; (try dsimp only at hSw); (obtain ⟨d0, d1, d2, d3⟩ := hSw.a.cells); (obtain ⟨c0, c1, c2, c3, c4, c5, c6, c7, c8, c9, c10⟩ := hSw.c); go_simp) ?_
        refine tcH (i := 3) (v := .pointer (some ⟨g, k * 11, none⟩)) rfl (by intro w' hSw; (try dsimp only at hSw); (obtain ⟨d0, d1, d2, d3⟩ := hSw.a.cells); (obtain ⟨c0, c1, c2, c3, c4, c5, c6, c7, c8, c9, c10⟩ := hSw.c); go_simp) ?_
        refine tcH (i := 4) (v := .agg #[.int .i64 f.id, .int .i64 f.x, .int .i64 f.y, .int .i64 f.w, .int .i64 f.h, .int .i64 f.alpha, .int .i64 f.orient, .bool f.vis, .int .i64 f.bw, .int .i64 f.bh, d]) rfl (by intro w' hSw; (try dsimp only at hSw); (obtain ⟨d0, d1, d2, d3⟩ := hSw.a.cells); (obtain ⟨c0, c1, c2, c3, c4, c5, c6, c7, c8, c9, c10⟩ := hSw.c); go_simp) ?_
        (try simp only [Act.put]); (try simp only [zPa]); (try simp only [zPb, zPc])
        refine wpAnyH_ready (rs := [5]) (by kernel_rfl) (by simp) ?_
        refine (AllReadyH.cons rfl (fun K hK => ?_) AllReadyH.nil)
        ·rw [if_pos (by kernel_rfl)]
         (try simp only [zGa]); (try simp only [zGb]); (try simp only [zGc])
         go_simp
         with_reducible refine (HC.out _ hS.d).mono ?_
         rintro e W' ⟨rfl, hb⟩
         dsimp only
         refine hK.out _ _ (hS.call hb) (fun hS => ?_)
         clear hK
         (try simp only [Act.put]); (try simp only [zPa]); (try simp only [zPb, zPc])
         refine tcH (i := 6) (v := .bool true) rfl (by intro w' hSw; (try dsimp only at hSw); (obtain ⟨d0, d1, d2, d3⟩ := hSw.a.cells); (obtain ⟨c0, c1, c2, c3, c4, c5, c6, c7, c8, c9, c10⟩ := hSw.c); go_simp) ?_
         refine tcH (i := 7) (v := .bool true) rfl (by intro w' hSw; (try dsimp only at hSw); (obtain ⟨d0, d1, d2, d3⟩ := hSw.a.cells); (obtain ⟨c0, c1, c2, c3, c4, c5, c6, c7, c8, c9, c10⟩ := hSw.c); go_simp) ?_
         refine tnH (i := 8) rfl ?_
         refine tnH (i := 9) rfl ?_
         refine tnH (i := 10) rfl ?_
         refine tnH (i := 11) rfl ?_
         refine tnH (i := 12) rfl ?_
         refine tnH (i := 13) rfl ?_
         refine tnH (i := 14) rfl ?_
         refine tnH (i := 15) rfl ?_
         refine tnH (i := 16) rfl ?_
         refine tnH (i := 17) rfl ?_
         refine tcH (i := 18) (v := .bool true) rfl (by intro w' hSw; (try dsimp only at hSw); (obtain ⟨d0, d1, d2, d3⟩ := hSw.a.cells); (obtain ⟨c0, c1, c2, c3, c4, c5, c6, c7, c8, c9, c10⟩ := hSw.c); go_simp) ?_
         go_simp
         refine wpAnyH_done (by kernel_rfl) ?_ _
         go_wp2_with fail
         go_ret
         exact ⟨ret_bool Hno.out.symm, hS.bw⟩
      ·obtain rfl : k = n := by omega
       have Hy := Lib.hid (snB_yes (s := s) ⟨H0.out, H1.out, by rw [← Hn.out]; exact H2.out, fun j g hj => Hall.out j g (by rw [Hn.out]; exact (List.getElem?_eq_some_iff.1 hj).1) hj⟩)
       obtain ⟨d0, d1, d2, d3⟩ := hA.cells
       go_wp2_with fail
       go_ret
       exact ⟨ret_bool Hy.out.symm, HB.out⟩
    ·have Hno := Lib.hid (snB_no fun h : snOk s => h2 (by rw [Hn.out]; exact h.2.2.1))
     go_enter Tryz.func73, Tryz.ntmps73
     go_wp2_with fail
     refine (inS_yes _ _ _ _ h0.1 h0.2).mono ?_
     rintro e w' ⟨rfl, rfl⟩
     go_wp2_with fail
     refine (inS_yes _ _ _ _ h9.1 h9.2).mono ?_
     rintro e w' ⟨rfl, rfl⟩
     go_wp2_with fail
     refine (HO.out _).mono ?_
     rintro e w1 ⟨rfl, hb⟩
     replace hA := hA.call hb
     replace hB := belI_call hB hb
     clear d0 d1 d2 d3 hb
     obtain ⟨d0, d1, d2, d3⟩ := hA.cells
     go_wp2_with fail
     go_ret
     exact ⟨ret_bool Hno.out.symm, hB⟩
   ·have Hno := Lib.hid (snB_no fun h : snOk s => h1 h.2.1)
    rw [opqB_no h1] at HO
    clear h1
    go_enter Tryz.func73, Tryz.ntmps73
    go_wp2_with fail
    refine (inS_yes _ _ _ _ h0.1 h0.2).mono ?_
    rintro e w' ⟨rfl, rfl⟩
    go_wp2_with fail
    refine (inS_yes _ _ _ _ h9.1 h9.2).mono ?_
    rintro e w' ⟨rfl, rfl⟩
    go_wp2_with fail
    refine (HO.out _).mono ?_
    rintro e w1 ⟨rfl, hb⟩
    replace hB := belI_call hB hb
    clear d0 d1 d2 d3 hb
    go_wp2_with fail
    go_ret
    exact ⟨ret_bool Hno.out.symm, hB⟩
  ·have Hno := Lib.hid (snB_no fun h : snOk s => h9 ⟨h.1.2.2.1, h.1.2.2.2⟩)
   have H9 := Lib.hid (show s.h < 1 ∨ 16 < s.h by omega)
   clear h9
   go_enter Tryz.func73, Tryz.ntmps73
   go_wp2_with fail
   refine (inS_yes _ _ _ _ h0.1 h0.2).mono ?_
   rintro e w' ⟨rfl, rfl⟩
   go_wp2_with fail
   refine (inS_no _ _ _ _ H9.out).mono ?_
   rintro e w' ⟨rfl, rfl⟩
   go_wp2_with fail
   go_ret
   exact ⟨ret_bool Hno.out.symm, hB⟩
 ·have Hno := Lib.hid (snB_no fun h : snOk s => h0 ⟨h.1.1, h.1.2.1⟩)
  have H9 := Lib.hid (show s.w < 1 ∨ 16 < s.w by omega)
  clear h0
  go_enter Tryz.func73, Tryz.ntmps73
  go_wp2_with fail
  refine (inS_no _ _ _ _ H9.out).mono ?_
  rintro e w' ⟨rfl, rfl⟩
  go_wp2_with fail
  go_ret
  exact ⟨ret_bool Hno.out.symm, hB⟩
end Go.Proofs.YtokniebejilcbaaGreat
