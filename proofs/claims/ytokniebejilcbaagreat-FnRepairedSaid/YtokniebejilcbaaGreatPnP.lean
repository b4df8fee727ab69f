/- The contracts of Paint and PaintAt, of the program and of its model. No statement is proved here. -/
import Derived.Test.YtokniebejilcbaaGreatMA
import Derived.Test.YtokniebejilcbaaGreatMB
import Derived.Test.YtokniebejilcbaaGreatMC
import Derived.Test.YtokniebejilcbaaGreatCpyI
import Derived.Test.YtokniebejilcbaaGreatFilB
import Derived.Test.YtokniebejilcbaaGreatSnO
import Derived.Test.YtokniebejilcbaaGreatSnS
import Derived.Test.YtokniebejilcbaaGreatSnD
import Derived.Test.YtokniebejilcbaaGreatEdH
import Derived.Test.YtokniebejilcbaaGreatSfR
import Derived.Test.YtokniebejilcbaaGreatOrdB
import Derived.Test.YtokniebejilcbaaGreatOrdS
import Derived.Test.YtokniebejilcbaaGreatOrdI
import Derived.Test.YtokniebejilcbaaGreatOrdA
import Derived.Test.YtokniebejilcbaaGreatSclB
import Derived.Test.YtokniebejilcbaaGreatSfP
import Derived.Test.YtokniebejilcbaaGreatPnM
import Derived.Test.YtokniebejilcbaaGreatOcM
import Derived.Test.YtokniebejilcbaaGreatPnS
import Derived.Test.YtokniebejilcbaaGreatPnI
import Derived.Test.YtokniebejilcbaaGreatOcI
import Derived.Test.YtokniebejilcbaaGreatOcS
import Derived.Test.YtokniebejilcbaaGreatProg
import Derived.WalkKit
import Derived.ProofKit
import Derived.OpenShut
import Derived.WalkLawsBesides
import Derived.WalkSpells
import Derived.ShutString
import Derived.ChangeOld
import Derived.Below
import Derived.Lib.Hide
import Derived.BigQuiet
import Derived.Deep.QuietTactic
import Derived.Maps.AppendAt
import Derived.Deep.OwnRows
import Derived.Handy
import Derived.Deep.Draws
import Derived.OwnWalk
import Derived.Deep.AppendLies
import Derived.Deep.LoopGhost
import Derived.Deep.Onto
import Derived.Deep.MidRow
import Derived.Deep.WholeRow
import Derived.Laws.BitsAllLaws
import Derived.Lib.QuoteBits
import Derived.Deep.RegionHeld3
import Derived.Deep.DeepCutAuto
import Derived.Test.YtokniebejilcbaaGreatShelf
import Derived.Laws.CopyOwn
import Derived.Deep.RegionLaw
import Derived.Great.BuildSlice
import Derived.Laws.AppendOwn
import Derived.ChangeKeysEq
import Derived.Deep.RegionWith
import Derived.Shelf.RegionOpenPlain
import Derived.Lib.SliceRun
import Derived.Deep.DeepAppendRoom
namespace Go.Proofs.YtokniebejilcbaaGreat
open Go.RowKit
theorem pn_zero {w W : World} (hb : Below w.heap.size w W) : AnsIm zeroIm w (.returned (.agg #[.int .i64 0, .int .i64 0, .slice none 0 0])) (((W.setCell ⟨w.heap.size + 1, 0, none⟩ (.int .i64 0)).setCell ⟨w.heap.size + 1, 1, none⟩ (.int .i64 0)).setCell ⟨w.heap.size + 1, 2, none⟩ (.slice none 0 0)) :=
 zeroIm_ans (((hb.setCell (by simp) _).setCell (by simp) _).setCell (by simp) _)
structure PnZ (w : World) (s : Sn) (v : Value) (bs : List Nat) (V : World) : Prop where
 a : SnA w.heap.size s v bs V
 r : ImAt V (w.heap.size + 1) 55 0 0 (.slice none 0 0)
 bw : Below w.heap.size w V
theorem PnZ.call {w : World} {s : Sn} {v : Value} {bs : List Nat} {V V' : World} (h : PnZ w s v bs V) (hb : Below V.heap.size V V') : PnZ w s v bs V' := ⟨h.a.call hb, h.r.call hb, belI_call h.bw hb⟩
theorem PnZ.born {w : World} {s : Sn} {v : Value} {bs : List Nat} (h : repSfs.R w s.fs [v] bs) : PnZ w s v bs ((w.alloc (.cells #[.int .i64 s.w, .int .i64 s.h, .int .i64 s.back, v] 34)).alloc (.cells #[.int .i64 0, .int .i64 0, .slice none 0 0] 55)) :=
 ⟨(SnA.born h).call (belI_box _ _), ImAt.newAt (by simp) _ _ _ _, belI_call (belI_box _ _) (belI_box _ _)⟩
set_option maxHeartbeats 1000000 in
theorem paS (s : Sn) (v : Value) (bs : List Nat) (w : World) (h : repSfs.R w s.fs [v] bs) : Calls Tryz.prog 27 #[.agg #[.int .i64 s.w, .int .i64 s.h, .int .i64 s.back, v]] w (AnsIm (pnIm s) w) := by
 have hZ := PnZ.born h
 have HS := fun W h => snS s v bs W h
 unfold SnOkAns at HS
 obtain ⟨d0, d1, d2, d3⟩ := hZ.a.cells
 by_cases hs : snOk s
 ·rw [snB_yes hs] at HS
  have HL := Lib.hid (fun W h => l11S s v bs W hs h)
  unfold AnsIm at HL ⊢
  obtain ⟨I, hI⟩ : ∃ I, I = pnIm s := ⟨_, rfl⟩
  rw [← hI] at HL ⊢
  have HS := Lib.hid HS
  clear h hs hI
  go_enter Tryz.func27, Tryz.ntmps27
  go_wp2_with fail
  refine (HS.out _ hZ.a.r).mono ?_
  rintro e w1 ⟨rfl, hb⟩
  replace hZ := hZ.call hb
  clear d0 d1 d2 d3 hb
  obtain ⟨d0, d1, d2, d3⟩ := hZ.a.cells
  go_wp2_with fail
  refine (HL.out _ hZ.a.r).mono ?_
  rintro e w2 ⟨u, rfl, hown, hb⟩
  obtain ⟨A, c, rfl⟩ := ownI_shape hown
  have hz := hZ.r.lt
  replace hown := hown.mono (show w.heap.size + 2 ≤ _ by omega)
  replace hZ := hZ.call hb
  clear d0 d1 d2 d3 hb
  obtain ⟨r0, r1, r2⟩ := hZ.r.cells
  have f0 := hZ.r.frozen 0
  have f1 := hZ.r.frozen 1
  have f2 := hZ.r.frozen 2
  have HJ := Lib.hid (hZ.r.set3 I.w I.h (.slice A I.d.length c))
  have HB := Lib.hid hZ.bw
  have HO := Lib.hid hown
  clear hZ hown hz
  go_wp2_with fail
  obtain ⟨s0, s1, s2⟩ := HJ.out.cells
  exact bodyPost_ret (v := .agg #[.int .i64 I.w, .int .i64 I.h, .slice A I.d.length c]) (by simp [results, Tryz.results27, go_sem, s0, s1, s2]) rfl (ans_set HO.out rfl (by omega) (by omega) HB.out)
 ·rw [snB_no hs] at HS
  have HA := Lib.hid (pnIm_no hs)
  have HS := Lib.hid HS
  clear h hs
  go_enter Tryz.func27, Tryz.ntmps27
  go_wp2_with fail
  refine (HS.out _ hZ.a.r).mono ?_
  rintro e w1 ⟨rfl, hb⟩
  replace hZ := hZ.call hb
  clear d0 d1 d2 d3 hb
  obtain ⟨r0, r1, r2⟩ := hZ.r.cells
  have f0 := hZ.r.frozen 0
  have f1 := hZ.r.frozen 1
  have f2 := hZ.r.frozen 2
  have HJ := Lib.hid (hZ.r.set3 0 0 (.slice none 0 0))
  have HB := Lib.hid hZ.bw
  clear hZ
  go_wp2_with fail
  obtain ⟨s0, s1, s2⟩ := HJ.out.cells
  exact bodyPost_ret (v := .agg #[.int .i64 0, .int .i64 0, .slice none 0 0]) (by simp [results, Tryz.results27, go_sem, s0, s1, s2]) rfl (by rw [HA.out]; exact pn_zero HB.out)
set_option maxHeartbeats 2000000 in
set_option maxRecDepth 100000 in
theorem paI_ok (W H : Nat) (sb : Int) (fs : List Sf) (v : Value) (bs : List Nat) (w : World) (hs : snOk ⟨W, H, sb, fs⟩) (h : repSfs.R w fs [v] bs) :
  Calls Tryz.prog 79 #[.agg #[.int .i64 W, .int .i64 H, .int .i64 sb, v]] w (AnsIm (pnIm ⟨W, H, sb, fs⟩) w) := by
 obtain ⟨D0, hD0⟩ : ∃ D, D = flatN W H sb := ⟨_, rfl⟩
 have HA : Hid (pnIm ⟨W, H, sb, fs⟩ = ⟨W, H, pnL W D0 fs⟩) := Lib.hid (by rw [pnIm_yes hs, hD0]; rfl)
 have HC := fun V => newI W H sb V
 unfold AnsIm at HC
 rw [new_yes hs.1 hs.2.1.1, ← hD0] at HC
 dsimp only at HC
 have HC := Lib.hid HC
 obtain ⟨m, hm⟩ : ∃ m, m = D0.length := ⟨_, rfl⟩
 have hmW : m = W * H := by rw [hm, hD0]; unfold flatN; rw [tabI_length, ← Int.natCast_mul, Int.toNat_natCast]
 obtain ⟨wl, wh, hl, hh⟩ : 1 ≤ W ∧ W ≤ 16 ∧ 1 ≤ H ∧ H ≤ 16 := by have := hs.1; unfold szOk at this; dsimp only at this; omega
 have hm1 : 1 ≤ m := by rw [hmW]; exact Nat.mul_pos wl hl
 have hm2 : m ≤ 256 := by rw [hmW]; exact mul_256 wh hh
 have HSO := fun V h => snI ⟨W, H, sb, fs⟩ v bs V h
 unfold SnOkAns at HSO
 rw [snB_yes hs] at HSO
 dsimp only at HSO
 have Hs := Lib.hid hs
 have hold : ∀ b ∈ bs, b < w.heap.size := fun b hb => repSfs.ex h b hb
 obtain ⟨⟨A, c, rfl⟩, hml⟩ := repSfs_form h
 obtain ⟨N, hN⟩ : ∃ N, N = fs.length := ⟨_, rfl⟩
 have hZ := PnZ.born (s := ⟨W, H, sb, fs⟩) h
 dsimp only at hZ
 rw [← hN] at hml HSO hZ ⊢
 have HSO := Lib.hid HSO
 have hN6 : N ≤ 6 := by rw [hN]; exact hs.2.2.1
 have HN := Lib.hid hN
 have Hm := Lib.hid hm
 have HmW := Lib.hid hmW
 have Hold := Lib.hid hold
 obtain ⟨d0, d1, d2, d3⟩ := hZ.a.cells
 dsimp only at d0 d1 d2 d3
 clear hs hD0 hm hmW hN h hold hml
 go_enter Tryz.func79, Tryz.ntmps79
 go_wp2_with fail
 refine (HSO.out _ hZ.a.r).mono ?_
 rintro e w0 ⟨rfl, hb⟩
 replace hZ := hZ.call hb
 clear d0 d1 d2 d3 hb
 obtain ⟨d0, d1, d2, d3⟩ := hZ.a.cells
 dsimp only at d0 d1 d2 d3
 go_wp2_with fail
 refine (HC.out _).mono ?_
 rintro e w1 ⟨u, rfl, hown, hb⟩
 rw [← Hm.out] at hown
 obtain ⟨gq, cq, hu, hg1, hg2⟩ := hown.form (by omega)
 subst hu
 have hz0 := hZ.r.lt
 have hz := hb.size
 obtain ⟨bo, hbo⟩ : ∃ b, b = w1.heap.size := ⟨_, rfl⟩
 have hbx := belI_box w1 (.cells #[.int .i64 W, .int .i64 H, .slice (some ⟨gq, 0, none⟩) m cq] 55)
 obtain ⟨V0, hV0⟩ : ∃ V, V = w1.alloc (.cells #[.int .i64 W, .int .i64 H, .slice (some ⟨gq, 0, none⟩) m cq] 55) := ⟨_, rfl⟩
 have hA0 : PnA w W H sb fs (.slice A N c) bs bo (.slice (some ⟨gq, 0, none⟩) m cq) V0 := by
  rw [hV0]; exact ⟨(hZ.a.call hb).call hbx, (hZ.r.call hb).call hbx, ImAt.newAt hbo.symm _ _ _ _, belI_call (belI_call hZ.bw hb) hbx⟩
 have HP0 := Lib.hid hA0
 have HO : Hid (V0.ownsRow (w.heap.size + 2) 3 1 (.slice (some ⟨gq, 0, none⟩) m cq) m (intCells (pnL W D0 (fs.take 0)))) := Lib.hid (by
  rw [hV0]; exact (hown.mono (by omega)).alloc _)
 have Hsep : Hid ((∀ b ∈ bs, b < w.heap.size) ∧ w.heap.size + 1 < gq ∧ bo ≠ gq) := Lib.hid ⟨Hold.out, by omega, by omega⟩
 have HV0 := Lib.hid hV0
 have Hbo := Lib.hid hbo
 clear d0 d1 d2 d3
 obtain ⟨d0, d1, d2, d3⟩ := hA0.cells
 rw [hV0] at d0 d1 d2 d3
 clear hZ hb hown hbx hV0 hbo hg1 hg2 hz hz0 hA0
 go_wp2_with fail
 rw [← HV0.out, ← Hbo.out]
 clear d0 d1 d2 d3
 go_loopg [20] N (fun g4 s4 wr => ∃ (k : Nat) (V : World), V = wr ∧ k ≤ N ∧ g4 = N - k ∧ s4 = .int .i64 k ∧ Hid (PnA w W H sb fs (.slice A N c) bs bo (.slice (some ⟨gq, 0, none⟩) m cq) V) ∧ Hid (V.ownsRow (w.heap.size + 2) 3 1 (.slice (some ⟨gq, 0, none⟩) m cq) m (intCells (pnL W D0 (fs.take k)))))
 case atStart => exact ⟨0, _, rfl, Nat.zero_le _, by omega, rfl, HP0, HO⟩
 case round =>
  clear HP0 HO
  obtain ⟨k, V, hV, hk, rfl, rfl, HP, HO⟩ := hrel
  subst hV
  by_cases hlt : k < N
  ·obtain ⟨g, f, d, hA1, hf, hC, hd⟩ := repSfs_at HP.out.a.r (k := k) (by dsimp only; rw [← HN.out]; exact hlt)
   dsimp only at hf
   subst hA1
   obtain ⟨Ad, cd, rfl⟩ := hd.form
   have Hf := Lib.hid hf
   have hsf := (Hs.out.2.2.2 k f hf).1
   have hD1 : (pnL W D0 (fs.take k)).length = m := by rw [pnL_len, ← Hm.out]
   obtain ⟨V1, hV1⟩ : ∃ V1, V1 = V.alloc (.cells #[.int .i64 f.id, .int .i64 f.x, .int .i64 f.y, .int .i64 f.w, .int .i64 f.h, .int .i64 f.alpha, .int .i64 f.orient, .bool f.vis, .int .i64 f.bw, .int .i64 f.bh, .slice Ad f.data.length cd] 153) := ⟨_, rfl⟩
   obtain ⟨bsf, hbs⟩ : ∃ b, b = V.heap.size := ⟨_, rfl⟩
   have hbx : Below V.heap.size V V1 := by rw [hV1]; exact belI_box _ _
   have hX : BkAt V1 bsf 153 #[.int .i64 f.id, .int .i64 f.x, .int .i64 f.y, .int .i64 f.w, .int .i64 f.h, .int .i64 f.alpha, .int .i64 f.orient, .bool f.vis, .int .i64 f.bw, .int .i64 f.bh, .slice Ad f.data.length cd] := by rw [hV1]; exact BkAt.newAt hbs.symm _ _
   have hgq := (HO.out.lt gq rfl).2
   obtain ⟨q, hq⟩ : ∃ q, q = ocR W H f := ⟨_, rfl⟩
   have hPo := parts_one ⟨wl, wh⟩ ⟨hl, hh⟩ f
   rw [← hq] at hPo
   have Hone : Hid (oc1 W (pnL W D0 (fs.take k)) f [q] = pn1 W (pnL W D0 (fs.take k)) f) := Lib.hid (by rw [hq]; exact oc1_one ⟨wl, wh⟩ ⟨hl, hh⟩ (by rw [hD1, HmW.out]) f)
   have HPS := Lib.hid (fun (V' : World) (u : Value) h1 h2 h3 h4 h5 => psfI W H f (.slice Ad f.data.length cd) bo gq m cq (w.heap.size + 2) (pnL W D0 (fs.take k)) [q] u V' ⟨wl, wh, hl, hh⟩ HmW.out hD1 hsf h1 h2 h3 Hsep.out.2.2 hPo (by simp) h4 h5)
   have HRo := fun (V' : World) h => rosI ⟨W, H, sb, fs⟩ (.slice (some ⟨g, 0, none⟩) N c) ⟨_, _, _, rfl⟩ f (.slice Ad f.data.length cd) V' h
   unfold RcAns at HRo
   dsimp only at HRo
   rw [← hq] at HRo
   have HRo := Lib.hid HRo
   have hS0 := HP.out.call hbx
   have hd := hd.call hbx
   have hOw := ownI_call HO.out hbx
   have Hbne : Hid (bsf ≠ gq) := Lib.hid (by omega)
   have HV1 := Lib.hid hV1
   have Hbs := Lib.hid hbs
   obtain ⟨c0, c1, c2, c3, c4, c5, c6, c7, c8, c9, c10⟩ := hC
   have k0 : (0 : Int) ≤ (k : Int) := by omega
   have k1 : (k : Int) < (N : Int) := by omega
   clear hf hsf hD1 hbx hV1 hbs HO HP hgq hq hPo
   go_upto_region 7 with fail
   rw [← HV1.out, ← Hbs.out]
   clear c0 c1 c2 c3 c4 c5 c6 c7 c8 c9 c10
   refine wp_region_held_drew (S := fun V' => PnA w W H sb fs (.slice (some ⟨g, 0, none⟩) N c) bs bo (.slice (some ⟨gq, 0, none⟩) m cq) V' ∧ BkAt V' bsf 153 #[.int .i64 f.id, .int .i64 f.x, .int .i64 f.y, .int .i64 f.w, .int .i64 f.h, .int .i64 f.alpha, .int .i64 f.orient, .bool f.vis, .int .i64 f.bw, .int .i64 f.bh, .slice Ad f.data.length cd]) (by kernel_rfl) ⟨hS0.call (belI_drew _), hX.call (belI_drew _)⟩ (fun hS => ?_)
   replace hOw := ownI_call hOw (belI_drew _)
   replace hd := hd.drew
   refine tcH (i := 0) (v := .agg #[.int .i64 f.id, .int .i64 f.x, .int .i64 f.y, .int .i64 f.w, .int .i64 f.h, .int .i64 f.alpha, .int .i64 f.orient, .bool f.vis, .int .i64 f.bw, .int .i64 f.bh, .slice Ad f.data.length cd]) rfl (by intro w' hSw; (try dsimp only at hSw); (have e0 := hSw.2.cell 0 rfl); (have e1 := hSw.2.cell 1 rfl); (have e2 := hSw.2.cell 2 rfl); (have e3 := hSw.2.cell 3 rfl); (have e4 := hSw.2.cell 4 rfl); (have e5 := hSw.2.cell 5 rfl); (have e6 := hSw.2.cell 6 rfl); (have e7 := hSw.2.cell 7 rfl); (have e8 := hSw.2.cell 8 rfl); (have e9 := hSw.2.cell 9 rfl); (have e10 := hSw.2.cell 10 rfl); go_simp) ?_
   refine tcH (i := 1) (v := .agg #[.int .i64 W, .int .i64 H, .int .i64 sb, .slice (some ⟨g, 0, none⟩) N c]) rfl (by intro w' hSw; (try dsimp only at hSw); (obtain ⟨d0, d1, d2, d3⟩ := hSw.1.cells); ((try dsimp only at d0 d1 d2 d3)); go_simp) ?_
   refine tcH (i := 2) (v := .agg #[.int .i64 f.id, .int .i64 f.x, .int .i64 f.y, .int .i64 f.w, .int .i64 f.h, .int .i64 f.alpha, .int .i64 f.orient, .bool f.vis, .int .i64 f.bw, .int .i64 f.bh, .slice Ad f.data.length cd]) rfl (by intro w' hSw; (try dsimp only at hSw); (have e0 := hSw.2.cell 0 rfl); (have e1 := hSw.2.cell 1 rfl); (have e2 := hSw.2.cell 2 rfl); (have e3 := hSw.2.cell 3 rfl); (have e4 := hSw.2.cell 4 rfl); (have e5 := hSw.2.cell 5 rfl); (have e6 := hSw.2.cell 6 rfl); (have e7 := hSw.2.cell 7 rfl); (have e8 := hSw.2.cell 8 rfl); (have e9 := hSw.2.cell 9 rfl); (have e10 := hSw.2.cell 10 rfl); go_simp) ?_
   (try simp only [Act.put]); (try simp only [zPa]); (try simp only [zPb, zPc])
   refine wpAnyH_ready (rs := [3]) (by kernel_rfl) (by simp) ?_
   refine (AllReadyH.cons rfl (fun K hK => ?_) AllReadyH.nil)
   ·rw [if_pos (by kernel_rfl)]
    (try simp only [zGa]); (try simp only [zGb]); (try simp only [zGc])
    go_simp
    with_reducible refine (HRo.out _ hd).mono ?_
    rintro e W' ⟨rfl, hb⟩
    dsimp only
    have hOw := ownI_call hOw hb
    have hd := hd.call hb
    refine hK.out _ _ (⟨hS.1.call hb, hS.2.call hb⟩) (fun hS => ?_)
    clear hK
    (try simp only [Act.put]); (try simp only [zPa]); (try simp only [zPb, zPc])
    refine wpAnyH_ready (rs := [4]) (by kernel_rfl) (by simp) ?_
    refine (AllReadyH.cons rfl (fun K hK => ?_) AllReadyH.nil)
    ·rw [if_pos (by kernel_rfl)]
     (try simp only [zGa]); (try simp only [zGb]); (try simp only [zGc])
     refine wp_build1o 28 (.tmp 27) q rfl (by first | with_reducible rfl | (go_simp; done) | rfl) rfl ?_
     intro g1 W' hb hN1
     have hng : ∀ q', (Value.slice (some ⟨g1, 0, none⟩) 1 1).ownBlock = some q' → q' ≠ gq := fun q' h' e' => by have h1 := (own_ltB hN1 q' (by rw [h']; simp)).1; have h2 := (hOw.lt gq rfl).2; omega
     have hOw := ownI_call hOw hb
     have hd := hd.call hb
     refine hK.out _ _ (⟨hS.1.call hb, hS.2.call hb⟩) (fun hS => ?_)
     clear hK
     (try simp only [Act.put]); (try simp only [zPa]); (try simp only [zPb, zPc])
     refine wpAnyH_ready (rs := [5]) (by kernel_rfl) (by simp) ?_
     refine (AllReadyH.cons rfl (fun K hK => ?_) AllReadyH.nil)
     ·rw [if_pos (by kernel_rfl)]
      (try simp only [zGa]); (try simp only [zGb]); (try simp only [zGc])
      go_simp
      with_reducible refine (HPS.out _ _ hd hS.1.o hOw (RdR.of_own hN1) hng).mono ?_
      rintro e W' ⟨rfl, hg, hrow⟩
      dsimp only
      have hOx := hrow
      skip
      skip
      refine hK.out _ _ (⟨hS.1.set Hsep.out hg, hS.2.grown hg (fun e => Hbne.out (Option.some.inj e))⟩) (fun hS => ?_)
      clear hK
      (try simp only [Act.put]); (try simp only [zPa]); (try simp only [zPb, zPc])
      refine wpAnyH_done (by kernel_rfl) ?_ _
      have HS9 := Lib.hid hS.1
      have HO9 : Hid (W'.ownsRow (w.heap.size + 2) 3 1 (.slice (some ⟨gq, 0, none⟩) m cq) m (intCells (pnL W D0 (fs.take (k + 1))))) := Lib.hid (by rw [pnL_take W D0 Hf.out, ← Hone.out]; exact hOx)
      clear hOx
      go_wp2_with fail
      go_roundg (N - (k + 1))
      case measure => omega
      case rel => exact ⟨k + 1, _, rfl, by omega, rfl, by go_num, HS9, HO9⟩
  ·have hkN : k = N := by omega
   subst hkN
   obtain ⟨o0, o1, o2⟩ := HP.out.o.cells
   obtain ⟨r0, r1, r2⟩ := HP.out.r.cells
   have f0 := HP.out.r.frozen 0
   have f1 := HP.out.r.frozen 1
   have f2 := HP.out.r.frozen 2
   have HJ := Lib.hid (HP.out.r.set3 W H (.slice (some ⟨gq, 0, none⟩) m cq))
   have HB := Lib.hid HP.out.bw
   have hni : ¬ (k : Int) < (k : Int) := by omega
   clear HP
   go_wp2_with fail
   obtain ⟨s0, s1, s2⟩ := HJ.out.cells
   refine bodyPost_ret (v := .agg #[.int .i64 W, .int .i64 H, .slice (some ⟨gq, 0, none⟩) m cq]) (by simp [results, Tryz.results79, go_sem, s0, s1, s2]) rfl ?_
   rw [HA.out]
   have h := HO.out
   rw [List.take_of_length_le (by rw [← HN.out]; exact Nat.le_refl _)] at h
   exact ans_set h (by rw [pnL_len, Hm.out]) (by omega) (by omega) HB.out
theorem paI_no (s : Sn) (v : Value) (bs : List Nat) (w : World) (hs : ¬ snOk s) (h : repSfs.R w s.fs [v] bs) : Calls Tryz.prog 79 #[.agg #[.int .i64 s.w, .int .i64 s.h, .int .i64 s.back, v]] w (AnsIm (pnIm s) w) := by
 have hZ := PnZ.born h
 have HS := fun W h => snI s v bs W h
 unfold SnOkAns at HS
 obtain ⟨d0, d1, d2, d3⟩ := hZ.a.cells
 rw [snB_no hs] at HS
 have HA := Lib.hid (pnIm_no hs)
 have HS := Lib.hid HS
 clear h hs
 go_enter Tryz.func79, Tryz.ntmps79
 go_wp2_with fail
 refine (HS.out _ hZ.a.r).mono ?_
 rintro e w1 ⟨rfl, hb⟩
 replace hZ := hZ.call hb
 clear d0 d1 d2 d3 hb
 obtain ⟨r0, r1, r2⟩ := hZ.r.cells
 have f0 := hZ.r.frozen 0
 have f1 := hZ.r.frozen 1
 have f2 := hZ.r.frozen 2
 have HJ := Lib.hid (hZ.r.set3 0 0 (.slice none 0 0))
 have HB := Lib.hid hZ.bw
 clear hZ
 go_wp2_with fail
 obtain ⟨s0, s1, s2⟩ := HJ.out.cells
 exact bodyPost_ret (v := .agg #[.int .i64 0, .int .i64 0, .slice none 0 0]) (by simp [results, Tryz.results79, go_sem, s0, s1, s2]) rfl (by rw [HA.out]; exact pn_zero HB.out)
theorem paI (s : Sn) (v : Value) (bs : List Nat) (w : World) (h : repSfs.R w s.fs [v] bs) : Calls Tryz.prog 79 #[.agg #[.int .i64 s.w, .int .i64 s.h, .int .i64 s.back, v]] w (AnsIm (pnIm s) w) := by
 by_cases hs : snOk s
 ·obtain ⟨x, y, b, fs⟩ := s
  obtain ⟨p, q, rfl, rfl, _⟩ := sz_nat (show szOk x y from hs.1)
  exact paI_ok p q b fs v bs w hs h
 ·exact paI_no s v bs w hs h
end Go.Proofs.YtokniebejilcbaaGreat
