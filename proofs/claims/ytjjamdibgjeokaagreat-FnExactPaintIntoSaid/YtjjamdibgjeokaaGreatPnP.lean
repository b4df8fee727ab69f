/- The contracts of Paint and PaintAt, of the program and of its model. No statement is proved here. -/
import Derived.Test.YtjjamdibgjeokaaGreatMA
import Derived.Test.YtjjamdibgjeokaaGreatSnO
import Derived.Test.YtjjamdibgjeokaaGreatMB
import Derived.Test.YtjjamdibgjeokaaGreatMC
import Derived.Test.YtjjamdibgjeokaaGreatCpyI
import Derived.Test.YtjjamdibgjeokaaGreatOrdB
import Derived.Test.YtjjamdibgjeokaaGreatOrdS
import Derived.Test.YtjjamdibgjeokaaGreatOrdI
import Derived.Test.YtjjamdibgjeokaaGreatOrdA
import Derived.Test.YtjjamdibgjeokaaGreatSclB
import Derived.Test.YtjjamdibgjeokaaGreatSfP
import Derived.Test.YtjjamdibgjeokaaGreatPnM
import Derived.Test.YtjjamdibgjeokaaGreatSnS
import Derived.Test.YtjjamdibgjeokaaGreatPnS
import Derived.Test.YtjjamdibgjeokaaGreatPnI
import Derived.Test.YtjjamdibgjeokaaGreatProg
import Derived.WalkKit
import Derived.ProofKit
import Derived.OpenShut
import Derived.WalkLawsBesides
import Derived.WalkSpells
import Derived.ShutString
import Derived.ChangeOld
import Derived.Below
import Derived.Lib.Hide
import Derived.BigQuiet
import Derived.Deep.QuietTactic
import Derived.Maps.AppendAt
import Derived.Deep.OwnRows
import Derived.Handy
import Derived.Deep.Draws
import Derived.OwnWalk
import Derived.Deep.AppendLies
import Derived.Deep.LoopGhost
import Derived.Deep.Onto
import Derived.Deep.MidRow
import Derived.Deep.WholeRow
import Derived.Laws.BitsAllLaws
import Derived.Lib.QuoteBits
import Derived.Deep.RegionHeld3
import Derived.Deep.DeepCutAuto
import Derived.Test.YtjjamdibgjeokaaGreatShelf
import Derived.Laws.CopyOwn
import Derived.Deep.RegionLaw
import Derived.Great.BuildSlice
import Derived.Laws.AppendOwn
import Derived.ChangeKeysEq
namespace Go.Proofs.YtjjamdibgjeokaaGreat
open Go.RowKit
/-- The zero image is answered. -/
theorem pn_zero {w W : World} (hb : Below w.heap.size w W) : AnsIm zeroIm w (.returned (.agg #[.int .i64 0, .int .i64 0, .slice none 0 0])) (((W.setCell ⟨w.heap.size + 1, 0, none⟩ (.int .i64 0)).setCell ⟨w.heap.size + 1, 1, none⟩ (.int .i64 0)).setCell ⟨w.heap.size + 1, 2, none⟩ (.slice none 0 0)) :=
  zeroIm_ans (((hb.setCell (by simp) _).setCell (by simp) _).setCell (by simp) _)
/-- The boxes of Paint: the scene's and the answer's. -/
structure PnZ (w : World) (s : Sn) (v : Value) (bs : List Nat) (V : World) : Prop where
  a : SnA w.heap.size s v bs V
  r : ImAt V (w.heap.size + 1) 34 0 0 (.slice none 0 0)
  bw : Below w.heap.size w V
theorem PnZ.call {w : World} {s : Sn} {v : Value} {bs : List Nat} {V V' : World} (h : PnZ w s v bs V) (hb : Below V.heap.size V V') : PnZ w s v bs V' := ⟨h.a.call hb, h.r.call hb, belI_call h.bw hb⟩
theorem PnZ.born {w : World} {s : Sn} {v : Value} {bs : List Nat} (h : repSfs.R w s.fs [v] bs) : PnZ w s v bs ((w.alloc (.cells #[.int .i64 s.w, .int .i64 s.h, .int .i64 s.back, v] 39)).alloc (.cells #[.int .i64 0, .int .i64 0, .slice none 0 0] 34)) :=
  ⟨(SnA.born h).call (belI_box _ _), ImAt.newAt (by simp) _ _ _ _, belI_call (belI_box _ _) (belI_box _ _)⟩
set_option maxHeartbeats 2000000 in
set_option maxRecDepth 100000 in
theorem paI_ok (W H : Nat) (sb : Int) (fs : List Sf) (v : Value) (bs : List Nat) (w : World) (hs : snOk ⟨W, H, sb, fs⟩) (h : repSfs.R w fs [v] bs) :
    Calls Tryz.prog 40 #[.agg #[.int .i64 W, .int .i64 H, .int .i64 sb, v]] w (AnsIm (pnIm ⟨W, H, sb, fs⟩) w) := by
  obtain ⟨D0, hD0⟩ : ∃ D, D = flatN W H sb := ⟨_, rfl⟩
  have HA : Hid (pnIm ⟨W, H, sb, fs⟩ = ⟨W, H, pnL W D0 fs⟩) := Lib.hid (by rw [pnIm_yes hs, hD0]; rfl)
  have HC := fun V => newI W H sb V
  unfold AnsIm at HC
  rw [new_yes hs.1 hs.2.1.1, ← hD0] at HC
  dsimp only at HC
  have HC := Lib.hid HC
  obtain ⟨m, hm⟩ : ∃ m, m = D0.length := ⟨_, rfl⟩
  have hmW : m = W * H := by rw [hm, hD0]; unfold flatN; rw [tabI_length, ← Int.natCast_mul, Int.toNat_natCast]
  obtain ⟨wl, wh, hl, hh⟩ : 1 ≤ W ∧ W ≤ 16 ∧ 1 ≤ H ∧ H ≤ 16 := by have := hs.1; unfold szOk at this; dsimp only at this; omega
  have hm1 : 1 ≤ m := by rw [hmW]; exact Nat.mul_pos wl hl
  have hm2 : m ≤ 256 := by rw [hmW]; exact mul_256 wh hh
  have HSO := fun V h => snI ⟨W, H, sb, fs⟩ v bs V h
  unfold SnOkAns at HSO
  rw [snB_yes hs] at HSO
  dsimp only at HSO
  have Hs := Lib.hid hs
  have hold : ∀ b ∈ bs, b < w.heap.size := fun b hb => repSfs.ex h b hb
  obtain ⟨⟨A, c, rfl⟩, hml⟩ := repSfs_form h
  obtain ⟨N, hN⟩ : ∃ N, N = fs.length := ⟨_, rfl⟩
  have hZ := PnZ.born (s := ⟨W, H, sb, fs⟩) h
  dsimp only at hZ
  rw [← hN] at hml HSO hZ ⊢
  have HSO := Lib.hid HSO
  have hN6 : N ≤ 6 := by rw [hN]; exact hs.2.2.1
  have HN := Lib.hid hN
  have Hm := Lib.hid hm
  have HmW := Lib.hid hmW
  have Hold := Lib.hid hold
  obtain ⟨d0, d1, d2, d3⟩ := hZ.a.cells
  dsimp only at d0 d1 d2 d3
  clear hs hD0 hm hmW hN h hold hml
  go_enter Tryz.func40, Tryz.ntmps40
  go_wp2_with fail
  refine (HSO.out _ hZ.a.r).mono ?_
  rintro e w0 ⟨rfl, hb⟩
  replace hZ := hZ.call hb
  clear d0 d1 d2 d3 hb
  obtain ⟨d0, d1, d2, d3⟩ := hZ.a.cells
  dsimp only at d0 d1 d2 d3
  go_wp2_with fail
  refine (HC.out _).mono ?_
  rintro e w1 ⟨u, rfl, hown, hb⟩
  rw [← Hm.out] at hown
  obtain ⟨gq, cq, hu, hg1, hg2⟩ := hown.form (by omega)
  subst hu
  have hz0 := hZ.r.lt
  have hz := hb.size
  obtain ⟨bo, hbo⟩ : ∃ b, b = w1.heap.size := ⟨_, rfl⟩
  have hbx := belI_box w1 (.cells #[.int .i64 W, .int .i64 H, .slice (some ⟨gq, 0, none⟩) m cq] 34)
  obtain ⟨V0, hV0⟩ : ∃ V, V = w1.alloc (.cells #[.int .i64 W, .int .i64 H, .slice (some ⟨gq, 0, none⟩) m cq] 34) := ⟨_, rfl⟩
  have hA0 : PnA w W H sb fs (.slice A N c) bs bo (.slice (some ⟨gq, 0, none⟩) m cq) V0 := by
    rw [hV0]; exact ⟨(hZ.a.call hb).call hbx, (hZ.r.call hb).call hbx, ImAt.newAt hbo.symm _ _ _ _, belI_call (belI_call hZ.bw hb) hbx⟩
  have HP0 := Lib.hid hA0
  have HO : Hid (V0.ownsRow (w.heap.size + 2) 3 1 (.slice (some ⟨gq, 0, none⟩) m cq) m (intCells (pnL W D0 (fs.take 0)))) := Lib.hid (by
    rw [hV0]; exact (hown.mono (by omega)).alloc _)
  have Hsep : Hid ((∀ b ∈ bs, b < w.heap.size) ∧ w.heap.size + 1 < gq ∧ bo ≠ gq) := Lib.hid ⟨Hold.out, by omega, by omega⟩
  have HV0 := Lib.hid hV0
  have Hbo := Lib.hid hbo
  clear d0 d1 d2 d3
  obtain ⟨d0, d1, d2, d3⟩ := hA0.cells
  rw [hV0] at d0 d1 d2 d3
  clear hZ hb hown hbx hV0 hbo hg1 hg2 hz hz0 hA0
  go_wp2_with fail
  rw [← HV0.out, ← Hbo.out]
  clear d0 d1 d2 d3
  go_loopg [20] N (fun g4 s4 wr => ∃ (k : Nat) (V : World), V = wr ∧ k ≤ N ∧ g4 = N - k ∧ s4 = .int .i64 k ∧ Hid (PnA w W H sb fs (.slice A N c) bs bo (.slice (some ⟨gq, 0, none⟩) m cq) V) ∧ Hid (V.ownsRow (w.heap.size + 2) 3 1 (.slice (some ⟨gq, 0, none⟩) m cq) m (intCells (pnL W D0 (fs.take k)))))
  case atStart => exact ⟨0, _, rfl, Nat.zero_le _, by omega, rfl, HP0, HO⟩
  case round =>
    clear HP0 HO
    obtain ⟨k, V, hV, hk, rfl, rfl, HP, HO⟩ := hrel
    subst hV
    by_cases hlt : k < N
    · obtain ⟨g, f, d, hA1, hf, hC, hd⟩ := repSfs_at HP.out.a.r (k := k) (by dsimp only; rw [← HN.out]; exact hlt)
      dsimp only at hf
      subst hA1
      obtain ⟨Ad, cd, rfl⟩ := hd.form
      have Hf := Lib.hid hf
      have hsf := (Hs.out.2.2.2 k f hf).1
      have hD1 : (pnL W D0 (fs.take k)).length = m := by rw [pnL_len, ← Hm.out]
      obtain ⟨V1, hV1⟩ : ∃ V1, V1 = V.alloc (.cells #[.int .i64 f.id, .int .i64 f.x, .int .i64 f.y, .int .i64 f.w, .int .i64 f.h, .int .i64 f.alpha, .int .i64 f.orient, .bool f.vis, .int .i64 f.bw, .int .i64 f.bh, .slice Ad f.data.length cd] 86) := ⟨_, rfl⟩
      have hbx : Below V.heap.size V V1 := by rw [hV1]; exact belI_box _ _
      have HPS := Lib.hid (psfI W H f _ bo gq m cq (w.heap.size + 2) (pnL W D0 (fs.take k)) V1 ⟨wl, wh, hl, hh⟩ HmW.out hD1 hsf (hd.call hbx) (HP.out.o.call hbx) (ownI_call HO.out hbx) Hsep.out.2.2)
      have HP1 := Lib.hid (HP.out.call hbx)
      have HV1 := Lib.hid hV1
      obtain ⟨c0, c1, c2, c3, c4, c5, c6, c7, c8, c9, c10⟩ := hC
      have k0 : (0 : Int) ≤ (k : Int) := by omega
      have k1 : (k : Int) < (N : Int) := by omega
      clear hf hd hsf hD1 hbx hV1 HO HP
      go_wp2_with fail
      rw [← HV1.out]
      refine HPS.out.mono ?_
      rintro e w2 ⟨rfl, hg, hrow⟩
      clear c0 c1 c2 c3 c4 c5 c6 c7 c8 c9 c10
      have HP2 := Lib.hid (HP1.out.set Hsep.out hg)
      have HO2 : Hid (w2.ownsRow (w.heap.size + 2) 3 1 (.slice (some ⟨gq, 0, none⟩) m cq) m (intCells (pnL W D0 (fs.take (k + 1))))) := Lib.hid (by rw [pnL_take W D0 Hf.out]; exact hrow)
      clear hg hrow
      go_wp2_with fail
      go_roundg (N - (k + 1))
      case measure => omega
      case rel => exact ⟨k + 1, _, rfl, by omega, rfl, by go_num, HP2, HO2⟩
    · have hkN : k = N := by omega
      subst hkN
      obtain ⟨o0, o1, o2⟩ := HP.out.o.cells
      obtain ⟨r0, r1, r2⟩ := HP.out.r.cells
      have f0 := HP.out.r.frozen 0
      have f1 := HP.out.r.frozen 1
      have f2 := HP.out.r.frozen 2
      have HJ := Lib.hid (HP.out.r.set3 W H (.slice (some ⟨gq, 0, none⟩) m cq))
      have HB := Lib.hid HP.out.bw
      have hni : ¬ (k : Int) < (k : Int) := by omega
      clear HP
      go_wp2_with fail
      obtain ⟨s0, s1, s2⟩ := HJ.out.cells
      refine bodyPost_ret (v := .agg #[.int .i64 W, .int .i64 H, .slice (some ⟨gq, 0, none⟩) m cq]) (by simp [results, Tryz.results40, go_sem, s0, s1, s2]) rfl ?_
      rw [HA.out]
      have h := HO.out
      rw [List.take_of_length_le (by rw [← HN.out]; exact Nat.le_refl _)] at h
      exact ans_set h (by rw [pnL_len, Hm.out]) (by omega) (by omega) HB.out
theorem paI_no (s : Sn) (v : Value) (bs : List Nat) (w : World) (hs : ¬ snOk s) (h : repSfs.R w s.fs [v] bs) : Calls Tryz.prog 40 #[.agg #[.int .i64 s.w, .int .i64 s.h, .int .i64 s.back, v]] w (AnsIm (pnIm s) w) := by
  have hZ := PnZ.born h
  have HS := fun W h => snI s v bs W h
  unfold SnOkAns at HS
  obtain ⟨d0, d1, d2, d3⟩ := hZ.a.cells
  rw [snB_no hs] at HS
  have HA := Lib.hid (pnIm_no hs)
  have HS := Lib.hid HS
  clear h hs
  go_enter Tryz.func40, Tryz.ntmps40
  go_wp2_with fail
  refine (HS.out _ hZ.a.r).mono ?_
  rintro e w1 ⟨rfl, hb⟩
  replace hZ := hZ.call hb
  clear d0 d1 d2 d3 hb
  obtain ⟨r0, r1, r2⟩ := hZ.r.cells
  have f0 := hZ.r.frozen 0
  have f1 := hZ.r.frozen 1
  have f2 := hZ.r.frozen 2
  have HJ := Lib.hid (hZ.r.set3 0 0 (.slice none 0 0))
  have HB := Lib.hid hZ.bw
  clear hZ
  go_wp2_with fail
  obtain ⟨s0, s1, s2⟩ := HJ.out.cells
  exact bodyPost_ret (v := .agg #[.int .i64 0, .int .i64 0, .slice none 0 0]) (by simp [results, Tryz.results40, go_sem, s0, s1, s2]) rfl (by rw [HA.out]; exact pn_zero HB.out)
theorem paI (s : Sn) (v : Value) (bs : List Nat) (w : World) (h : repSfs.R w s.fs [v] bs) : Calls Tryz.prog 40 #[.agg #[.int .i64 s.w, .int .i64 s.h, .int .i64 s.back, v]] w (AnsIm (pnIm s) w) := by
  by_cases hs : snOk s
  · obtain ⟨x, y, b, fs⟩ := s
    obtain ⟨p, q, rfl, rfl, _⟩ := sz_nat (show szOk x y from hs.1)
    exact paI_ok p q b fs v bs w hs h
  · exact paI_no s v bs w hs h
end Go.Proofs.YtjjamdibgjeokaaGreat
