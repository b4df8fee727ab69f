/- Texts of mine in one file: EdS, PnP. No statement is proved here. -/
import Derived.Test.YtdgagooldlnpeaaGreatEdSav01
import Derived.Test.YtdgagooldlnpeaaGreatEdSbv01
import Derived.Test.YtdgagooldlnpeaaGreatEdScv01
import Derived.Test.YtdgagooldlnpeaaGreatB2sav01
import Derived.Test.YtdgagooldlnpeaaGreatMA
import Derived.Test.YtdgagooldlnpeaaGreatMC
import Derived.Test.YtdgagooldlnpeaaGreatMB
import Derived.Test.YtdgagooldlnpeaaGreatMAv013
import Derived.Test.YtdgagooldlnpeaaGreatCombIv013
import Derived.Test.YtdgagooldlnpeaaGreatMAv01
import Derived.Test.YtdgagooldlnpeaaGreatMBv01
import Derived.Test.YtdgagooldlnpeaaGreatMAv012
import Derived.Test.YtdgagooldlnpeaaGreatB2sa
import Derived.Test.YtdgagooldlnpeaaGreatB2sav013
import Derived.Test.YtdgagooldlnpeaaGreatB1sav013
import Derived.Test.YtdgagooldlnpeaaGreatPnI
import Derived.Test.YtdgagooldlnpeaaGreatB2sav012
import Derived.Test.YtdgagooldlnpeaaGreatMBv012
import Derived.Test.YtdgagooldlnpeaaGreatB3sa
import Derived.Test.YtdgagooldlnpeaaGreatPnSv012
import Derived.Test.YtdgagooldlnpeaaGreatSfP
import Derived.Test.YtdgagooldlnpeaaGreatSnDv01
import Derived.Test.YtdgagooldlnpeaaGreatB0na
import Derived.Test.YtdgagooldlnpeaaGreatSnS
import Derived.Test.YtdgagooldlnpeaaGreatProg
import Derived.WalkKit
import Derived.ProofKit
import Derived.OpenShut
import Derived.WalkLawsBesides
import Derived.WalkSpells
import Derived.ShutString
import Derived.ChangeOld
import Derived.Below
import Derived.Lib.Hide
import Derived.BigQuiet
import Derived.Deep.QuietTactic
import Derived.Maps.AppendAt
import Derived.Deep.OwnRows
import Derived.Handy
import Derived.Deep.Draws
import Derived.OwnWalk
import Derived.Deep.AppendLies
import Derived.Deep.LoopGhost
import Derived.Deep.Onto
import Derived.Deep.MidRow
import Derived.Deep.WholeRow
import Derived.Laws.BitsAllLaws
import Derived.Lib.QuoteBits
import Derived.Deep.RegionHeld3
import Derived.Deep.DeepCutAuto
import Derived.Test.YtdgagooldlnpeaaGreatShelf
import Derived.Laws.CopyOwn
import Derived.Deep.RegionLaw
import Derived.Great.BuildSlice
import Derived.Shelf.RegionOpenPlain
import Derived.Lib.SliceRun
import Derived.Deep.RegionWith
import Derived.Laws.AppendOwn
import Derived.Deep.CutBlock
import Derived.ChangeKeysEq
import Derived.Deep.DeepAppendRoom
namespace Go.Proofs.YtdgagooldlnpeaaGreat
open Go.RowKit
theorem doeS (s : Sn) (e : Ed) (v d : Value) (bs bd : List Nat) (w : World) (hm : sizFs s.fs ≤ 1048576) (hme : e.data.length ≤ 1048576) (h : repSfs.R w s.fs [v] bs) (hd : repInts.R w e.data [d] bd) :
  Calls Tryz.prog 76 #[.agg #[.int .i64 s.w, .int .i64 s.h, .int .i64 s.back, v], .agg #[.int .i64 e.kind, .int .i64 e.id, .int .i64 e.a, .int .i64 e.b, .int .i64 e.bw, .int .i64 e.bh, d]] w (EdAnsS s e w) := by
 by_cases ha : (e.kind = 0 ∨ e.kind = 1 ∨ e.kind = 2 ∨ e.kind = 6 ∨ e.kind = 10)
 ·exact doeS_a s e v d bs bd w ha hm hme h hd
 ·by_cases hb : (e.kind = 3 ∨ e.kind = 4 ∨ e.kind = 5 ∨ e.kind = 8)
  ·exact doeS_b s e v d bs bd w hb hm hme h hd
  ·exact doeS_c s e v d bs bd w (fun hc => hc.elim ha hb) hm hme h hd
end Go.Proofs.YtdgagooldlnpeaaGreat
namespace Go.Proofs.YtdgagooldlnpeaaGreat
open Go.RowKit
set_option maxHeartbeats 1000000 in
theorem paS (s : Sn) (v : Value) (bs : List Nat) (w : World) (h : repSfs.R w s.fs [v] bs) : Calls Tryz.prog 29 #[.agg #[.int .i64 s.w, .int .i64 s.h, .int .i64 s.back, v]] w (AnsIm (pnIm s) w) := by
 have hZ := PnZ.born h
 have HS := fun W h => snS s v bs W h
 unfold SnOkAns at HS
 obtain ⟨d0, d1, d2, d3⟩ := hZ.a.cells
 by_cases hs : snOk s
 ·rw [snB_yes hs] at HS
  have HL := Lib.hid (fun W h => l11S s v bs W hs h)
  unfold AnsIm at HL ⊢
  obtain ⟨I, hI⟩ : ∃ I, I = pnIm s := ⟨_, rfl⟩
  rw [← hI] at HL ⊢
  have HS := Lib.hid HS
  clear h hs hI
  go_enter Tryz.func29, Tryz.ntmps29
  go_wp2_with fail
  refine (HS.out _ hZ.a.r).mono ?_
  rintro e w1 ⟨rfl, hb⟩
  replace hZ := hZ.call hb
  clear d0 d1 d2 d3 hb
  obtain ⟨d0, d1, d2, d3⟩ := hZ.a.cells
  go_wp2_with fail
  refine (HL.out _ hZ.a.r).mono ?_
  rintro e w2 ⟨u, rfl, hown, hb⟩
  obtain ⟨A, c, rfl⟩ := ownI_shape hown
  have hz := hZ.r.lt
  replace hown := hown.mono (show w.heap.size + 2 ≤ _ by omega)
  replace hZ := hZ.call hb
  clear d0 d1 d2 d3 hb
  obtain ⟨r0, r1, r2⟩ := hZ.r.cells
  have f0 := hZ.r.frozen 0
  have f1 := hZ.r.frozen 1
  have f2 := hZ.r.frozen 2
  have HJ := Lib.hid (hZ.r.set3 I.w I.h (.slice A I.d.length c))
  have HB := Lib.hid hZ.bw
  have HO := Lib.hid hown
  clear hZ hown hz
  go_wp2_with fail
  obtain ⟨s0, s1, s2⟩ := HJ.out.cells
  exact bodyPost_ret (v := .agg #[.int .i64 I.w, .int .i64 I.h, .slice A I.d.length c]) (by simp [results, Tryz.results29, go_sem, s0, s1, s2]) rfl (ans_set HO.out rfl (by omega) (by omega) HB.out)
 ·rw [snB_no hs] at HS
  have HA := Lib.hid (pnIm_no hs)
  have HS := Lib.hid HS
  clear h hs
  go_enter Tryz.func29, Tryz.ntmps29
  go_wp2_with fail
  refine (HS.out _ hZ.a.r).mono ?_
  rintro e w1 ⟨rfl, hb⟩
  replace hZ := hZ.call hb
  clear d0 d1 d2 d3 hb
  obtain ⟨r0, r1, r2⟩ := hZ.r.cells
  have f0 := hZ.r.frozen 0
  have f1 := hZ.r.frozen 1
  have f2 := hZ.r.frozen 2
  have HJ := Lib.hid (hZ.r.set3 0 0 (.slice none 0 0))
  have HB := Lib.hid hZ.bw
  clear hZ
  go_wp2_with fail
  obtain ⟨s0, s1, s2⟩ := HJ.out.cells
  exact bodyPost_ret (v := .agg #[.int .i64 0, .int .i64 0, .slice none 0 0]) (by simp [results, Tryz.results29, go_sem, s0, s1, s2]) rfl (by rw [HA.out]; exact pn_zero HB.out)
end Go.Proofs.YtdgagooldlnpeaaGreat
