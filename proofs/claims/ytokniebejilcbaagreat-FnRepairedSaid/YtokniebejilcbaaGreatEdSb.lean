/- The walk of DoEdit of the model, for some kinds of edit. No statement is proved here. -/
import Derived.Test.YtokniebejilcbaaGreatMA
import Derived.Test.YtokniebejilcbaaGreatMC
import Derived.Test.YtokniebejilcbaaGreatMB
import Derived.Test.YtokniebejilcbaaGreatSnO
import Derived.Test.YtokniebejilcbaaGreatSnS
import Derived.Test.YtokniebejilcbaaGreatSlA
import Derived.Test.YtokniebejilcbaaGreatSnD
import Derived.Test.YtokniebejilcbaaGreatEdH
import Derived.Test.YtokniebejilcbaaGreatEdW
import Derived.Test.YtokniebejilcbaaGreatEdQ
import Derived.Test.YtokniebejilcbaaGreatProg
import Derived.WalkKit
import Derived.ProofKit
import Derived.OpenShut
import Derived.WalkLawsBesides
import Derived.WalkSpells
import Derived.ShutString
import Derived.ChangeOld
import Derived.Below
import Derived.Lib.Hide
import Derived.BigQuiet
import Derived.Deep.QuietTactic
import Derived.Maps.AppendAt
import Derived.Deep.OwnRows
import Derived.Handy
import Derived.Deep.Draws
import Derived.OwnWalk
import Derived.Deep.AppendLies
import Derived.Deep.LoopGhost
import Derived.Deep.Onto
import Derived.Deep.MidRow
import Derived.Deep.WholeRow
import Derived.Laws.BitsAllLaws
import Derived.Lib.QuoteBits
import Derived.Deep.RegionHeld3
import Derived.Deep.DeepCutAuto
import Derived.Test.YtokniebejilcbaaGreatShelf
import Derived.Laws.CopyOwn
import Derived.Deep.RegionLaw
import Derived.Great.BuildSlice
import Derived.Shelf.RegionOpenPlain
import Derived.Lib.SliceRun
import Derived.Deep.RegionWith
import Derived.Laws.AppendOwn
import Derived.Deep.CutBlock
namespace Go.Proofs.YtokniebejilcbaaGreat
open Go.RowKit
set_option maxHeartbeats 20000000 in
set_option maxRecDepth 100000 in
theorem doeS_b (s : Sn) (e : Ed) (v d : Value) (bs bd : List Nat) (w : World) (hgr : (e.kind = 3 ∨ e.kind = 4 ∨ e.kind = 5 ∨ e.kind = 8)) (hm : sizFs s.fs ≤ 1048576) (hme : e.data.length ≤ 1048576) (h : repSfs.R w s.fs [v] bs) (hd : repInts.R w e.data [d] bd) :
  Calls Tryz.prog 64 #[.agg #[.int .i64 s.w, .int .i64 s.h, .int .i64 s.back, v], .agg #[.int .i64 e.kind, .int .i64 e.id, .int .i64 e.a, .int .i64 e.b, .int .i64 e.bw, .int .i64 e.bh, d]] w (EdAnsS s e w) := by
 have Hgr := Lib.hid hgr
 clear hgr
 have hold : (∀ b ∈ bs, b < w.heap.size) ∧ ∀ q, d.ownBlock = some q → q < w.heap.size := ⟨fun b hb => repSfs.ex h b hb, fun q hq => repInts.ex hd q (by
  obtain ⟨v', e1, _, e2⟩ := hd
  obtain rfl : d = v' := by simpa using e1
  rw [e2, hq]; simp)⟩
 have hrd := repInts_rd hd
 have hB0 : EdB w s v bs e d (((w.alloc (.cells #[.int .i64 s.w, .int .i64 s.h, .int .i64 s.back, v] 34)).alloc (.cells #[.int .i64 e.kind, .int .i64 e.id, .int .i64 e.a, .int .i64 e.b, .int .i64 e.bw, .int .i64 e.bh, d] 94)).alloc (.cells #[.int .i64 0, .int .i64 0, .int .i64 0, .slice none 0 0] 34)) :=
  ⟨((SnA.born h).call (belI_box _ _)).call (belI_box _ _), (BkAt.newAt (by simp) _ _).alloc _, ((hrd.alloc _).alloc _).alloc _, BkAt.newAt (by simp) _ _, belI_call (belI_call (belI_box _ _) (belI_box _ _)) (belI_box _ _)⟩
 obtain ⟨⟨A, c, rfl⟩, _⟩ := repSfs_form h
 obtain ⟨Ad, cd, rfl⟩ := hrd.form
 obtain ⟨n, hn⟩ : ∃ n, n = s.fs.length := ⟨_, rfl⟩
 have hn2 : n ≤ 1048576 := by unfold sizFs at hm; omega
 obtain ⟨W0, hW0⟩ : ∃ W, W = ((w.alloc (.cells #[.int .i64 s.w, .int .i64 s.h, .int .i64 s.back, .slice A s.fs.length c] 34)).alloc (.cells #[.int .i64 e.kind, .int .i64 e.id, .int .i64 e.a, .int .i64 e.b, .int .i64 e.bw, .int .i64 e.bh, .slice Ad e.data.length cd] 94)).alloc (.cells #[.int .i64 0, .int .i64 0, .int .i64 0, .slice none 0 0] 34) := ⟨_, rfl⟩
 rw [← hW0] at hB0
 have HW0 := Lib.hid hW0
 have HC := Lib.hid (copySn s _ bs W0 (by omega) hB0.a.r)
 have HC2 := Lib.hid (fun W h => copySn s (.slice A s.fs.length c) bs W (by omega) h)
 have HI := Lib.hid (fun W h => idxS s e.id (.slice A s.fs.length c) bs W h)
 have HSO := fun W h => snS s (.slice A s.fs.length c) bs W h
 unfold IdxAns at HI
 unfold SnOkAns at HSO
 obtain ⟨q, hq⟩ : ∃ q, q = idxF s.fs e.id := ⟨_, rfl⟩
 rw [← hq] at HI
 rw [← hn] at HC HC2 HI HSO hB0 HW0 ⊢
 have Hq := Lib.hid hq
 have Hn := Lib.hid hn
 have Hold := Lib.hid hold
 have Hme := Lib.hid hme
 have hsz3 : w.heap.size + 3 ≤ W0.heap.size := hB0.r.lt
 have hT0 := hB0
 clear hd hrd h hold hW0 hB0 hm hme hn hq
 obtain ⟨d0, d1, d2, d3⟩ := hT0.a.cells
 rw [HW0.out] at d0 d1 d2 d3
 go_enter Tryz.func64, Tryz.ntmps64
 go_wp2_with fail
 rw [← HW0.out]
 clear d0 d1 d2 d3
 refine HC.out.mono ?_
 rintro e1 w1 ⟨u, bu0, rfl, hU, hb⟩
 obtain ⟨Au, cu, hu⟩ := (repSfs_form hU.r).1
 subst hu
 rw [← Hn.out] at hU ⊢
 replace hT0 := hT0.call hb
 obtain ⟨bu, hH, hbl⟩ := HalfU.of_own hU
 obtain ⟨bo, hbo⟩ : ∃ b, b = w1.heap.size := ⟨_, rfl⟩
 have hEO : EdO w bs (.slice Ad e.data.length cd) bo (.slice Au n cu) bu := ⟨Hold.out, by have := hb.size; omega, fun q hq => ⟨by have := repSfs.ex hH.r q (List.mem_append.2 (.inl (by rw [hq]; simp))); omega, by have := hH.lo q hq; omega⟩, fun b hb' => ⟨by have := hH.lt b hb'; omega, by have := hbl b hb'; omega⟩⟩
 have hbx := belI_box w1 (.cells #[.int .i64 s.w, .int .i64 s.h, .int .i64 s.back, .slice Au n cu] 34)
 obtain ⟨V1, hV1⟩ : ∃ W, W = w1.alloc (.cells #[.int .i64 s.w, .int .i64 s.h, .int .i64 s.back, .slice Au n cu] 34) := ⟨_, rfl⟩
 have hT : EdW w s (.slice A n c) bs e (.slice Ad e.data.length cd) bo (.slice Au n cu) bu V1 := by
  rw [hV1]; exact ⟨hT0.call hbx, BkAt.newAt hbo.symm _ _, (hH.call hbx).mono hsz3⟩
 have hOwn : repSfs.Own (w.heap.size + 3) V1 s.fs [.slice Au n cu] bu0 := by rw [hV1]; exact (hU.call hbx).mono hsz3
 have HEO := Lib.hid hEO
 have HOwn := Lib.hid hOwn
 have HV1 := Lib.hid hV1
 have Hbo := Lib.hid hbo
 clear hT0 hH hbl hU hb hbx hEO hOwn HC
 obtain ⟨d0, d1, d2, d3⟩ := hT.o.a.cells
 have x0 := hT.o.x.cell 0 rfl
 have x1 := hT.o.x.cell 1 rfl
 have x2 := hT.o.x.cell 2 rfl
 have x3 := hT.o.x.cell 3 rfl
 have x4 := hT.o.x.cell 4 rfl
 have x5 := hT.o.x.cell 5 rfl
 have x6 := hT.o.x.cell 6 rfl
 rw [hV1] at d0 d1 d2 d3 x0 x1 x2 x3 x4 x5 x6
 clear hV1 hbo
 go_wp2_with fail
 rw [← HV1.out, ← Hbo.out]
 clear d0 d1 d2 d3 x0 x1 x2 x3 x4 x5 x6
 refine (HI.out _ hT.o.a.r).mono ?_
 rintro e1 w2 ⟨rfl, hb⟩
 replace hT := hT.call hb
 replace HOwn := Lib.hid (HOwn.out.call hb)
 clear hb
 go_upto_region 3 with fail
 go_cut [38] (fun s38 wx => ∃ V, V = wx ∧ ∃ g : Bool, s38 = .bool g ∧ Hid (g = true ↔ ¬ (snOk s ∧ edOk s e)) ∧ EdW w s (.slice A n c) bs e (.slice Ad e.data.length cd) bo (.slice Au n cu) bu V ∧ Hid (repSfs.Own (w.heap.size + 3) V s.fs [.slice Au n cu] bu0))
 case first =>
  by_cases hs : snOk s
  ·rw [snB_yes hs] at HSO
   have Hs := Lib.hid hs
   have HSO := Lib.hid HSO
   clear hs
   obtain ⟨d0, d1, d2, d3⟩ := hT.o.a.cells
   have x0 := hT.o.x.cell 0 rfl
   have x1 := hT.o.x.cell 1 rfl
   have x2 := hT.o.x.cell 2 rfl
   have x3 := hT.o.x.cell 3 rfl
   have x4 := hT.o.x.cell 4 rfl
   have x5 := hT.o.x.cell 5 rfl
   have x6 := hT.o.x.cell 6 rfl
   go_wp2_with fail
   clear d0 d1 d2 d3 x0 x1 x2 x3 x4 x5 x6
   refine (HSO.out _ hT.o.a.r).mono ?_
   rintro e1 w3 ⟨rfl, hb⟩
   replace hT := hT.call hb
   replace HOwn := Lib.hid (HOwn.out.call hb)
   clear hb
   by_cases hk : 0 ≤ e.kind ∧ e.kind ≤ 10
   ·have Hk := Lib.hid hk
    clear hk
    by_cases hx : 0 ≤ q
    ·have Hy := Lib.hid (show snOk s ∧ edOk s e from ⟨Hs.out, Hk.out, .inr (.inr (by rw [← Hq.out]; exact hx))⟩)
     have hxf : ¬ q < 0 := by omega
     obtain ⟨d0, d1, d2, d3⟩ := hT.o.a.cells
     have x0 := hT.o.x.cell 0 rfl
     have x1 := hT.o.x.cell 1 rfl
     have x2 := hT.o.x.cell 2 rfl
     have x3 := hT.o.x.cell 3 rfl
     have x4 := hT.o.x.cell 4 rfl
     have x5 := hT.o.x.cell 5 rfl
     have x6 := hT.o.x.cell 6 rfl
     go_wp2_with fail
     refine (inS_yes _ _ _ _ Hk.out.1 Hk.out.2).mono ?_
     rintro e1 w' ⟨rfl, rfl⟩
     go_wp2_with fail
     go_meet
     case rel => exact ⟨_, rfl, false, rfl, Lib.hid (by simpa using Hy.out), hT, HOwn⟩
    ·have hxf : q < 0 := by omega
     clear hx
     by_cases h0 : e.kind = 0
     ·have Hy := Lib.hid (show snOk s ∧ edOk s e from ⟨Hs.out, Hk.out, .inl h0⟩)
      have b0 : (e.kind != 0) = false := by simp [h0]
      clear h0
      obtain ⟨d0, d1, d2, d3⟩ := hT.o.a.cells
      have x0 := hT.o.x.cell 0 rfl
      have x1 := hT.o.x.cell 1 rfl
      have x2 := hT.o.x.cell 2 rfl
      have x3 := hT.o.x.cell 3 rfl
      have x4 := hT.o.x.cell 4 rfl
      have x5 := hT.o.x.cell 5 rfl
      have x6 := hT.o.x.cell 6 rfl
      go_wp2_with fail
      refine (inS_yes _ _ _ _ Hk.out.1 Hk.out.2).mono ?_
      rintro e1 w' ⟨rfl, rfl⟩
      go_wp2_with fail
      go_meet
      case rel => exact ⟨_, rfl, false, rfl, Lib.hid (by simpa using Hy.out), hT, HOwn⟩
     ·by_cases h10 : e.kind = 10
      ·have Hy := Lib.hid (show snOk s ∧ edOk s e from ⟨Hs.out, Hk.out, .inr (.inl h10)⟩)
       have b0 : (e.kind != 0) = true := by simp [h0]
       have b1 : (e.kind != 10) = false := by simp [h10]
       clear h10
       obtain ⟨d0, d1, d2, d3⟩ := hT.o.a.cells
       have x0 := hT.o.x.cell 0 rfl
       have x1 := hT.o.x.cell 1 rfl
       have x2 := hT.o.x.cell 2 rfl
       have x3 := hT.o.x.cell 3 rfl
       have x4 := hT.o.x.cell 4 rfl
       have x5 := hT.o.x.cell 5 rfl
       have x6 := hT.o.x.cell 6 rfl
       go_wp2_with fail
       refine (inS_yes _ _ _ _ Hk.out.1 Hk.out.2).mono ?_
       rintro e1 w' ⟨rfl, rfl⟩
       go_wp2_with fail
       go_meet
       case rel => exact ⟨_, rfl, false, rfl, Lib.hid (by simpa using Hy.out), hT, HOwn⟩
      ·have Hy := Lib.hid (show ¬ (snOk s ∧ edOk s e) from fun h => by rcases h.2.2 with h1 | h1 | h1; exact h0 h1; exact h10 h1; have := Hq.out; omega)
       have b0 : (e.kind != 0) = true := by simp [h0]
       have b1 : (e.kind != 10) = true := by simp [h10]
       obtain ⟨d0, d1, d2, d3⟩ := hT.o.a.cells
       have x0 := hT.o.x.cell 0 rfl
       have x1 := hT.o.x.cell 1 rfl
       have x2 := hT.o.x.cell 2 rfl
       have x3 := hT.o.x.cell 3 rfl
       have x4 := hT.o.x.cell 4 rfl
       have x5 := hT.o.x.cell 5 rfl
       have x6 := hT.o.x.cell 6 rfl
       go_wp2_with fail
       refine (inS_yes _ _ _ _ Hk.out.1 Hk.out.2).mono ?_
       rintro e1 w' ⟨rfl, rfl⟩
       go_wp2_with fail
       go_meet
       case rel => exact ⟨_, rfl, true, rfl, Lib.hid (by simpa using Hy.out), hT, HOwn⟩
   ·have Hy := Lib.hid (show ¬ (snOk s ∧ edOk s e) from fun h => hk h.2.1)
    have Hk := Lib.hid (show e.kind < 0 ∨ 10 < e.kind by omega)
    clear hk
    obtain ⟨d0, d1, d2, d3⟩ := hT.o.a.cells
    have x0 := hT.o.x.cell 0 rfl
    have x1 := hT.o.x.cell 1 rfl
    have x2 := hT.o.x.cell 2 rfl
    have x3 := hT.o.x.cell 3 rfl
    have x4 := hT.o.x.cell 4 rfl
    have x5 := hT.o.x.cell 5 rfl
    have x6 := hT.o.x.cell 6 rfl
    go_wp2_with fail
    refine (inS_no _ _ _ _ Hk.out).mono ?_
    rintro e1 w' ⟨rfl, rfl⟩
    go_wp2_with fail
    go_meet
    case rel => exact ⟨_, rfl, true, rfl, Lib.hid (by simpa using Hy.out), hT, HOwn⟩
  ·rw [snB_no hs] at HSO
   have HSO := Lib.hid HSO
   have Hy := Lib.hid (show ¬ (snOk s ∧ edOk s e) from fun h => hs h.1)
   clear hs
   obtain ⟨d0, d1, d2, d3⟩ := hT.o.a.cells
   have x0 := hT.o.x.cell 0 rfl
   have x1 := hT.o.x.cell 1 rfl
   have x2 := hT.o.x.cell 2 rfl
   have x3 := hT.o.x.cell 3 rfl
   have x4 := hT.o.x.cell 4 rfl
   have x5 := hT.o.x.cell 5 rfl
   have x6 := hT.o.x.cell 6 rfl
   go_wp2_with fail
   clear d0 d1 d2 d3 x0 x1 x2 x3 x4 x5 x6
   refine (HSO.out _ hT.o.a.r).mono ?_
   rintro e1 w3 ⟨rfl, hb⟩
   replace hT := hT.call hb
   replace HOwn := Lib.hid (HOwn.out.call hb)
   clear hb
   obtain ⟨d0, d1, d2, d3⟩ := hT.o.a.cells
   have x0 := hT.o.x.cell 0 rfl
   have x1 := hT.o.x.cell 1 rfl
   have x2 := hT.o.x.cell 2 rfl
   have x3 := hT.o.x.cell 3 rfl
   have x4 := hT.o.x.cell 4 rfl
   have x5 := hT.o.x.cell 5 rfl
   have x6 := hT.o.x.cell 6 rfl
   go_wp2_with fail
   go_meet
   case rel => exact ⟨_, rfl, true, rfl, Lib.hid (by simpa using Hy.out), hT, HOwn⟩
 case rest =>
  clear hT HOwn
  obtain ⟨V2, hV2, g, rfl, HG, hT, HOwn⟩ := hcut
  subst hV2
  cases g
  case true =>
   have HDE := Lib.hid (doE_no (s := s) (e := e) fun h => HG.out.1 rfl ⟨h.1, h.2.1⟩)
   obtain ⟨o0, o1, o2, o3⟩ := hT.b.cells4
   obtain ⟨r0, r1, r2, r3⟩ := hT.o.r.cells4
   have fr0 := hT.o.r.frozen 0
   have fr1 := hT.o.r.frozen 1
   have fr2 := hT.o.r.frozen 2
   have fr3 := hT.o.r.frozen 3
   have HJ := Lib.hid (hT.o.r.all4 (.int .i64 s.w) (.int .i64 s.h) (.int .i64 s.back) (.slice Au n cu))
   have HBw := Lib.hid hT.o.bw
   clear hT
   go_wp2_with fail
   obtain ⟨y0, y1, y2, y3⟩ := HJ.out.cells4
   exact edRet HDE.out HBw.out HOwn.out (by simp [results, Tryz.results64, go_sem, y0, y1, y2, y3])
  case false =>
   have Hok := Lib.hid (show snOk s ∧ edOk s e from Classical.byContradiction fun h => by have := HG.out.2 h; cases this)
   clear HG HOwn
   obtain ⟨br, hbr⟩ : ∃ b, b = V2.heap.size := ⟨_, rfl⟩
   obtain ⟨V3, hV3⟩ : ∃ W, W = V2.alloc (.cells #[.int .i64 0, .int .i64 0, .int .i64 0, .slice none 0 0] 34) := ⟨_, rfl⟩
   have HR0 := Lib.hid (show BkAt V3 br 34 #[.int .i64 0, .int .i64 0, .int .i64 0, .slice none 0 0] by rw [hV3]; exact BkAt.newAt hbr.symm _ _)
   have hbb := hT.b.lt
   have hbr2 : bo < br := by omega
   have HT3 := Lib.hid (show EdW w s (.slice A n c) bs e (.slice Ad e.data.length cd) bo (.slice Au n cu) bu V3 by rw [hV3]; exact hT.call (belI_box _ _))
   have HV3 := Lib.hid hV3
   have Hbr := Lib.hid hbr
   clear hT hV3 hbb hbr
   go_upto_block 0 with fail
   rw [← HV3.out, ← Hbr.out]
   go_cut [9] (fun s9 wx => ∃ V, V = wx ∧ ∃ (v2 : Value) (b2 : List Nat), EdW w s (.slice A n c) bs e (.slice Ad e.data.length cd) bo (.slice Au n cu) bu V ∧ BkAt V br 34 #[.int .i64 0, .int .i64 0, .int .i64 0, v2] ∧ Hid (HalfU (w.heap.size + 3) V (rsL q s.fs n) v2 b2 ∧ (∀ x ∈ b2, x ∈ bu) ∧ ∀ p, Value.ownBlock v2 = some p → br < p))
   case first =>
    go_wp2_with fail
    go_loopw [9] (fun s9 wr => ∃ V, V = wr ∧ ∃ (i : Nat) (v2 : Value) (b2 : List Nat), i ≤ n ∧ s9 = .int .i64 i ∧ EdW w s (.slice A n c) bs e (.slice Ad e.data.length cd) bo (.slice Au n cu) bu V ∧ BkAt V br 34 #[.int .i64 0, .int .i64 0, .int .i64 0, v2] ∧ Hid (HalfU (w.heap.size + 3) V (rsL q s.fs i) v2 b2 ∧ (∀ x ∈ b2, x ∈ bu) ∧ ∀ p, Value.ownBlock v2 = some p → br < p)) (fun s9 _ => n - (intOf s9).toNat)
    case atStart => exact ⟨_, rfl, 0, .slice none 0 0, [], by omega, rfl, HT3.out, HR0.out, Lib.hid ⟨by rw [rs_zero]; exact HalfU.nil _ _, by simp, by simp [Value.ownBlock]⟩⟩
    case round =>
     clear HT3 HR0
     obtain ⟨V, hV, i, v2, b2, hi, rfl, hT, hR, HU⟩ := hrel
     subst hV
     obtain ⟨A2, c2, hv2⟩ := HU.out.1.form
     subst hv2
     have Hml := Lib.hid (rsl_len q s.fs i)
     obtain ⟨m, hm⟩ : ∃ m, m = (rsL q s.fs i).length := ⟨_, rfl⟩
     rw [← hm] at hR HU Hml
     have Hm := Lib.hid hm
     clear hm
     obtain ⟨o0, o1, o2, o3⟩ := hT.b.cells4
     by_cases hlt : i < n
     ·have k0 : (0 : Int) ≤ (i : Int) := by omega
      have k1 : (i : Int) < (n : Int) := by omega
      obtain ⟨g, f, d1, b1, hA, hf, hC, hr1, hb1⟩ := hT.h.at_ (k := i) (by rw [← Hn.out]; exact hlt)
      by_cases hq0 : 0 ≤ q
      ·by_cases hik : (i : Int) = q
       ·have hE := Lib.hid (rs_eq hf hik)
        have bq : ((i : Int) != q) = false := by simp [hik]
        clear hik hf hC hr1 hb1 hA
        go_wp2_with fail
        go_roundw
        case rel => exact ⟨_, rfl, i + 1, .slice A2 m c2, b2, by omega, by go_num, hT, hR, by rw [hE.out]; exact HU⟩
        case measure => simp [intOf]; omega
       ·have hE := Lib.hid (rs_ne hq0 hf hik)
        have bq : ((i : Int) != q) = true := by simp [hik]
        subst hA
        obtain ⟨Af, cf, hd1⟩ := sf_form hr1
        subst hd1
        have hI : EdX w s (.slice A n c) bs e (.slice Ad e.data.length cd) bo (.slice (some ⟨g, 0, none⟩) n cu) bu g i f (.slice Af f.data.length cf) b1 V := ⟨hT, hC, hr1⟩
        have Hgb := Lib.hid (show g < bo ∧ ∀ b ∈ b1, b < bo from ⟨(HEO.out.ub g rfl).1, fun b hb => (HEO.out.bb b (hb1 b hb)).1⟩)
        have Hb1 := Lib.hid hb1
        clear hf hC hr1 hT hik hb1
        go_upto_region 10 with fail
        clear o0 o1 o2 o3
        refine wp_region_held_drew (S := fun W => EdX w s (.slice A n c) bs e (.slice Ad e.data.length cd) bo (.slice (some ⟨g, 0, none⟩) n cu) bu g i f (.slice Af f.data.length cf) b1 W) (by kernel_rfl) (hI.call (belI_drew _)) (fun hS => ?_)
        have hOw := HU.out.1.call (belI_drew _)
        have hOb := hR.call (belI_drew _)
        refine tcH (i := 0) (v := .pointer (some ⟨br, 3, none⟩)) rfl (by intro w' hSw; (try dsimp only at hSw); (obtain ⟨o0, o1, o2, o3⟩ := hSw.o.b.cells4); (obtain ⟨c0, c1, c2, c3, c4, c5, c6, c7, c8, c9, c10⟩ := hSw.c); go_simp) ?_
        refine tcH (i := 2) (v := .pointer (some ⟨bo, 3, none⟩)) rfl (by intro w' hSw; (try dsimp only at hSw); (obtain ⟨o0, o1, o2, o3⟩ := hSw.o.b.cells4); (obtain ⟨c0, c1, c2, c3, c4, c5, c6, c7, c8, c9, c10⟩ := hSw.c); go_simp) ?_
        refine tcH (i := 3) (v := .slice (some ⟨g, 0, none⟩) n cu) rfl (by intro w' hSw; (try dsimp only at hSw); (obtain ⟨o0, o1, o2, o3⟩ := hSw.o.b.cells4); (obtain ⟨c0, c1, c2, c3, c4, c5, c6, c7, c8, c9, c10⟩ := hSw.c); go_simp) ?_
        refine tcH (i := 4) (v := .int .i64 (i : Int)) rfl (by intro w' hSw; (try dsimp only at hSw); (obtain ⟨o0, o1, o2, o3⟩ := hSw.o.b.cells4); (obtain ⟨c0, c1, c2, c3, c4, c5, c6, c7, c8, c9, c10⟩ := hSw.c); go_simp) ?_
        refine tcH (i := 5) (v := .pointer (some ⟨g, i * 11, none⟩)) rfl (by intro w' hSw; (try dsimp only at hSw); (obtain ⟨o0, o1, o2, o3⟩ := hSw.o.b.cells4); (obtain ⟨c0, c1, c2, c3, c4, c5, c6, c7, c8, c9, c10⟩ := hSw.c); go_simp) ?_
        refine tcH (i := 6) (v := .agg #[.int .i64 f.id, .int .i64 f.x, .int .i64 f.y, .int .i64 f.w, .int .i64 f.h, .int .i64 f.alpha, .int .i64 f.orient, .bool f.vis, .int .i64 f.bw, .int .i64 f.bh, .slice Af f.data.length cf]) rfl (by intro w' hSw; (try dsimp only at hSw); (obtain ⟨o0, o1, o2, o3⟩ := hSw.o.b.cells4); (obtain ⟨c0, c1, c2, c3, c4, c5, c6, c7, c8, c9, c10⟩ := hSw.c); go_simp) ?_
        (try simp only [Act.put]); (try simp only [zPa]); (try simp only [zPb, zPc])
        refine wpAnyH_ready (rs := [1, 7]) (by kernel_rfl) (by simp) ?_
        refine (AllReadyH.cons rfl (fun K hK => ?_) (AllReadyH.cons rfl (fun K hK => ?_) AllReadyH.nil))
        ·rw [if_pos (by kernel_rfl)]
         (try simp only [zGa]); (try simp only [zGb]); (try simp only [zGc])
         have m3 := hOb.cell 3 rfl
         go_simp
         skip
         skip
         clear m3
         refine hK.out _ _ (hS) (fun hS => ?_)
         clear hK
         (try simp only [Act.put]); (try simp only [zPa]); (try simp only [zPb, zPc])
         refine wpAnyH_ready (rs := [7]) (by kernel_rfl) (by simp) ?_
         refine (AllReadyH.cons rfl (fun K hK => ?_) AllReadyH.nil)
         ·rw [if_pos (by kernel_rfl)]
          (try simp only [zGa]); (try simp only [zGb]); (try simp only [zGc])
          have hex := fun b hb => repSf.ex hS.r b hb
          refine wp_build_sf 62 (.tmp 61) f (.slice Af f.data.length cf) rfl (by first | with_reducible rfl | (go_simp; done) | rfl) rfl ?_
          intro g8 W' hb hG8 hg8
          have hn8 : g8 ∉ b1 := fun h => by have := hex _ h; omega
          clear hex
          have hOw := hOw.call hb
          have hOb := hOb.call hb
          refine hK.out _ _ (hS.call hb) (fun hS => ?_)
          clear hK
          (try simp only [Act.put]); (try simp only [zPa]); (try simp only [zPb, zPc])
          refine wpAnyH_ready (rs := [8]) (by kernel_rfl) (by simp) ?_
          refine (AllReadyH.cons rfl (fun K hK => ?_) AllReadyH.nil)
          ·rw [if_pos (by kernel_rfl)]
           (try simp only [zGa]); (try simp only [zGb]); (try simp only [zGc])
           have hlo8 : w.heap.size + 3 ≤ _ := Nat.le_trans HEO.out.lo (Nat.le_trans (Nat.le_of_lt hbr2) (Nat.le_of_lt hOb.lt))
           refine wp_append_half (.tmp 56) (.tmp 62) rfl (w.heap.size + 3) g8 (.slice A2 m c2) (.slice (some ⟨g8, 0, none⟩) 1 1) (rsL q s.fs i) [f] b2 b1 (by first | with_reducible rfl | (go_simp; done) | rfl) hOw (by first | with_reducible rfl | (go_simp; done) | rfl) (half_one hG8 hS.r hn8) (fun b hb e => by have := Hgb.out.2 b hb; have := HU.out.2.2 b (by simpa using e); omega) (by have := Hml.out; have := Hm.out; have := Hn.out; simp only [List.length_singleton]; omega) hlo8 ?_
           intro v9 bs9 W9 hH9 hg9 hs9 hq9 hv9
           have hbk9 : ∀ p, v9.ownBlock = some p → br < p := fun p hp => hq9.elim (fun h9 => HU.out.2.2 p (by rw [← h9]; exact hp)) (fun h9 => by rw [h9] at hp; have := Option.some.inj hp; have := hOb.lt; omega)
           have hob9 := hOb.grown hg9 (fun e => by have := HU.out.2.2 _ e.symm; omega)
           have hsb9 : ∀ x ∈ bs9, x ∈ bu := fun x hx => (hs9 x hx).elim (fun h9 => HU.out.2.1 x h9) (fun h9 => Hb1.out x h9)
           rw [← Hm.out] at hv9
           obtain ⟨A9, c9, hv9⟩ := hv9
           subst hv9
           clear hs9 hq9 hlo8
           skip
           skip
           skip
           refine hK.out _ _ (hS.set HEO.out Hgb.out hg9 (fun q e => by have := HU.out.2.2 q e; omega)) (fun hS => ?_)
           clear hK
           (try simp only [Act.put]); (try simp only [zPa]); (try simp only [zPb, zPc])
           refine tcH (i := 9) (v := .pointer (some ⟨br, 3, none⟩)) rfl (by intro w' hSw; (try dsimp only at hSw); (obtain ⟨o0, o1, o2, o3⟩ := hSw.o.b.cells4); (obtain ⟨c0, c1, c2, c3, c4, c5, c6, c7, c8, c9, c10⟩ := hSw.c); go_simp) ?_
           (try simp only [Act.put]); (try simp only [zPa]); (try simp only [zPb, zPc])
           refine wpAnyH_ready (rs := [10]) (by kernel_rfl) (by simp) ?_
           refine (AllReadyH.cons rfl (fun K hK => ?_) AllReadyH.nil)
           ·rw [if_pos (by kernel_rfl)]
            (try simp only [zGa]); (try simp only [zGb]); (try simp only [zGc])
            have m3 := hob9.cell 3 rfl
            have fz3 := hob9.frozen 3
            go_simp
            skip
            skip
            skip
            clear m3 fz3
            refine hK.out _ _ (hS.set HEO.out Hgb.out (grown_setB _ br 3 _) (fun q e => by have := Option.some.inj e; omega)) (fun hS => ?_)
            clear hK
            (try simp only [Act.put]); (try simp only [zPa]); (try simp only [zPb, zPc])
            refine wpAnyH_done (by kernel_rfl) ?_ _
            go_wp2_with fail
            go_roundw
            case rel => exact ⟨_, rfl, i + 1, .slice A9 (m + 1) c9, bs9, by omega, by go_num, hS.o, hob9.put 3 _ rfl, Lib.hid ⟨by rw [hE.out]; exact hH9.chg (Chg.of_grown (grown_setB _ br 3 _)) (fun p hp e => by have := hbk9 p hp; have : p = br := (by simpa using e); omega) (fun x hx e => by have := (HEO.out.bb x (hsb9 x hx)).1; have : x = br := (by simpa using e); omega), hsb9, hbk9⟩⟩
            case measure => simp [intOf]; omega
        ·rw [if_pos (by kernel_rfl)]
         (try simp only [zGa]); (try simp only [zGb]); (try simp only [zGc])
         have hex := fun b hb => repSf.ex hS.r b hb
         refine wp_build_sf 62 (.tmp 61) f (.slice Af f.data.length cf) rfl (by first | with_reducible rfl | (go_simp; done) | rfl) rfl ?_
         intro g8 W' hb hG8 hg8
         have hn8 : g8 ∉ b1 := fun h => by have := hex _ h; omega
         clear hex
         have hOw := hOw.call hb
         have hOb := hOb.call hb
         refine hK.out _ _ (hS.call hb) (fun hS => ?_)
         clear hK
         (try simp only [Act.put]); (try simp only [zPa]); (try simp only [zPb, zPc])
         refine wpAnyH_ready (rs := [1]) (by kernel_rfl) (by simp) ?_
         refine (AllReadyH.cons rfl (fun K hK => ?_) AllReadyH.nil)
         ·rw [if_pos (by kernel_rfl)]
          (try simp only [zGa]); (try simp only [zGb]); (try simp only [zGc])
          have m3 := hOb.cell 3 rfl
          go_simp
          skip
          skip
          skip
          clear m3
          refine hK.out _ _ (hS) (fun hS => ?_)
          clear hK
          (try simp only [Act.put]); (try simp only [zPa]); (try simp only [zPb, zPc])
          refine wpAnyH_ready (rs := [8]) (by kernel_rfl) (by simp) ?_
          refine (AllReadyH.cons rfl (fun K hK => ?_) AllReadyH.nil)
          ·rw [if_pos (by kernel_rfl)]
           (try simp only [zGa]); (try simp only [zGb]); (try simp only [zGc])
           have hlo8 : w.heap.size + 3 ≤ _ := Nat.le_trans HEO.out.lo (Nat.le_trans (Nat.le_of_lt hbr2) (Nat.le_of_lt hOb.lt))
           refine wp_append_half (.tmp 56) (.tmp 62) rfl (w.heap.size + 3) g8 (.slice A2 m c2) (.slice (some ⟨g8, 0, none⟩) 1 1) (rsL q s.fs i) [f] b2 b1 (by first | with_reducible rfl | (go_simp; done) | rfl) hOw (by first | with_reducible rfl | (go_simp; done) | rfl) (half_one hG8 hS.r hn8) (fun b hb e => by have := Hgb.out.2 b hb; have := HU.out.2.2 b (by simpa using e); omega) (by have := Hml.out; have := Hm.out; have := Hn.out; simp only [List.length_singleton]; omega) hlo8 ?_
           intro v9 bs9 W9 hH9 hg9 hs9 hq9 hv9
           have hbk9 : ∀ p, v9.ownBlock = some p → br < p := fun p hp => hq9.elim (fun h9 => HU.out.2.2 p (by rw [← h9]; exact hp)) (fun h9 => by rw [h9] at hp; have := Option.some.inj hp; have := hOb.lt; omega)
           have hob9 := hOb.grown hg9 (fun e => by have := HU.out.2.2 _ e.symm; omega)
           have hsb9 : ∀ x ∈ bs9, x ∈ bu := fun x hx => (hs9 x hx).elim (fun h9 => HU.out.2.1 x h9) (fun h9 => Hb1.out x h9)
           rw [← Hm.out] at hv9
           obtain ⟨A9, c9, hv9⟩ := hv9
           subst hv9
           clear hs9 hq9 hlo8
           skip
           skip
           skip
           refine hK.out _ _ (hS.set HEO.out Hgb.out hg9 (fun q e => by have := HU.out.2.2 q e; omega)) (fun hS => ?_)
           clear hK
           (try simp only [Act.put]); (try simp only [zPa]); (try simp only [zPb, zPc])
           refine tcH (i := 9) (v := .pointer (some ⟨br, 3, none⟩)) rfl (by intro w' hSw; (try dsimp only at hSw); (obtain ⟨o0, o1, o2, o3⟩ := hSw.o.b.cells4); (obtain ⟨c0, c1, c2, c3, c4, c5, c6, c7, c8, c9, c10⟩ := hSw.c); go_simp) ?_
           (try simp only [Act.put]); (try simp only [zPa]); (try simp only [zPb, zPc])
           refine wpAnyH_ready (rs := [10]) (by kernel_rfl) (by simp) ?_
           refine (AllReadyH.cons rfl (fun K hK => ?_) AllReadyH.nil)
           ·rw [if_pos (by kernel_rfl)]
            (try simp only [zGa]); (try simp only [zGb]); (try simp only [zGc])
            have m3 := hob9.cell 3 rfl
            have fz3 := hob9.frozen 3
            go_simp
            skip
            skip
            skip
            clear m3 fz3
            refine hK.out _ _ (hS.set HEO.out Hgb.out (grown_setB _ br 3 _) (fun q e => by have := Option.some.inj e; omega)) (fun hS => ?_)
            clear hK
            (try simp only [Act.put]); (try simp only [zPa]); (try simp only [zPb, zPc])
            refine wpAnyH_done (by kernel_rfl) ?_ _
            go_wp2_with fail
            go_roundw
            case rel => exact ⟨_, rfl, i + 1, .slice A9 (m + 1) c9, bs9, by omega, by go_num, hS.o, hob9.put 3 _ rfl, Lib.hid ⟨by rw [hE.out]; exact hH9.chg (Chg.of_grown (grown_setB _ br 3 _)) (fun p hp e => by have := hbk9 p hp; have : p = br := (by simpa using e); omega) (fun x hx e => by have := (HEO.out.bb x (hsb9 x hx)).1; have : x = br := (by simpa using e); omega), hsb9, hbk9⟩⟩
            case measure => simp [intOf]; omega
      ·have hqn : q < 0 := by omega
       clear hf hC hr1 hb1 hA
       go_wp2_with fail
       go_meet
       case rel => exact ⟨_, rfl, _, _, hT, hR, by rw [rs_neg hqn s.fs n i]; exact HU⟩
     ·have k1 : ¬ (i : Int) < (n : Int) := by omega
      have hin : i = n := by omega
      have HU2 := Lib.hid HU.out
      rw [show rsL q s.fs i = rsL q s.fs n from by rw [hin]] at HU
      clear hin
      go_wp2_with fail
      go_meet
      case rel => exact ⟨_, rfl, _, _, hT, hR, HU⟩
   case rest =>
    clear HT3 HR0
    obtain ⟨V4, hV4, v2, b2, hT, hR, HU⟩ := hcut
    subst hV4
    obtain ⟨d0, d1, d2, d3⟩ := hT.o.a.cells
    have x0 := hT.o.x.cell 0 rfl
    have x1 := hT.o.x.cell 1 rfl
    have x2 := hT.o.x.cell 2 rfl
    have x3 := hT.o.x.cell 3 rfl
    have x4 := hT.o.x.cell 4 rfl
    have x5 := hT.o.x.cell 5 rfl
    have x6 := hT.o.x.cell 6 rfl
    go_upto_block 2 with fail
    clear d0 d1 d2 d3 x0 x1 x2 x3 x4 x5 x6
    go_cut [66] (fun s66 wx => ∃ V, V = wx ∧ ∃ (u5 : Value) (b5 : List Nat), EdB w s (.slice A n c) bs e (.slice Ad e.data.length cd) V ∧ BkAt V bo 34 #[.int .i64 (edS s e).w, .int .i64 (edS s e).h, .int .i64 (edS s e).back, u5] ∧ Hid (HalfU (w.heap.size + 3) V (edS s e).fs u5 b5))
    case first =>
     by_cases hk0 : e.kind = 0
     ·skip
      have Hk := Lib.hid hk0
      have kd0 : (e.kind == 0) = true := by rw [hk0]; rfl
      clear hk0
      exact absurd Hk.out (by have h0 := Hgr.out; omega)
     by_cases hk1 : e.kind = 1
     ·skip
      have Hk := Lib.hid hk1
      have kd0 : (e.kind == 0) = false := by rw [hk1]; rfl
      have kd1 : (e.kind == 1) = true := by rw [hk1]; rfl
      clear hk1
      exact absurd Hk.out (by have h0 := Hgr.out; omega)
     by_cases hk2 : e.kind = 2
     ·skip
      have Hk := Lib.hid hk2
      have kd0 : (e.kind == 0) = false := by rw [hk2]; rfl
      have kd1 : (e.kind == 1) = false := by rw [hk2]; rfl
      have kd2 : (e.kind == 2) = true := by rw [hk2]; rfl
      clear hk2
      exact absurd Hk.out (by have h0 := Hgr.out; omega)
     by_cases hk3 : e.kind = 3
     ·skip
      have Hk := Lib.hid hk3
      have kd0 : (e.kind == 0) = false := by rw [hk3]; rfl
      have kd1 : (e.kind == 1) = false := by rw [hk3]; rfl
      have kd2 : (e.kind == 2) = false := by rw [hk3]; rfl
      have kd3 : (e.kind == 3) = true := by rw [hk3]; rfl
      clear hk3
      have hid0 : 0 ≤ idxF s.fs e.id := by have h0 := Hk.out; rcases Hok.out.2.2 with h | h | h; omega; omega; exact h
      obtain ⟨kk, f, hk1, hk2, hf, _⟩ := idx_get hid0
      have hE := Lib.hid (show edS s e = ⟨s.w, s.h, s.back, s.fs.eraseIdx kk ++ [f]⟩ from (edS_k hk1 hf (by have h0 := Hk.out; omega)).trans (by have h0 := Hk.out; unfold edL; rw [h0]; rfl))
      have hqk : q = (kk : Int) := Hq.out.trans hk1
      clear hid0 hk1
      have Hf := Lib.hid hf
      have hkn : kk < n := by rw [Hn.out]; exact hk2
      have k0 : (0 : Int) ≤ (kk : Int) := by omega
      have k1 : (kk : Int) < (n : Int) := by omega
      have hRS : rsL q s.fs n = s.fs.eraseIdx kk := by rw [Hn.out, hqk, rs_all (by omega)]; rfl
      rw [hRS] at HU
      subst hqk
      clear hRS
      obtain ⟨g, f', d1, b1, hA, hf', hC, hr1, hb1⟩ := hT.h.at_ hk2
      subst hA
      obtain rfl : f = f' := Option.some.inj (hf.symm.trans hf')
      have hgb := HEO.out.ub g rfl
      have hbg : bo ≠ g := by omega
      clear hf' hf
      obtain ⟨A2, c2, hv2⟩ := HU.out.1.form
      subst hv2
      have hrl : (s.fs.eraseIdx kk).length ≤ n := by rw [Hn.out]; exact List.length_eraseIdx_le (l := s.fs) (i := kk)
      obtain ⟨ml, hml⟩ : ∃ m, m = (s.fs.eraseIdx kk).length := ⟨_, rfl⟩
      rw [← hml] at hR HU hrl
      have Hml := Lib.hid hml
      clear hml
      obtain ⟨Af, cf, hd1⟩ := sf_form hr1
      subst hd1
      have Hgb := Lib.hid (show g < bo ∧ ∀ b ∈ b1, b < bo from ⟨hgb.1, fun b hb => (HEO.out.bb b (hb1 b hb)).1⟩)
      have Hb1 := Lib.hid hb1
      have hI : EdY w s (.slice A n c) bs e (.slice Ad e.data.length cd) br (.slice A2 ml c2) g kk f (.slice Af f.data.length cf) b1 V4 := ⟨hT.o, hR, hC, hr1⟩
      have Hbt := Lib.hid hT.b
      have Hth := Lib.hid hT.h
      clear hC hr1 hT hb1 hR
      go_upto_region 21 with fail
      refine wp_region_held_drew (S := fun W => EdY w s (.slice A n c) bs e (.slice Ad e.data.length cd) br (.slice A2 ml c2) g kk f (.slice Af f.data.length cf) b1 W) (by kernel_rfl) (hI.call (belI_drew _)) (fun hS => ?_)
      have hOw := HU.out.1.call (belI_drew _)
      have hOb := Hbt.out.call (belI_drew _)
      refine tkH (i := 0) (v := .pointer (some ⟨br, 3, none⟩)) rfl ?_
      refine tcH (i := 1) (v := .slice A2 ml c2) rfl (by intro w' hSw; (try dsimp only at hSw); (have r3 := hSw.r.cell 3 rfl); go_simp) ?_
      refine tkH (i := 2) (v := .pointer (some ⟨bo, 3, none⟩)) rfl ?_
      refine tkH (i := 4) (v := .int .i64 (kk : Int)) rfl ?_
      (try simp only [Act.put]); (try simp only [zPa]); (try simp only [zPb, zPc])
      refine wpAnyH_ready (rs := [3]) (by kernel_rfl) (by simp) ?_
      refine (AllReadyH.cons rfl (fun K hK => ?_) AllReadyH.nil)
      ·rw [if_pos (by kernel_rfl)]
       (try simp only [zGa]); (try simp only [zGb]); (try simp only [zGc])
       have m3 := hOb.cell 3 rfl
       go_simp
       skip
       skip
       clear m3
       refine hK.out _ _ (hS) (fun hS => ?_)
       clear hK
       (try simp only [Act.put]); (try simp only [zPa]); (try simp only [zPb, zPc])
       refine tkH (i := 5) (v := .pointer (some ⟨g, kk * 11, none⟩)) rfl ?_
       refine tcH (i := 6) (v := .agg #[.int .i64 f.id, .int .i64 f.x, .int .i64 f.y, .int .i64 f.w, .int .i64 f.h, .int .i64 f.alpha, .int .i64 f.orient, .bool f.vis, .int .i64 f.bw, .int .i64 f.bh, .slice Af f.data.length cf]) rfl (by intro w' hSw; (try dsimp only at hSw); (obtain ⟨c0, c1, c2', c3, c4, c5, c6, c7, c8, c9, c10⟩ := hSw.c); go_simp) ?_
       (try simp only [Act.put]); (try simp only [zPa]); (try simp only [zPb, zPc])
       refine wpAnyH_ready (rs := [7]) (by kernel_rfl) (by simp) ?_
       refine (AllReadyH.cons rfl (fun K hK => ?_) AllReadyH.nil)
       ·rw [if_pos (by kernel_rfl)]
        (try simp only [zGa]); (try simp only [zGb]); (try simp only [zGc])
        have hex := fun b hb => repSf.ex hS.rf b hb
        refine wp_build_sf 117 (.tmp 116) f (.slice Af f.data.length cf) rfl (by first | with_reducible rfl | (go_simp; done) | rfl) rfl ?_
        intro g8 W' hb hG8 hg8
        have hn8 : g8 ∉ b1 := fun h => by have := hex _ h; omega
        have hg8o : br < g8 := Nat.lt_of_lt_of_le hS.r.lt hg8
        clear hex
        have hOw := hOw.call hb
        have hOb := hOb.call hb
        refine hK.out _ _ (hS.call hb) (fun hS => ?_)
        clear hK
        (try simp only [Act.put]); (try simp only [zPa]); (try simp only [zPb, zPc])
        refine wpAnyH_ready (rs := [8]) (by kernel_rfl) (by simp) ?_
        refine (AllReadyH.cons rfl (fun K hK => ?_) AllReadyH.nil)
        ·rw [if_pos (by kernel_rfl)]
         (try simp only [zGa]); (try simp only [zGb]); (try simp only [zGc])
         have hlo8 : w.heap.size + 3 ≤ _ := Nat.le_trans HEO.out.lo (Nat.le_of_lt hOb.lt)
         refine wp_append_half (.tmp 111) (.tmp 117) rfl (w.heap.size + 3) g8 (.slice A2 ml c2) (.slice (some ⟨g8, 0, none⟩) 1 1) (s.fs.eraseIdx kk) [f] b2 b1 (by first | with_reducible rfl | (go_simp; done) | rfl) hOw (by first | with_reducible rfl | (go_simp; done) | rfl) (half_one hG8 hS.rf hn8) (fun b hb e' => by have h1 := Hgb.out.2 b hb; have h2 := HU.out.2.2 b (by simpa using e'); omega) (by have h1 := Hml.out; simp only [List.length_singleton]; omega) hlo8 ?_
         intro v9 bs9 W9 hH9 hg9 hs9 hq9 hv9
         have hown9 : ∀ q, (Value.slice A2 ml c2).ownBlock = some q → br < q := HU.out.2.2
         have hbk9 : ∀ p, v9.ownBlock = some p → br < p := fun p hp => hq9.elim (fun h9 => HU.out.2.2 p (by rw [← h9]; exact hp)) (fun h9 => by rw [h9] at hp; have h1 := Option.some.inj hp; have h2 := hS.r.lt; omega)
         have hob9 := hOb.grown hg9 (fun e' => by have h1 := hown9 _ e'.symm; omega)
         have hsb9 : ∀ x ∈ bs9, x ≠ bo := fun x hx => (hs9 x hx).elim (fun h9 => by have h1 := (HEO.out.bb x (HU.out.2.1 x h9)).1; omega) (fun h9 => by have h1 := Hgb.out.2 x h9; omega)
         simp only [List.length_singleton, ← Hml.out] at hv9
         obtain ⟨A9, c9, hv9⟩ := hv9
         subst hv9
         clear hs9 hq9
         clear hlo8
         skip
         skip
         skip
         refine hK.out _ _ (hS.set HEO.out.ob hg9 (fun q e' => by have h1 := hown9 q e'; have h2 := HEO.out.lo; exact ⟨by omega, by omega, by have h3 := Hgb.out.1; omega, fun h4 => by have h3 := Hgb.out.2 q h4; omega⟩)) (fun hS => ?_)
         clear hK
         (try simp only [Act.put]); (try simp only [zPa]); (try simp only [zPb, zPc])
         refine tkH (i := 9) (v := .pointer (some ⟨bo, 3, none⟩)) rfl ?_
         (try simp only [Act.put]); (try simp only [zPa]); (try simp only [zPb, zPc])
         refine wpAnyH_ready (rs := [10]) (by kernel_rfl) (by simp) ?_
         refine (AllReadyH.cons rfl (fun K hK => ?_) AllReadyH.nil)
         ·rw [if_pos (by kernel_rfl)]
          (try simp only [zGa]); (try simp only [zGb]); (try simp only [zGc])
          have m3 := hob9.cell 3 rfl
          have fz3 := hob9.frozen 3
          go_simp
          skip
          skip
          skip
          clear m3 fz3
          refine hK.out _ _ (hS.set HEO.out.ob (grown_setB _ bo 3 _) (fun q e' => by have h1 := Option.some.inj e'; have h2 := HEO.out.lo; exact ⟨by omega, by omega, by have h3 := Hgb.out.1; omega, fun h4 => by have h3 := Hgb.out.2 q h4; omega⟩)) (fun hS => ?_)
          clear hK
          (try simp only [Act.put]); (try simp only [zPa]); (try simp only [zPb, zPc])
          refine wpAnyH_done (by kernel_rfl) ?_ _
          go_wp2_with fail
          go_meet
          case rel =>
           rw [hE.out]
           exact ⟨_, rfl, _, _, hS.o, hob9.put 3 _ rfl, Lib.hid (HalfU.chg hH9 (Chg.of_grown (grown_setB _ bo 3 _)) (fun p hp e' => by have h1 := hbk9 p hp; have h2 : p = bo := (by simpa using e'); omega) (fun x hx e' => hsb9 x hx (by simpa using e')))⟩
     by_cases hk4 : e.kind = 4
     ·skip
      have Hk := Lib.hid hk4
      have kd0 : (e.kind == 0) = false := by rw [hk4]; rfl
      have kd1 : (e.kind == 1) = false := by rw [hk4]; rfl
      have kd2 : (e.kind == 2) = false := by rw [hk4]; rfl
      have kd3 : (e.kind == 3) = false := by rw [hk4]; rfl
      have kd4 : (e.kind == 4) = true := by rw [hk4]; rfl
      clear hk4
      have hid0 : 0 ≤ idxF s.fs e.id := by have h0 := Hk.out; rcases Hok.out.2.2 with h | h | h; omega; omega; exact h
      obtain ⟨kk, f, hk1, hk2, hf, _⟩ := idx_get hid0
      have hE := Lib.hid (show edS s e = ⟨s.w, s.h, s.back, f :: s.fs.eraseIdx kk⟩ from (edS_k hk1 hf (by have h0 := Hk.out; omega)).trans (by have h0 := Hk.out; unfold edL; rw [h0]; rfl))
      have hqk : q = (kk : Int) := Hq.out.trans hk1
      clear hid0 hk1
      have Hf := Lib.hid hf
      have hkn : kk < n := by rw [Hn.out]; exact hk2
      have k0 : (0 : Int) ≤ (kk : Int) := by omega
      have k1 : (kk : Int) < (n : Int) := by omega
      have hRS : rsL q s.fs n = s.fs.eraseIdx kk := by rw [Hn.out, hqk, rs_all (by omega)]; rfl
      rw [hRS] at HU
      subst hqk
      clear hRS
      obtain ⟨g, f', d1, b1, hA, hf', hC, hr1, hb1⟩ := hT.h.at_ hk2
      subst hA
      obtain rfl : f = f' := Option.some.inj (hf.symm.trans hf')
      have hgb := HEO.out.ub g rfl
      have hbg : bo ≠ g := by omega
      clear hf' hf
      obtain ⟨A2, c2, hv2⟩ := HU.out.1.form
      subst hv2
      have hrl : (s.fs.eraseIdx kk).length ≤ n := by rw [Hn.out]; exact List.length_eraseIdx_le (l := s.fs) (i := kk)
      obtain ⟨ml, hml⟩ : ∃ m, m = (s.fs.eraseIdx kk).length := ⟨_, rfl⟩
      rw [← hml] at hR HU hrl
      have Hml := Lib.hid hml
      clear hml
      obtain ⟨Af, cf, hd1⟩ := sf_form hr1
      subst hd1
      have Hgb := Lib.hid (show g < bo ∧ ∀ b ∈ b1, b < bo from ⟨hgb.1, fun b hb => (HEO.out.bb b (hb1 b hb)).1⟩)
      have Hb1 := Lib.hid hb1
      have hI : EdY w s (.slice A n c) bs e (.slice Ad e.data.length cd) br (.slice A2 ml c2) g kk f (.slice Af f.data.length cf) b1 V4 := ⟨hT.o, hR, hC, hr1⟩
      have Hbt := Lib.hid hT.b
      have Hth := Lib.hid hT.h
      clear hC hr1 hT hb1 hR
      go_upto_region 23 with fail
      refine wp_region_held_drew (S := fun W => EdY w s (.slice A n c) bs e (.slice Ad e.data.length cd) br (.slice A2 ml c2) g kk f (.slice Af f.data.length cf) b1 W) (by kernel_rfl) (hI.call (belI_drew _)) (fun hS => ?_)
      have hOw := HU.out.1.call (belI_drew _)
      have hOb := Hbt.out.call (belI_drew _)
      refine tkH (i := 0) (v := .pointer (some ⟨bo, 3, none⟩)) rfl ?_
      refine tkH (i := 2) (v := .int .i64 (kk : Int)) rfl ?_
      refine tkH (i := 6) (v := .pointer (some ⟨br, 3, none⟩)) rfl ?_
      refine tcH (i := 7) (v := .slice A2 ml c2) rfl (by intro w' hSw; (try dsimp only at hSw); (have r3 := hSw.r.cell 3 rfl); go_simp) ?_
      (try simp only [Act.put]); (try simp only [zPa]); (try simp only [zPb, zPc])
      refine wpAnyH_ready (rs := [1]) (by kernel_rfl) (by simp) ?_
      refine (AllReadyH.cons rfl (fun K hK => ?_) AllReadyH.nil)
      ·rw [if_pos (by kernel_rfl)]
       (try simp only [zGa]); (try simp only [zGb]); (try simp only [zGc])
       have m3 := hOb.cell 3 rfl
       go_simp
       skip
       skip
       clear m3
       refine hK.out _ _ (hS) (fun hS => ?_)
       clear hK
       (try simp only [Act.put]); (try simp only [zPa]); (try simp only [zPb, zPc])
       refine tkH (i := 3) (v := .pointer (some ⟨g, kk * 11, none⟩)) rfl ?_
       refine tcH (i := 4) (v := .agg #[.int .i64 f.id, .int .i64 f.x, .int .i64 f.y, .int .i64 f.w, .int .i64 f.h, .int .i64 f.alpha, .int .i64 f.orient, .bool f.vis, .int .i64 f.bw, .int .i64 f.bh, .slice Af f.data.length cf]) rfl (by intro w' hSw; (try dsimp only at hSw); (obtain ⟨c0, c1, c2', c3, c4, c5, c6, c7, c8, c9, c10⟩ := hSw.c); go_simp) ?_
       (try simp only [Act.put]); (try simp only [zPa]); (try simp only [zPb, zPc])
       refine wpAnyH_ready (rs := [5]) (by kernel_rfl) (by simp) ?_
       refine (AllReadyH.cons rfl (fun K hK => ?_) AllReadyH.nil)
       ·rw [if_pos (by kernel_rfl)]
        (try simp only [zGa]); (try simp only [zGb]); (try simp only [zGc])
        have hex := fun b hb => repSf.ex hS.rf b hb
        refine wp_build_sf 127 (.tmp 126) f (.slice Af f.data.length cf) rfl (by first | with_reducible rfl | (go_simp; done) | rfl) rfl ?_
        intro g8 W' hb hG8 hg8
        have hn8 : g8 ∉ b1 := fun h => by have := hex _ h; omega
        have hg8o : br < g8 := Nat.lt_of_lt_of_le hS.r.lt hg8
        clear hex
        have hOw := hOw.call hb
        have hOb := hOb.call hb
        refine hK.out _ _ (hS.call hb) (fun hS => ?_)
        clear hK
        (try simp only [Act.put]); (try simp only [zPa]); (try simp only [zPb, zPc])
        refine wpAnyH_ready (rs := [8]) (by kernel_rfl) (by simp) ?_
        refine (AllReadyH.cons rfl (fun K hK => ?_) AllReadyH.nil)
        ·rw [if_pos (by kernel_rfl)]
         (try simp only [zGa]); (try simp only [zGb]); (try simp only [zGc])
         refine wp_append_half (.tmp 127) (.tmp 129) rfl g8 (w.heap.size + 3) (.slice (some ⟨g8, 0, none⟩) 1 1) (.slice A2 ml c2) [f] (s.fs.eraseIdx kk) b1 b2 (by first | with_reducible rfl | (go_simp; done) | rfl) (half_one hG8 hS.rf hn8) (by first | with_reducible rfl | (go_simp; done) | rfl) hOw (fun b hb e' => by have h1 := (HEO.out.bb b (HU.out.2.1 b hb)).1; have h2 : b = g8 := (by simpa [Value.ownBlock] using e'); omega) (by have h1 := Hml.out; simp only [List.length_singleton]; omega) (Nat.le_of_lt hG8.lt) ?_
         intro v9 bs9 W9 hH9 hg9 hs9 hq9 hv9
         have hown9 : ∀ q, (Value.slice (some ⟨g8, 0, none⟩) 1 1).ownBlock = some q → br < q := fun q hq => by have h1 : g8 = q := (by simpa [Value.ownBlock] using hq); omega
         have hbk9 : ∀ p, v9.ownBlock = some p → br < p := fun p hp => hq9.elim (fun h9 => hown9 p (by rw [← h9]; exact hp)) (fun h9 => by rw [h9] at hp; have h1 := Option.some.inj hp; have h2 := hS.r.lt; omega)
         have hob9 := hOb.grown hg9 (fun e' => by have h1 := hown9 _ e'.symm; omega)
         have hsb9 : ∀ x ∈ bs9, x ≠ bo := fun x hx => (hs9 x hx).elim (fun h9 => by have h1 := Hgb.out.2 x h9; omega) (fun h9 => by have h1 := (HEO.out.bb x (HU.out.2.1 x h9)).1; omega)
         simp only [List.length_singleton, ← Hml.out] at hv9
         obtain ⟨A9, c9, hv9⟩ := hv9
         subst hv9
         clear hs9 hq9
         skip
         skip
         skip
         refine hK.out _ _ (hS.set HEO.out.ob hg9 (fun q e' => by have h1 := hown9 q e'; have h2 := HEO.out.lo; exact ⟨by omega, by omega, by have h3 := Hgb.out.1; omega, fun h4 => by have h3 := Hgb.out.2 q h4; omega⟩)) (fun hS => ?_)
         clear hK
         (try simp only [Act.put]); (try simp only [zPa]); (try simp only [zPb, zPc])
         refine tkH (i := 9) (v := .pointer (some ⟨bo, 3, none⟩)) rfl ?_
         (try simp only [Act.put]); (try simp only [zPa]); (try simp only [zPb, zPc])
         refine wpAnyH_ready (rs := [10]) (by kernel_rfl) (by simp) ?_
         refine (AllReadyH.cons rfl (fun K hK => ?_) AllReadyH.nil)
         ·rw [if_pos (by kernel_rfl)]
          (try simp only [zGa]); (try simp only [zGb]); (try simp only [zGc])
          have m3 := hob9.cell 3 rfl
          have fz3 := hob9.frozen 3
          go_simp
          skip
          skip
          skip
          clear m3 fz3
          refine hK.out _ _ (hS.set HEO.out.ob (grown_setB _ bo 3 _) (fun q e' => by have h1 := Option.some.inj e'; have h2 := HEO.out.lo; exact ⟨by omega, by omega, by have h3 := Hgb.out.1; omega, fun h4 => by have h3 := Hgb.out.2 q h4; omega⟩)) (fun hS => ?_)
          clear hK
          (try simp only [Act.put]); (try simp only [zPa]); (try simp only [zPb, zPc])
          refine wpAnyH_done (by kernel_rfl) ?_ _
          go_wp2_with fail
          go_meet
          case rel =>
           rw [hE.out]
           exact ⟨_, rfl, _, _, hS.o, hob9.put 3 _ rfl, Lib.hid (HalfU.chg (hH9.mono (by have h1 := HEO.out.lo; omega)) (Chg.of_grown (grown_setB _ bo 3 _)) (fun p hp e' => by have h1 := hbk9 p hp; have h2 : p = bo := (by simpa using e'); omega) (fun x hx e' => hsb9 x hx (by simpa using e')))⟩
     by_cases hk5 : e.kind = 5
     ·skip
      have Hk := Lib.hid hk5
      have kd0 : (e.kind == 0) = false := by rw [hk5]; rfl
      have kd1 : (e.kind == 1) = false := by rw [hk5]; rfl
      have kd2 : (e.kind == 2) = false := by rw [hk5]; rfl
      have kd3 : (e.kind == 3) = false := by rw [hk5]; rfl
      have kd4 : (e.kind == 4) = false := by rw [hk5]; rfl
      have kd5 : (e.kind == 5) = true := by rw [hk5]; rfl
      clear hk5
      have hid0 : 0 ≤ idxF s.fs e.id := by have h0 := Hk.out; rcases Hok.out.2.2 with h | h | h; omega; omega; exact h
      obtain ⟨kk, f, hk1, hk2, hf, _⟩ := idx_get hid0
      have hE := Lib.hid (show edS s e = ⟨s.w, s.h, s.back, s.fs.set kk { f with bw := e.bw, bh := e.bh, data := e.data }⟩ from (edS_k hk1 hf (by have h0 := Hk.out; omega)).trans (by have h0 := Hk.out; unfold edL edF; rw [h0]; rfl))
      have hqk : q = (kk : Int) := Hq.out.trans hk1
      clear hid0 hk1
      have Hf := Lib.hid hf
      have hkn : kk < n := by rw [Hn.out]; exact hk2
      have k0 : (0 : Int) ≤ (kk : Int) := by omega
      have k1 : (kk : Int) < (n : Int) := by omega
      have hRS : rsL q s.fs n = s.fs.eraseIdx kk := by rw [Hn.out, hqk, rs_all (by omega)]; rfl
      rw [hRS] at HU
      subst hqk
      clear hRS
      obtain ⟨g, f', d1, b1, hA, hf', hC, hr1, hb1⟩ := hT.h.at_ hk2
      subst hA
      obtain rfl : f = f' := Option.some.inj (hf.symm.trans hf')
      have hgb := HEO.out.ub g rfl
      have hbg : bo ≠ g := by omega
      clear hf' hf
      have Hgb := Lib.hid hgb
      have Hbo2 := Lib.hid hT.b
      have Hth := Lib.hid hT.h
      have hI := (show EdB w s (.slice A n c) bs e (.slice Ad e.data.length cd) V4 from hT.o)
      have hIb := hT.b
      have Hk2 := Lib.hid hk2
      clear hC hr1 hT hb1 hgb
      go_upto_region 25 with fail
      refine wp_region_held_drew (S := fun W => EdB w s (.slice A n c) bs e (.slice Ad e.data.length cd) W ∧ BkAt W bo 34 #[.int .i64 s.w, .int .i64 s.h, .int .i64 s.back, .slice (some ⟨g, 0, none⟩) n cu]) (by kernel_rfl) ⟨hI.call (belI_drew _), hIb.call (belI_drew _)⟩ (fun hS => ?_)
      have hOw := Hth.out.call (belI_drew _)
      refine tkH (i := 0) (v := .pointer (some ⟨bo, 3, none⟩)) rfl ?_
      refine tcH (i := 1) (v := .slice (some ⟨g, 0, none⟩) n cu) rfl (by intro w' hSw; (try dsimp only at hSw); (have o3 := hSw.2.cell 3 rfl); go_simp) ?_
      refine tkH (i := 2) (v := .int .i64 (kk : Int)) rfl ?_
      refine tkH (i := 3) (v := .pointer (some ⟨w.heap.size + 1, 4, none⟩)) rfl ?_
      refine tcH (i := 4) (v := .agg #[.int .i64 e.bw, .int .i64 e.bh, .slice Ad e.data.length cd]) rfl (by intro w' hSw; (try dsimp only at hSw); (have x4 := hSw.1.x.cell 4 rfl); (have x5 := hSw.1.x.cell 5 rfl); (have x6 := hSw.1.x.cell 6 rfl); go_simp) ?_
      (try simp only [Act.put]); (try simp only [zPa]); (try simp only [zPb, zPc])
      refine wpAnyH_ready (rs := [5]) (by kernel_rfl) (by simp) ?_
      refine (AllReadyH.cons rfl (fun K hK => ?_) AllReadyH.nil)
      ·rw [if_pos (by kernel_rfl)]
       (try simp only [zGa]); (try simp only [zGb]); (try simp only [zGc])
       go_simp
       with_reducible refine (l05Copy_any e.bw e.bh _ e.data _ (by have := Hme.out; omega) hS.1.rd).mono ?_
       rintro e' W' ⟨vo, rfl, hvo, hb⟩
       obtain ⟨Ao, co, hvo2⟩ := ownI_shape hvo
       subst hvo2
       have hvl : ∀ q ∈ (Value.slice Ao e.data.length co).ownBlock.toList, bo < q := fun q hq => by have h1 := (own_ltB hvo q hq).1; have h2 := hS.2.lt; omega
       dsimp only
       have hOw := hOw.call hb
       refine hK.out _ _ (⟨hS.1.call hb, hS.2.call hb⟩) (fun hS => ?_)
       clear hK
       (try simp only [Act.put]); (try simp only [zPa]); (try simp only [zPb, zPc])
       refine tkH (i := 6) (v := .pointer (some ⟨g, kk * 11, none⟩)) rfl ?_
       refine tkH (i := 7) (v := .pointer (some ⟨g, kk * 11 + 8, none⟩)) rfl ?_
       (try simp only [Act.put]); (try simp only [zPa]); (try simp only [zPb, zPc])
       refine wpAnyH_ready (rs := [8]) (by kernel_rfl) (by simp) ?_
       refine (AllReadyH.cons rfl (fun K hK => ?_) AllReadyH.nil)
       ·rw [if_pos (by kernel_rfl)]
        (try simp only [zGa]); (try simp only [zGb]); (try simp only [zGc])
        obtain ⟨f8, d8, _, i8, i9, i10⟩ := hOw.im3 Hk2.out
        have z8 := hOw.frozen (kk * 11 + 8)
        have z9 := hOw.frozen (kk * 11 + 8 + 1)
        have z10 := hOw.frozen (kk * 11 + 8 + 2)
        obtain ⟨b5, hH5, hg5, hs5⟩ := HalfU.put3 (f' := { f with bw := e.bw, bh := e.bh, data := e.data }) (p := .int .i64 e.bw) (q := .int .i64 e.bh) (u := .slice Ao e.data.length co) hOw Hn.out Hf.out (fun _ => rfl) (edNew_rep hvo) (fun h => by have h1 := hvl g h; have h2 := Hgb.out.1; omega)
        have HH5 := Lib.hid hH5
        have Hg5 := Lib.hid hg5
        clear hH5 hg5
        go_simp
        skip
        skip
        clear i8 i9 i10 z8 z9 z10
        refine hK.out _ _ (⟨hS.1.set HEO.out.ob Hg5.out (fun q e' => by have h1 := Option.some.inj e'; have h2 := Hgb.out.2; omega), hS.2.grown Hg5.out (fun e' => hbg (Option.some.inj e'))⟩) (fun hS => ?_)
        clear hK
        (try simp only [Act.put]); (try simp only [zPa]); (try simp only [zPb, zPc])
        refine wpAnyH_done (by kernel_rfl) ?_ _
        go_wp2_with fail
        go_meet
        case rel =>
         rw [hE.out]
         exact ⟨_, rfl, _, _, hS.1, hS.2, HH5⟩
     by_cases hk6 : e.kind = 6
     ·skip
      have Hk := Lib.hid hk6
      have kd0 : (e.kind == 0) = false := by rw [hk6]; rfl
      have kd1 : (e.kind == 1) = false := by rw [hk6]; rfl
      have kd2 : (e.kind == 2) = false := by rw [hk6]; rfl
      have kd3 : (e.kind == 3) = false := by rw [hk6]; rfl
      have kd4 : (e.kind == 4) = false := by rw [hk6]; rfl
      have kd5 : (e.kind == 5) = false := by rw [hk6]; rfl
      have kd6 : (e.kind == 6) = true := by rw [hk6]; rfl
      clear hk6
      exact absurd Hk.out (by have h0 := Hgr.out; omega)
     by_cases hk7 : e.kind = 7
     ·skip
      have Hk := Lib.hid hk7
      have kd0 : (e.kind == 0) = false := by rw [hk7]; rfl
      have kd1 : (e.kind == 1) = false := by rw [hk7]; rfl
      have kd2 : (e.kind == 2) = false := by rw [hk7]; rfl
      have kd3 : (e.kind == 3) = false := by rw [hk7]; rfl
      have kd4 : (e.kind == 4) = false := by rw [hk7]; rfl
      have kd5 : (e.kind == 5) = false := by rw [hk7]; rfl
      have kd6 : (e.kind == 6) = false := by rw [hk7]; rfl
      have kd7 : (e.kind == 7) = true := by rw [hk7]; rfl
      clear hk7
      exact absurd Hk.out (by have h0 := Hgr.out; omega)
     by_cases hk8 : e.kind = 8
     ·skip
      have Hk := Lib.hid hk8
      have kd0 : (e.kind == 0) = false := by rw [hk8]; rfl
      have kd1 : (e.kind == 1) = false := by rw [hk8]; rfl
      have kd2 : (e.kind == 2) = false := by rw [hk8]; rfl
      have kd3 : (e.kind == 3) = false := by rw [hk8]; rfl
      have kd4 : (e.kind == 4) = false := by rw [hk8]; rfl
      have kd5 : (e.kind == 5) = false := by rw [hk8]; rfl
      have kd6 : (e.kind == 6) = false := by rw [hk8]; rfl
      have kd7 : (e.kind == 7) = false := by rw [hk8]; rfl
      have kd8 : (e.kind == 8) = true := by rw [hk8]; rfl
      clear hk8
      have hid0 : 0 ≤ idxF s.fs e.id := by have h0 := Hk.out; rcases Hok.out.2.2 with h | h | h; omega; omega; exact h
      obtain ⟨kk, f, hk1, hk2, hf, _⟩ := idx_get hid0
      have hE := Lib.hid (show edS s e = ⟨s.w, s.h, s.back, s.fs.set kk { f with w := e.a, h := e.b }⟩ from (edS_k hk1 hf (by have h0 := Hk.out; omega)).trans (by have h0 := Hk.out; unfold edL edF; rw [h0]; rfl))
      have hqk : q = (kk : Int) := Hq.out.trans hk1
      clear hid0 hk1
      have Hf := Lib.hid hf
      have hkn : kk < n := by rw [Hn.out]; exact hk2
      have k0 : (0 : Int) ≤ (kk : Int) := by omega
      have k1 : (kk : Int) < (n : Int) := by omega
      have hRS : rsL q s.fs n = s.fs.eraseIdx kk := by rw [Hn.out, hqk, rs_all (by omega)]; rfl
      rw [hRS] at HU
      subst hqk
      clear hRS
      obtain ⟨g, f', d1, b1, hA, hf', hC, hr1, hb1⟩ := hT.h.at_ hk2
      subst hA
      obtain rfl : f = f' := Option.some.inj (hf.symm.trans hf')
      have hgb := HEO.out.ub g rfl
      have hbg : bo ≠ g := by omega
      clear hf' hf
      have x2 := hT.o.x.cell 2 rfl
      have o3 := hT.b.cell 3 rfl
      have c3 := hC.c3
      have fz := hT.h.frozen (kk * 11 + 3)
      clear hC
      have h1 := ed_put1 (f' := { f with w := e.a }) (val := .int .i64 e.a) HEO.out.ob hT.o hT.b hT.h Hn.out Hf.out (j := 3) (by omega) (fun _ => rfl) rfl hgb.2 hbg
      have hf2 : (s.fs.set kk { f with w := e.a })[kk]? = some { f with w := e.a } := List.getElem?_set_self hk2
      have hl2 : n = (s.fs.set kk { f with w := e.a }).length := by rw [List.length_set]; exact Hn.out
      have h2 := ed_put1 (f' := { f with w := e.a, h := e.b }) (val := .int .i64 e.b) HEO.out.ob h1.1 h1.2.1 h1.2.2 hl2 hf2 (j := 4) (by omega) (fun _ => rfl) rfl hgb.2 hbg
      rw [List.set_set] at h2
      have H1 := Lib.hid h1
      have H2 := Lib.hid h2
      have Hf2 := Lib.hid hf2
      have hk3 : kk < (s.fs.set kk { f with w := e.a }).length := by rw [List.length_set]; exact hk2
      have Hk3 := Lib.hid hk3
      clear h1 h2 hf2 hl2 hk3
      go_upto_region 32 with fail
      clear x2 o3 c3 fz
      have x3 := H1.out.1.x.cell 3 rfl
      have o3 := H1.out.2.1.cell 3 rfl
      have fz := H1.out.2.2.frozen (kk * 11 + 4)
      obtain ⟨g2, f2, d2, b2', hA2, hf2, hC2, _, _⟩ := H1.out.2.2.at_ Hk3.out
      obtain rfl : g = g2 := by injection hA2 with hA2; injection hA2
      have c4 := hC2.c4
      clear hA2 hf2 hC2
      go_wp2_with fail
      go_meet
      case rel =>
       rw [hE.out]
       exact ⟨_, rfl, _, _, H2.out.1, H2.out.2.1, Lib.hid H2.out.2.2⟩
     by_cases hk9 : e.kind = 9
     ·skip
      have Hk := Lib.hid hk9
      have kd0 : (e.kind == 0) = false := by rw [hk9]; rfl
      have kd1 : (e.kind == 1) = false := by rw [hk9]; rfl
      have kd2 : (e.kind == 2) = false := by rw [hk9]; rfl
      have kd3 : (e.kind == 3) = false := by rw [hk9]; rfl
      have kd4 : (e.kind == 4) = false := by rw [hk9]; rfl
      have kd5 : (e.kind == 5) = false := by rw [hk9]; rfl
      have kd6 : (e.kind == 6) = false := by rw [hk9]; rfl
      have kd7 : (e.kind == 7) = false := by rw [hk9]; rfl
      have kd8 : (e.kind == 8) = false := by rw [hk9]; rfl
      have kd9 : (e.kind == 9) = true := by rw [hk9]; rfl
      clear hk9
      exact absurd Hk.out (by have h0 := Hgr.out; omega)
     by_cases hk10 : e.kind = 10
     ·skip
      have Hk := Lib.hid hk10
      have kd0 : (e.kind == 0) = false := by rw [hk10]; rfl
      have kd1 : (e.kind == 1) = false := by rw [hk10]; rfl
      have kd2 : (e.kind == 2) = false := by rw [hk10]; rfl
      have kd3 : (e.kind == 3) = false := by rw [hk10]; rfl
      have kd4 : (e.kind == 4) = false := by rw [hk10]; rfl
      have kd5 : (e.kind == 5) = false := by rw [hk10]; rfl
      have kd6 : (e.kind == 6) = false := by rw [hk10]; rfl
      have kd7 : (e.kind == 7) = false := by rw [hk10]; rfl
      have kd8 : (e.kind == 8) = false := by rw [hk10]; rfl
      have kd9 : (e.kind == 9) = false := by rw [hk10]; rfl
      clear hk10
      exact absurd Hk.out (by have h0 := Hgr.out; omega)
     exact absurd Hok.out.2.1 (by omega)
    case rest =>
     clear hT hR HU
     obtain ⟨V5, hV5, u5, b5, hB5, ho5, HU5⟩ := hcut
     subst hV5
     obtain ⟨T, hT⟩ : ∃ T, T = edS s e := ⟨_, rfl⟩
     rw [← hT] at ho5 HU5
     have HT := Lib.hid hT
     clear hT
     obtain ⟨A5, c5, hu5⟩ := HU5.out.form
     subst hu5
     have HSO5 := fun W h => snS T (.slice A5 T.fs.length c5) ((Value.slice A5 T.fs.length c5).ownBlock.toList ++ b5) W h
     unfold SnOkAns at HSO5
     obtain ⟨o0, o1, o2, o3⟩ := ho5.cells4
     by_cases hs5 : snOk T
     ·rw [snB_yes hs5] at HSO5
      have HDE := Lib.hid (doE_yes (s := s) (e := e) Hok.out.1 Hok.out.2 (by rw [← HT.out]; exact hs5))
      rw [← HT.out] at HDE
      have Hs5 := Lib.hid hs5
      clear hs5
      go_wp2_with fail
      clear o0 o1 o2 o3
      refine (HSO5 _ HU5.out.r).mono ?_
      rintro e1 w6 ⟨rfl, hb⟩
      replace hB5 := hB5.call hb
      replace ho5 := ho5.call hb
      replace HU5 := Lib.hid (HU5.out.call hb)
      clear hb HSO5
      obtain ⟨o0, o1, o2, o3⟩ := ho5.cells4
      obtain ⟨d0, d1, d2, d3⟩ := hB5.a.cells
      go_wp2_with fail
      clear o0 o1 o2 o3 d0 d1 d2 d3
      refine (copySn T _ _ _ (sn_siz Hs5.out).1 HU5.out.r).mono ?_
      rintro e1 w7 ⟨u7, b7, rfl, hU7, hb⟩
      obtain ⟨A7, c7, hu7⟩ := (repSfs_form hU7.r).1
      subst hu7
      replace hU7 := hU7.mono (show w.heap.size + 3 ≤ _ from hB5.r.lt)
      replace hB5 := hB5.call hb
      clear hb
      obtain ⟨r0, r1, r2, r3⟩ := hB5.r.cells4
      have fr0 := hB5.r.frozen 0
      have fr1 := hB5.r.frozen 1
      have fr2 := hB5.r.frozen 2
      have fr3 := hB5.r.frozen 3
      have HJ := Lib.hid (hB5.r.all4 (.int .i64 T.w) (.int .i64 T.h) (.int .i64 T.back) (.slice A7 T.fs.length c7))
      have HOwn := Lib.hid hU7
      have HBw := Lib.hid hB5.bw
      clear hB5 ho5 hU7
      go_wp2_with fail
      obtain ⟨y0, y1, y2, y3⟩ := HJ.out.cells4
      exact edRet HDE.out HBw.out HOwn.out (by simp [results, Tryz.results64, go_sem, y0, y1, y2, y3])
     ·rw [snB_no hs5] at HSO5
      have HDE := Lib.hid (doE_no (s := s) (e := e) fun h => hs5 (by rw [HT.out]; exact h.2.2))
      clear hs5
      go_wp2_with fail
      clear o0 o1 o2 o3
      refine (HSO5 _ HU5.out.r).mono ?_
      rintro e1 w6 ⟨rfl, hb⟩
      replace hB5 := hB5.call hb
      replace ho5 := ho5.call hb
      replace HU5 := Lib.hid (HU5.out.call hb)
      clear hb HSO5
      obtain ⟨o0, o1, o2, o3⟩ := ho5.cells4
      obtain ⟨d0, d1, d2, d3⟩ := hB5.a.cells
      go_wp2_with fail
      clear o0 o1 o2 o3 d0 d1 d2 d3
      refine (HC2.out _ hB5.a.r).mono ?_
      rintro e1 w7 ⟨u7, b7, rfl, hU7, hb⟩
      obtain ⟨A7, c7, hu7⟩ := (repSfs_form hU7.r).1
      subst hu7
      rw [← Hn.out] at hU7 ⊢
      replace hU7 := hU7.mono (show w.heap.size + 3 ≤ _ from hB5.r.lt)
      replace hB5 := hB5.call hb
      clear hb
      obtain ⟨r0, r1, r2, r3⟩ := hB5.r.cells4
      have fr0 := hB5.r.frozen 0
      have fr1 := hB5.r.frozen 1
      have fr2 := hB5.r.frozen 2
      have fr3 := hB5.r.frozen 3
      have HJ := Lib.hid (hB5.r.all4 (.int .i64 s.w) (.int .i64 s.h) (.int .i64 s.back) (.slice A7 n c7))
      have HOwn := Lib.hid hU7
      have HBw := Lib.hid hB5.bw
      clear hB5 ho5 hU7
      go_wp2_with fail
      obtain ⟨y0, y1, y2, y3⟩ := HJ.out.cells4
      exact edRet HDE.out HBw.out HOwn.out (by simp [results, Tryz.results64, go_sem, y0, y1, y2, y3])
end Go.Proofs.YtokniebejilcbaaGreat
