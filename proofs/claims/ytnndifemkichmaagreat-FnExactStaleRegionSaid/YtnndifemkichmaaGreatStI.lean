/- The contracts of canPresent and of StaleRegion of the program. No statement is proved here. -/
import Derived.Test.YtnndifemkichmaaGreatMA
import Derived.Test.YtnndifemkichmaaGreatMAv1
import Derived.Test.YtnndifemkichmaaGreatMB
import Derived.Test.YtnndifemkichmaaGreatB1sa
import Derived.Test.YtnndifemkichmaaGreatB0na
import Derived.Test.YtnndifemkichmaaGreatSnS
import Derived.Test.YtnndifemkichmaaGreatCombIv1
import Derived.Test.YtnndifemkichmaaGreatB1sav1
import Derived.Test.YtnndifemkichmaaGreatB1sb
import Derived.Test.YtnndifemkichmaaGreatMBv1
import Derived.Test.YtnndifemkichmaaGreatChLv1
import Derived.Test.YtnndifemkichmaaGreatChJv1
import Derived.Test.YtnndifemkichmaaGreatB0sav1
import Derived.Test.YtnndifemkichmaaGreatB1nav1
import Derived.Test.YtnndifemkichmaaGreatB1scv1
import Derived.Test.YtnndifemkichmaaGreatDmIv1
import Derived.Test.YtnndifemkichmaaGreatDmJv1
import Derived.Test.YtnndifemkichmaaGreatProg
import Derived.WalkKit
import Derived.ProofKit
import Derived.OpenShut
import Derived.WalkLawsBesides
import Derived.WalkSpells
import Derived.ShutString
import Derived.ChangeOld
import Derived.Below
import Derived.Lib.Hide
import Derived.BigQuiet
import Derived.Deep.QuietTactic
import Derived.Maps.AppendAt
import Derived.Deep.OwnRows
import Derived.Handy
import Derived.Deep.Draws
import Derived.OwnWalk
import Derived.Deep.AppendLies
import Derived.Deep.LoopGhost
import Derived.Deep.Onto
import Derived.Deep.MidRow
import Derived.Deep.WholeRow
import Derived.Laws.BitsAllLaws
import Derived.Lib.QuoteBits
import Derived.Deep.RegionHeld3
import Derived.Deep.DeepCutAuto
import Derived.Test.YtnndifemkichmaaGreatShelf
import Derived.Laws.CopyOwn
import Derived.Deep.RegionLaw
import Derived.Great.BuildSlice
import Derived.Laws.AppendOwn
import Derived.Shelf.RegionOpenPlain
import Derived.Lib.SliceRun
import Derived.Deep.RegionWith
import Derived.ChangeKeysEq
import Derived.Deep.DeepAppendRoom
import Derived.Maps.RangeWalk
import Derived.Maps.OwnOps
namespace Go.Proofs.YtnndifemkichmaaGreat
open Go.RowKit
theorem cap_lGs {w : World} {A : Option Addr} {n c : Nat} {L : List (List Rc)} {bs : List Nat} (h : repRgs.R w L [.slice A n c] bs) : n ≤ c := by
 rcases SlU.of_rep h with ⟨he, _, _⟩ | ⟨g, c', xs, bss, he, hU, _⟩
 ·injection he with e1 e2 e3; omega
 ·injection he with e1 e2 e3
  rcases hU.ow.2 with ⟨h1, _⟩ | ⟨g', cap, cur, h1, _, _, hn, _⟩
  ·cases h1
  ·injection h1 with f1 f2 f3; omega
theorem own_callB {w w' : World} {B n : Nat} {e : TypeId} {v : Value} {xs : List Value} (h : w.ownsRow B e 4 v n xs) (hb : Below w.heap.size w w') : w'.ownsRow B e 4 v n xs := own_keepB h fun b hb' => hb.block b (own_ltB h b hb').2
set_option maxHeartbeats 2000000 in
set_option maxRecDepth 10000 in
theorem cprI (f : Ch) (a b e d : Value) (bs : List Nat) (s : Sn) (v : Value) (cs : List Nat) (w : World) (h : repCh.R w f [a, b, e, .int .i64 f.s.w, .int .i64 f.s.h, .int .i64 f.s.back, d] bs) (hs : repSfs.R w s.fs [v] cs) :
  Calls Tryz.prog 70 #[.agg #[a, b, e, .int .i64 f.s.w, .int .i64 f.s.h, .int .i64 f.s.back, d], .agg #[.int .i64 s.w, .int .i64 s.h, .int .i64 s.back, v]] w fun e w' => e = .returned (.bool (preB f s)) ∧ Below w.heap.size w w' := by
 have hC : CnA w f a b e d bs ((w.alloc (.cells #[a, b, e, .int .i64 f.s.w, .int .i64 f.s.h, .int .i64 f.s.back, d] 34)).alloc (.cells #[.int .i64 s.w, .int .i64 s.h, .int .i64 s.back, v] 26)) := (CnA.born h).call (belI_box _ _)
 have hX : SnA (w.heap.size + 1) s v cs ((w.alloc (.cells #[a, b, e, .int .i64 f.s.w, .int .i64 f.s.h, .int .i64 f.s.back, d] 34)).alloc (.cells #[.int .i64 s.w, .int .i64 s.h, .int .i64 s.back, v] 26)) := ⟨BkAt.newAt (by simp) _ _, Rep.call hs (belI_call (belI_box _ _) (belI_box _ _))⟩
 obtain ⟨A0, c0, A1, c1, A2, c2, A3, c3, rfl, rfl, rfl, rfl⟩ := form_cn h
 obtain ⟨⟨Av, cv, rfl⟩, _⟩ := repSfs_form hs
 have HK := Lib.hid (cnI f _ _ _ _ bs _ hC.r)
 have HN := Lib.hid (fun (W : World) (h : repSfs.R W s.fs [.slice Av s.fs.length cv] cs) => snI s (.slice Av s.fs.length cv) cs W h)
 unfold CnOkAns at HK
 unfold SnOkAns at HN
 obtain ⟨d0, d1, d2, d3, d4, d5, d6⟩ := hC.cells
 have HC := Lib.hid hC
 have HX := Lib.hid hX
 clear h hs hC hX
 by_cases q0 : cnOk f
 rotate_left
 ·have hno := Lib.hid (preB_no (c := f) (s := s) fun h => q0 h.1)
  rw [cnB_no q0] at HK
  go_enter Tryz.func70, Tryz.ntmps70
  go_wp2_with fail
  refine HK.out.mono ?_
  rintro e w1 ⟨rfl, hb⟩
  have HB := Lib.hid (HC.out.call hb).bw
  clear d0 d1 d2 d3 d4 d5 d6 hb
  go_wp2_with fail
  go_ret
  exact ⟨ret_bool hno.out.symm, HB.out⟩
 rw [cnB_yes q0] at HK
 have Q0 := Lib.hid q0
 clear q0
 by_cases q1 : snOk s
 rotate_left
 ·have hno := Lib.hid (preB_no (c := f) (s := s) fun h => q1 h.2.1)
  rw [snB_no q1] at HN
  go_enter Tryz.func70, Tryz.ntmps70
  go_wp2_with fail
  refine HK.out.mono ?_
  rintro e w1 ⟨rfl, hb⟩
  have HC1 := Lib.hid (HC.out.call hb)
  have HX1 := Lib.hid (HX.out.call hb)
  clear d0 d1 d2 d3 d4 d5 d6 hb
  obtain ⟨x0, x1, x2, x3⟩ := HX1.out.cells
  go_wp2_with fail
  refine (HN.out _ HX1.out.r).mono ?_
  rintro e w2 ⟨rfl, hb⟩
  have HB := Lib.hid (HC1.out.call hb).bw
  clear x0 x1 x2 x3 hb
  go_wp2_with fail
  go_ret
  exact ⟨ret_bool hno.out.symm, HB.out⟩
 rw [snB_yes q1] at HN
 have Q1 := Lib.hid q1
 clear q1
 by_cases q2 : s.w = f.s.w
 rotate_left
 ·have hno := Lib.hid (preB_no (c := f) (s := s) fun h => q2 h.2.2.1)
  have q2b : (s.w == f.s.w) = false := by simpa using q2
  clear q2
  go_enter Tryz.func70, Tryz.ntmps70
  go_wp2_with fail
  refine HK.out.mono ?_
  rintro e w1 ⟨rfl, hb⟩
  have HC1 := Lib.hid (HC.out.call hb)
  have HX1 := Lib.hid (HX.out.call hb)
  clear d0 d1 d2 d3 d4 d5 d6 hb
  obtain ⟨x0, x1, x2, x3⟩ := HX1.out.cells
  go_wp2_with fail
  refine (HN.out _ HX1.out.r).mono ?_
  rintro e w2 ⟨rfl, hb⟩
  have HC2 := Lib.hid (HC1.out.call hb)
  have HX2 := Lib.hid (HX1.out.call hb)
  clear x0 x1 x2 x3 hb
  obtain ⟨x0, x1, x2, x3⟩ := HX2.out.cells
  obtain ⟨d0, d1, d2, d3, d4, d5, d6⟩ := HC2.out.cells
  go_wp2_with fail
  go_ret
  exact ⟨ret_bool hno.out.symm, HC2.out.bw⟩
 by_cases q3 : s.h = f.s.h
 rotate_left
 ·have hno := Lib.hid (preB_no (c := f) (s := s) fun h => q3 h.2.2.2)
  have q2b : (s.w == f.s.w) = true := by simpa using q2
  have q3b : (s.h == f.s.h) = false := by simpa using q3
  clear q2 q3
  go_enter Tryz.func70, Tryz.ntmps70
  go_wp2_with fail
  refine HK.out.mono ?_
  rintro e w1 ⟨rfl, hb⟩
  have HC1 := Lib.hid (HC.out.call hb)
  have HX1 := Lib.hid (HX.out.call hb)
  clear d0 d1 d2 d3 d4 d5 d6 hb
  obtain ⟨x0, x1, x2, x3⟩ := HX1.out.cells
  go_wp2_with fail
  refine (HN.out _ HX1.out.r).mono ?_
  rintro e w2 ⟨rfl, hb⟩
  have HC2 := Lib.hid (HC1.out.call hb)
  have HX2 := Lib.hid (HX1.out.call hb)
  clear x0 x1 x2 x3 hb
  obtain ⟨x0, x1, x2, x3⟩ := HX2.out.cells
  obtain ⟨d0, d1, d2, d3, d4, d5, d6⟩ := HC2.out.cells
  go_wp2_with fail
  go_ret
  exact ⟨ret_bool hno.out.symm, HC2.out.bw⟩
 ·have hno := Lib.hid (preB_yes (c := f) (s := s) ⟨Q0.out, Q1.out, q2, q3⟩)
  have q2b : (s.w == f.s.w) = true := by simpa using q2
  have q3b : (s.h == f.s.h) = true := by simpa using q3
  clear q2 q3
  go_enter Tryz.func70, Tryz.ntmps70
  go_wp2_with fail
  refine HK.out.mono ?_
  rintro e w1 ⟨rfl, hb⟩
  have HC1 := Lib.hid (HC.out.call hb)
  have HX1 := Lib.hid (HX.out.call hb)
  clear d0 d1 d2 d3 d4 d5 d6 hb
  obtain ⟨x0, x1, x2, x3⟩ := HX1.out.cells
  go_wp2_with fail
  refine (HN.out _ HX1.out.r).mono ?_
  rintro e w2 ⟨rfl, hb⟩
  have HC2 := Lib.hid (HC1.out.call hb)
  have HX2 := Lib.hid (HX1.out.call hb)
  clear x0 x1 x2 x3 hb
  obtain ⟨x0, x1, x2, x3⟩ := HX2.out.cells
  obtain ⟨d0, d1, d2, d3, d4, d5, d6⟩ := HC2.out.cells
  go_wp2_with fail
  go_ret
  exact ⟨ret_bool hno.out.symm, HC2.out.bw⟩
set_option maxHeartbeats 4000000 in
set_option maxRecDepth 10000 in
theorem staleI (f : Ch) (a b e d : Value) (bs : List Nat) (k : Int) (s : Sn) (v : Value) (cs : List Nat) (w : World) (h : repCh.R w f [a, b, e, .int .i64 f.s.w, .int .i64 f.s.h, .int .i64 f.s.back, d] bs) (hs : repSfs.R w s.fs [v] cs) :
  Calls Tryz.prog 22 #[.agg #[a, b, e, .int .i64 f.s.w, .int .i64 f.s.h, .int .i64 f.s.back, d], .int .i64 k, .agg #[.int .i64 s.w, .int .i64 s.h, .int .i64 s.back, v]] w (RgQ (staleM f k s) w) := by
 have hT := StA.born h hs
 obtain ⟨A0, c0, A1, c1, A2, c2, A3, c3, rfl, rfl, rfl, rfl⟩ := form_cn h
 obtain ⟨⟨Av, cv, rfl⟩, _⟩ := repSfs_form hs
 obtain ⟨V0, hV0⟩ : ∃ V, V = ((w.alloc (.cells #[.slice A0 f.ims.length c0, .slice A1 f.ages.length c1, .slice A2 f.rgs.length c2, .int .i64 f.s.w, .int .i64 f.s.h, .int .i64 f.s.back, .slice A3 f.s.fs.length c3] 34)).alloc (.cells #[.int .i64 s.w, .int .i64 s.h, .int .i64 s.back, .slice Av s.fs.length cv] 26)).alloc (.cells #[.slice none 0 0] 55) := ⟨_, rfl⟩
 rw [← hV0] at hT
 have HV0 := Lib.hid hV0
 obtain ⟨g, hg⟩ : ∃ g, g = w.heap.size := ⟨_, rfl⟩
 have Hg := Lib.hid hg
 have HT := Lib.hid hT
 have HB0 := Lib.hid (And.intro (repCh.ex h) (repSfs.ex hs))
 clear hV0 hg
 have HP := Lib.hid (fun (W : World) (hc : repCh.R W f [.slice A0 f.ims.length c0, .slice A1 f.ages.length c1, .slice A2 f.rgs.length c2, .int .i64 f.s.w, .int .i64 f.s.h, .int .i64 f.s.back, .slice A3 f.s.fs.length c3] bs) (hs : repSfs.R W s.fs [.slice Av s.fs.length cv] cs) => cprI f _ _ _ _ bs s _ cs W hc hs)
 have hml := (form_lIs (r_cn hT.c.r).choose_spec.choose_spec.choose_spec.choose_spec.1).2
 unfold maxLen at hml
 have Hml := Lib.hid hml
 obtain ⟨d0, d1, d2, d3, d4, d5, d6⟩ := hT.c.cells
 obtain ⟨x0, x1, x2, x3⟩ := hT.scells
 have zf := hT.z.frozen 0
 have zc := hT.z.cell 0 rfl
 rw [HV0.out] at d0 d1 d2 d3 d4 d5 d6 x0 x1 x2 x3 zf zc
 clear h hs hT hml
 by_cases q0 : preP f s
 rotate_left
 ·have hno := Lib.hid (stale_no (c := f) (k := k) (s := s) fun h => q0 h.1)
  rw [preB_no q0] at HP
  go_enter Tryz.func22, Tryz.ntmps22
  go_wp2_with fail
  rw [← HV0.out]
  refine (HP.out _ HT.out.c.r HT.out.s.r).mono ?_
  rintro e w1 ⟨rfl, hb⟩
  have HT1 := Lib.hid (HT.out.call hb)
  clear d0 d1 d2 d3 d4 d5 d6 x0 x1 x2 x3 zf zc hb
  have zf := HT1.out.z.frozen 0
  have zc := HT1.out.z.cell 0 rfl
  go_wp2_with fail
  rw [hno.out]
  exact bodyPost_ret (v := .agg #[.slice none 0 0]) (by simp [results, Tryz.results22, go_sem, zc]) rfl (st_nil HT1.out.c.bw _)
 rw [preB_yes q0] at HP
 by_cases q1 : 0 ≤ k ∧ k < f.ims.length
 rotate_left
 ·have hno := Lib.hid (stale_no (c := f) (k := k) (s := s) fun h => q1 h.2)
  have hn3 := q0.1.2.1.1.2
  have hn1 := q0.1.2.1.1.1
  have q1' : k < 0 ∨ (f.ims.length : Int) - 1 < k := by omega
  go_enter Tryz.func22, Tryz.ntmps22
  go_wp2_with fail
  rw [← HV0.out]
  refine (HP.out _ HT.out.c.r HT.out.s.r).mono ?_
  rintro e w1 ⟨rfl, hb⟩
  have HT1 := Lib.hid (HT.out.call hb)
  clear d0 d1 d2 d3 d4 d5 d6 x0 x1 x2 x3 zf zc hb
  have zf := HT1.out.z.frozen 0
  have zc := HT1.out.z.cell 0 rfl
  obtain ⟨d0, d1, d2, d3, d4, d5, d6⟩ := HT1.out.c.cells
  go_wp2_with fail
  refine (inI_no _ _ _ _ q1').mono ?_
  rintro e w2 ⟨rfl, rfl⟩
  go_wp2_with fail
  rw [hno.out]
  exact bodyPost_ret (v := .agg #[.slice none 0 0]) (by simp [results, Tryz.results22, go_sem, zc]) rfl (st_nil HT1.out.c.bw _)
 obtain ⟨q, rfl⟩ : ∃ q : Nat, k = (q : Int) := ⟨k.toNat, by omega⟩
 have hqn : q < f.ims.length := by omega
 have hn3 := q0.1.2.1.1.2
 have hqa : q < f.ages.length := by rw [q0.1.2.2.2.1]; exact hqn
 have hqi : (q : Int) < (f.ages.length : Int) := by omega
 have hq0 : (0 : Int) ≤ (q : Int) := by omega
 have hq1 : (q : Int) ≤ (f.ims.length : Int) - 1 := by omega
 have Q0 := Lib.hid q0
 have Hqn := Lib.hid hqn
 clear q0 q1 hqn
 go_enter Tryz.func22, Tryz.ntmps22
 go_wp2_with fail
 rw [← HV0.out]
 refine (HP.out _ HT.out.c.r HT.out.s.r).mono ?_
 rintro e w1 ⟨rfl, hb⟩
 have HT1 := Lib.hid (HT.out.call hb)
 have hsz1 : V0.heap.size ≤ w1.heap.size := hb.size
 clear d0 d1 d2 d3 d4 d5 d6 x0 x1 x2 x3 zf zc hb
 obtain ⟨d0, d1, d2, d3, d4, d5, d6⟩ := HT1.out.c.cells
 go_wp2_with fail
 refine (inI_yes _ _ _ _ hq0 hq1).mono ?_
 rintro e w2 ⟨rfl, rfl⟩
 obtain ⟨ga, x, rfl, hx, hcx⟩ := HT1.out.c.g.at_ (k := q) hqa
 have Hx := Lib.hid hx
 clear hx
 rcases age_cases Q0.out.1 Hx.out with rfl | ⟨n, rfl, hnm, hn2⟩
 ·have hno := Lib.hid (stale_zero Q0.out Hqn.out Hx.out)
  obtain ⟨x0, x1, x2, x3⟩ := HT1.out.scells
  have hR : RcAt (w1.alloc (.cells #[.int .i64 0, .int .i64 0, .int .i64 s.w, .int .i64 s.h] 131)) w1.heap.size ⟨0, 0, s.w, s.h⟩ := RcAt.new w1 ⟨0, 0, s.w, s.h⟩
  have HF := rofI (.slice (some ⟨w1.heap.size, 0, none⟩) 1 1) [⟨0, 0, s.w, s.h⟩] _ (RdR.one hR)
  obtain ⟨L, hL⟩ : ∃ L, L = canon (gridOf [⟨0, 0, s.w, s.h⟩]) := ⟨_, rfl⟩
  unfold RofAns at HF
  rw [← hL] at HF hno
  have HF := Lib.hid HF
  clear hL hR
  go_wp2_with fail
  refine HF.out.mono ?_
  rintro e w2 ⟨z, rfl, hz, hb⟩
  obtain ⟨Az, cz, rfl⟩ := own_shape hz
  have HT2 := Lib.hid (HT1.out.call (belI_call (belI_box _ _) hb))
  have hlt := HT1.out.z.lt
  have Hz := Lib.hid hz
  clear hz hb d0 d1 d2 d3 d4 d5 d6 x0 x1 x2 x3 hcx
  have zf := HT2.out.z.frozen 0
  have zc := HT2.out.z.cell 0 rfl
  go_wp2_with fail
  rw [hno.out]
  exact bodyPost_ret (v := .agg #[.slice Az L.length cz]) (by simp [results, Tryz.results22, go_sem, zc]) rfl (st_end Hz.out (by simp; have := HT1.out.c.bw.size; omega) (by simp; omega) HT2.out.c.bw)
 have hno := Lib.hid (stale_age Q0.out Hqn.out Hx.out)
 have a0 : (((n : Int) + 1) == 0) = false := by simp; omega
 have HD := Lib.hid (fun (W : World) (b4 : List Nat) (h1 : repSfs.R W f.s.fs [.slice A3 f.s.fs.length c3] b4) h2 => dmgI f.s s (.slice A3 f.s.fs.length c3) (.slice Av s.fs.length cv) b4 cs W h1 h2)
 unfold RgQ at HD
 obtain ⟨x0, x1, x2, x3⟩ := HT1.out.scells
 obtain ⟨b4, r4⟩ := HT1.out.c.sn
 have R4 := Lib.hid r4
 have hbs := Lib.hid HB0.out
 clear r4
 go_wp2_with fail
 clear hcx
 refine (HD.out _ _ R4.out HT1.out.s.r).mono ?_
 rintro e w2 ⟨z, rfl, hz, hb⟩
 obtain ⟨Az, cz, rfl⟩ := own_shape hz
 have hT2 := HT1.out.call hb
 have hsz2 := hb.size
 obtain ⟨V3, hV3⟩ : ∃ V, V = w2.alloc (.cells #[.slice Az (dmgM f.s s).length cz] 55) := ⟨_, rfl⟩
 obtain ⟨b7, hb7⟩ : ∃ b, b = w2.heap.size := ⟨_, rfl⟩
 have hb3 : Below w2.heap.size w2 V3 := by rw [hV3]; exact belI_box _ _
 have hT3 := hT2.call hb3
 have hx7 : BkAt V3 b7 55 #[.slice Az (dmgM f.s s).length cz] := by rw [hV3, hb7]; exact BkAt.new _ _ _
 have hz3 := own_callB hz hb3
 have hl2 := HT1.out.z.lt
 have h7 : w.heap.size + 1 + 1 < b7 := by omega
 have hz4 := own_rebase (C := w.heap.size + 1 + 1 + 1) hz3 (fun k hk => by have := (own_ltB hz3 k hk).1; omega)
 obtain ⟨Q, hQ⟩ : ∃ Q, Q = dmgM f.s s := ⟨_, rfl⟩
 rw [← hQ] at hx7 hz4 hV3
 have hQ0 : Q = stU f s 0 := by rw [hQ, stU_zero]
 have HX7 := Lib.hid hx7
 have HZ4 := Lib.hid hz4
 have HQ0 := Lib.hid hQ0
 have HT3 := Lib.hid hT3
 have HV3 := Lib.hid hV3
 have HB7 := Lib.hid hb7
 rw [← hQ]
 obtain ⟨b3, r3⟩ := hT3.c.r'
 have hm2 := (form_lGs r3).2
 unfold maxLen at hm2
 have hcap := cap_lGs r3
 have R3 := Lib.hid r3
 obtain ⟨ga', x', he, hx', hcx⟩ := hT3.c.g.at_ (k := q) hqa
 obtain rfl : ga = ga' := by simpa using he
 obtain rfl : (n : Int) + 1 = x' := Option.some.inj (Hx.out.symm.trans hx')
 clear d0 d1 d2 d3 d4 d5 d6 x0 x1 x2 x3 hz hb hT2 hb3 hT3 hx7 hz3 hz4 hQ hQ0 hV3 hb7 r3 he hx'
 go_upto_region 6 with fail
 rw [← HV3.out, ← HB7.out]
 obtain ⟨d0, d1, d2, d3, d4, d5, d6⟩ := HT3.out.c.cells
 have n0 : (0 : Int) ≤ (n : Int) := by omega
 have n1 : (n : Int) ≤ (c2 : Int) := by omega
 go_quiet (fail)
 clear d0 d1 d2 d3 d4 d5 d6 hcx
 go_wp2_with fail
 go_loopw [9, 51] (fun s9 s51 wr => ∃ (j : Nat) (z : Value), j ≤ n ∧ s51 = .int .i64 j ∧ Hid (StA w f (.slice A0 f.ims.length c0) (.slice (some ⟨ga, 0, none⟩) f.ages.length c1) (.slice A2 f.rgs.length c2) (.slice A3 f.s.fs.length c3) bs s (.slice Av s.fs.length cv) cs wr) ∧ Hid (BkAt wr b7 55 #[z]) ∧ Hid (wr.ownsRow (w.heap.size + 1 + 1 + 1) 131 4 z (stU f s j).length (rcsCells (stU f s j)))) (fun _ s51 _ => n - (intOf s51).toNat)
 case atStart => exact ⟨0, _, Nat.zero_le _, rfl, Lib.hid (HT3.out.call (below_drewN (Below.refl _ _) _)), Lib.hid (HX7.out.call (below_drewN (Below.refl _ _) _)), Lib.hid (by rw [← HQ0.out]; exact own_callB HZ4.out (below_drewN (Below.refl _ _) _))⟩
 case round =>
  obtain ⟨j, z, hj, rfl, HTj, HX, HZ⟩ := hrel
  by_cases hlt : j < n
  ·obtain ⟨b3', r3'⟩ := HTj.out.c.r'
   obtain ⟨gr, r, dr, br, rfl, hr, hR, hC⟩ := at_lGs r3' (k := j) (by omega)
   have y0 := hC 0 _ rfl
   rw [Nat.add_zero, Nat.mul_one] at y0
   have hd := r_rg hR
   obtain ⟨A', c', rfl⟩ := hd.form
   obtain ⟨Az', cz', rfl⟩ := own_shape HZ.out
   have hb0 := belI_box wr (.cells #[.slice A' r.length c'] 55)
   have HK := jnI0 _ _ (stU f s j) r _ (RdR.of_own (own_callB HZ.out hb0)) (hd.call hb0)
   unfold JoinAns at HK
   rw [← stU_succ hr] at HK
   obtain ⟨Q2, hQ2⟩ : ∃ Q, Q = stU f s (j + 1) := ⟨_, rfl⟩
   rw [← hQ2] at HK
   have HK := Lib.hid HK
   have HQ2 := Lib.hid hQ2
   obtain ⟨Q1, hQ1⟩ : ∃ Q, Q = stU f s j := ⟨_, rfl⟩
   rw [← hQ1] at HK HX HZ
   have hX4 := HX.out.call hb0
   have hT4 := HTj.out.call hb0
   have hl7 := hX4.lt
   have e7 := hX4.cell 0 rfl
   have j0 : (0 : Int) ≤ (j : Int) := by omega
   have j1 : (j : Int) < (n : Int) := by omega
   have HT4 := Lib.hid hT4
   have HX4 := Lib.hid hX4
   clear r3' hr hR hC hd hb0 hQ2 hQ1 hT4 hX4
   go_wp2_with fail
   refine HK.out.mono ?_
   rintro e w5 ⟨z2, rfl, hz2, hb⟩
   obtain ⟨A5, c5, rfl⟩ := own_shape hz2
   have hX5 := HX4.out.call hb
   have hT5 := HT4.out.call hb
   have hn1 : b7 ∉ bs := fun hk => by have := hbs.out.1 _ hk; omega
   have hn2 : b7 ∉ cs := fun hk => by have := hbs.out.2 _ hk; omega
   have HT6 := Lib.hid (hT5.other (grown_setB w5 b7 0 (.slice A5 Q2.length c5)) h7 hn1 hn2 (by omega))
   have HX6 := Lib.hid (hX5.put (cs' := #[.slice A5 Q2.length c5]) 0 (.slice A5 Q2.length c5) rfl)
   have HZ6 := Lib.hid (own_set (B := w.heap.size + 1 + 1 + 1) hz2 (by omega) hl7 (.slice A5 Q2.length c5))
   have e7' := hX5.cell 0 rfl
   have f7 := hX5.frozen 0
   clear e7 y0 hz2 hb hX5 hT5 hn1 hn2
   go_wp2_with fail
   go_roundw
   case rel => exact ⟨j + 1, _, by omega, by go_num, HT6, HX6, by rw [← HQ2.out]; exact HZ6⟩
   case measure => simp [intOf]; omega
  ·obtain rfl : j = n := by omega
   obtain ⟨Q1, hQ1⟩ : ∃ Q, Q = stU f s j := ⟨_, rfl⟩
   rw [← hQ1] at HZ hno
   obtain ⟨Az', cz', rfl⟩ := own_shape HZ.out
   have e7 := HX.out.cell 0 rfl
   have zf := HTj.out.z.frozen 0
   have zc := HTj.out.z.cell 0 rfl
   clear hQ1
   go_wp2_with fail
   rw [hno.out]
   exact bodyPost_ret (v := .agg #[.slice Az' Q1.length cz']) (by simp [results, Tryz.results22, go_sem, zc]) rfl (st_end HZ.out (by omega) (by omega) HTj.out.c.bw)
end Go.Proofs.YtnndifemkichmaaGreat
