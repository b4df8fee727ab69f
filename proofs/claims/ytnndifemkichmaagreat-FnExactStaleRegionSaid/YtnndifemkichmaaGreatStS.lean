/- The contract of StaleRegion of the model. No statement is proved here. -/
import Derived.Test.YtnndifemkichmaaGreatMA
import Derived.Test.YtnndifemkichmaaGreatMAv1
import Derived.Test.YtnndifemkichmaaGreatMB
import Derived.Test.YtnndifemkichmaaGreatB1sa
import Derived.Test.YtnndifemkichmaaGreatB0na
import Derived.Test.YtnndifemkichmaaGreatSnS
import Derived.Test.YtnndifemkichmaaGreatCombIv1
import Derived.Test.YtnndifemkichmaaGreatB1nav1
import Derived.Test.YtnndifemkichmaaGreatB1sav1
import Derived.Test.YtnndifemkichmaaGreatB1sb
import Derived.Test.YtnndifemkichmaaGreatMBv1
import Derived.Test.YtnndifemkichmaaGreatChLv1
import Derived.Test.YtnndifemkichmaaGreatChJv1
import Derived.Test.YtnndifemkichmaaGreatB0sav1
import Derived.Test.YtnndifemkichmaaGreatB1scv1
import Derived.Test.YtnndifemkichmaaGreatDmIv1
import Derived.Test.YtnndifemkichmaaGreatDmJv1
import Derived.Test.YtnndifemkichmaaGreatStI
import Derived.Test.YtnndifemkichmaaGreatChSv1
import Derived.Test.YtnndifemkichmaaGreatDmSv1
import Derived.Test.YtnndifemkichmaaGreatB1sbv1
import Derived.Test.YtnndifemkichmaaGreatProg
import Derived.WalkKit
import Derived.ProofKit
import Derived.OpenShut
import Derived.WalkLawsBesides
import Derived.WalkSpells
import Derived.ShutString
import Derived.ChangeOld
import Derived.Below
import Derived.Lib.Hide
import Derived.BigQuiet
import Derived.Deep.QuietTactic
import Derived.Maps.AppendAt
import Derived.Deep.OwnRows
import Derived.Handy
import Derived.Deep.Draws
import Derived.OwnWalk
import Derived.Deep.AppendLies
import Derived.Deep.LoopGhost
import Derived.Deep.Onto
import Derived.Deep.MidRow
import Derived.Deep.WholeRow
import Derived.Laws.BitsAllLaws
import Derived.Lib.QuoteBits
import Derived.Deep.RegionHeld3
import Derived.Deep.DeepCutAuto
import Derived.Test.YtnndifemkichmaaGreatShelf
import Derived.Laws.CopyOwn
import Derived.Deep.RegionLaw
import Derived.Great.BuildSlice
import Derived.Laws.AppendOwn
import Derived.Shelf.RegionOpenPlain
import Derived.Lib.SliceRun
import Derived.Deep.RegionWith
import Derived.ChangeKeysEq
import Derived.Deep.DeepAppendRoom
import Derived.Maps.RangeWalk
import Derived.Maps.OwnOps
namespace Go.Proofs.YtnndifemkichmaaGreat
open Go.RowKit
structure StK (w : World) (f : Ch) (a b e d : Value) (bs : List Nat) (s : Sn) (v : Value) (cs : List Nat) (g j : Nat) (x : Value) (r : List Rc) (W : World) : Prop where
 t : StA w f a b e d bs s v cs W
 y : W.cell? ⟨g, j, none⟩ = some x
 r : RdR W x r
theorem StK.call {w : World} {f : Ch} {a b e d : Value} {bs : List Nat} {s : Sn} {v : Value} {cs : List Nat} {g j : Nat} {x : Value} {r : List Rc} {W W' : World} (h : StK w f a b e d bs s v cs g j x r W) (hb : Below W.heap.size W W') : StK w f a b e d bs s v cs g j x r W' := ⟨h.t.call hb, (hb.cell (World.block_lt_of_cell? W _ h.y)).trans h.y, h.r.call hb⟩
theorem StK.other {w : World} {f : Ch} {a b e d : Value} {bs : List Nat} {s : Sn} {v : Value} {cs : List Nat} {g j : Nat} {x : Value} {r : List Rc} {W W' : World} (h : StK w f a b e d bs s v cs g j x r W) {q : Nat} (hg : W.grownBy W' (some q)) (h7 : w.heap.size + 1 + 1 < q) (hr : q ∉ bs) (hcs : q ∉ cs) (hgr : g < w.heap.size) (hdr : ∀ b, x.ownBlock = some b → b < w.heap.size) : StK w f a b e d bs s v cs g j x r W' :=
 ⟨h.t.other hg h7 hr hcs (by omega), (World.cell?_of_block (hg.block g (World.block_lt_of_cell? W _ h.y) (fun e => by injection e with e; omega))).trans h.y, h.r.grown hg (fun b hb e => by have := hdr b hb; injection e with e; omega)⟩
theorem own_grownB {w w' : World} {B n g : Nat} {e : TypeId} {v : Value} {xs : List Value} (h : w.ownsRow B e 4 v n xs) (hg : w.grownBy w' (some g)) (hl : g < B) : w'.ownsRow B e 4 v n xs := own_keepB h fun b hb => hg.block b (own_ltB h b hb).2 (fun e => by have := (own_ltB h b hb).1; injection e with e; omega)
set_option maxHeartbeats 4000000 in
set_option maxRecDepth 10000 in
theorem staleS (f : Ch) (a b e d : Value) (bs : List Nat) (k : Int) (s : Sn) (v : Value) (cs : List Nat) (w : World) (h : repCh.R w f [a, b, e, .int .i64 f.s.w, .int .i64 f.s.h, .int .i64 f.s.back, d] bs) (hs : repSfs.R w s.fs [v] cs) :
  Calls Tryz.prog 19 #[.agg #[a, b, e, .int .i64 f.s.w, .int .i64 f.s.h, .int .i64 f.s.back, d], .int .i64 k, .agg #[.int .i64 s.w, .int .i64 s.h, .int .i64 s.back, v]] w (RgQ (staleM f k s) w) := by
 have hT := StA.born h hs
 obtain ⟨A0, c0, A1, c1, A2, c2, A3, c3, rfl, rfl, rfl, rfl⟩ := form_cn h
 obtain ⟨⟨Av, cv, rfl⟩, _⟩ := repSfs_form hs
 obtain ⟨V0, hV0⟩ : ∃ V, V = ((w.alloc (.cells #[.slice A0 f.ims.length c0, .slice A1 f.ages.length c1, .slice A2 f.rgs.length c2, .int .i64 f.s.w, .int .i64 f.s.h, .int .i64 f.s.back, .slice A3 f.s.fs.length c3] 34)).alloc (.cells #[.int .i64 s.w, .int .i64 s.h, .int .i64 s.back, .slice Av s.fs.length cv] 26)).alloc (.cells #[.slice none 0 0] 55) := ⟨_, rfl⟩
 rw [← hV0] at hT
 have HV0 := Lib.hid hV0
 obtain ⟨g, hg⟩ : ∃ g, g = w.heap.size := ⟨_, rfl⟩
 have Hg := Lib.hid hg
 have HT := Lib.hid hT
 have HB0 := Lib.hid (And.intro (repCh.ex h) (repSfs.ex hs))
 clear hV0 hg
 obtain ⟨_, _, b3w, _, _, _, hr3w, _, _⟩ := r_cn h
 have HR0 := Lib.hid hr3w
 clear hr3w
 have HK := Lib.hid (fun (W : World) (hc : repCh.R W f [.slice A0 f.ims.length c0, .slice A1 f.ages.length c1, .slice A2 f.rgs.length c2, .int .i64 f.s.w, .int .i64 f.s.h, .int .i64 f.s.back, .slice A3 f.s.fs.length c3] bs) => cnS f _ _ _ _ bs W hc)
 have HN := Lib.hid (fun (W : World) (h : repSfs.R W s.fs [.slice Av s.fs.length cv] cs) => snS s (.slice Av s.fs.length cv) cs W h)
 unfold CnOkAns at HK
 unfold SnOkAns at HN
 obtain ⟨d0, d1, d2, d3, d4, d5, d6⟩ := hT.c.cells
 obtain ⟨x0, x1, x2, x3⟩ := hT.scells
 have zf := hT.z.frozen 0
 have zc := hT.z.cell 0 rfl
 rw [HV0.out] at d0 d1 d2 d3 d4 d5 d6 x0 x1 x2 x3 zf zc
 clear h hs hT
 by_cases q0 : cnOk f
 rotate_left
 ·have hno := Lib.hid (stale_no (c := f) (k := k) (s := s) fun h => q0 h.1.1)
  rw [cnB_no q0] at HK
  go_enter Tryz.func19, Tryz.ntmps19
  go_wp2_with fail
  rw [← HV0.out]
  refine (HK.out _ HT.out.c.r).mono ?_
  rintro e w1 ⟨rfl, hb⟩
  have HT1 := Lib.hid (HT.out.call hb)
  clear d0 d1 d2 d3 d4 d5 d6 x0 x1 x2 x3 zf zc hb
  have zf := HT1.out.z.frozen 0
  have zc := HT1.out.z.cell 0 rfl
  go_wp2_with fail
  rw [hno.out]
  exact bodyPost_ret (v := .agg #[.slice none 0 0]) (by simp [results, Tryz.results19, go_sem, zc]) rfl (st_nil HT1.out.c.bw _)
 rw [cnB_yes q0] at HK
 by_cases q1 : snOk s
 rotate_left
 ·have hno := Lib.hid (stale_no (c := f) (k := k) (s := s) fun h => q1 h.1.2.1)
  rw [snB_no q1] at HN
  go_enter Tryz.func19, Tryz.ntmps19
  go_wp2_with fail
  rw [← HV0.out]
  refine (HK.out _ HT.out.c.r).mono ?_
  rintro e w1 ⟨rfl, hb⟩
  have HT0 := Lib.hid (HT.out.call hb)
  clear d0 d1 d2 d3 d4 d5 d6 x0 x1 x2 x3 zf zc hb
  obtain ⟨x0, x1, x2, x3⟩ := HT0.out.scells
  go_wp2_with fail
  refine (HN.out _ HT0.out.s.r).mono ?_
  rintro e w2 ⟨rfl, hb⟩
  have HT1 := Lib.hid (HT0.out.call hb)
  clear x0 x1 x2 x3 hb
  have zf := HT1.out.z.frozen 0
  have zc := HT1.out.z.cell 0 rfl
  go_wp2_with fail
  rw [hno.out]
  exact bodyPost_ret (v := .agg #[.slice none 0 0]) (by simp [results, Tryz.results19, go_sem, zc]) rfl (st_nil HT1.out.c.bw _)
 rw [snB_yes q1] at HN
 by_cases q2 : s.w = f.s.w
 rotate_left
 ·have hno := Lib.hid (stale_no (c := f) (k := k) (s := s) fun h => q2 h.1.2.2.1)
  have q2b : (s.w != f.s.w) = true := by simpa using q2
  clear q2
  go_enter Tryz.func19, Tryz.ntmps19
  go_wp2_with fail
  rw [← HV0.out]
  refine (HK.out _ HT.out.c.r).mono ?_
  rintro e w1 ⟨rfl, hb⟩
  have HT0 := Lib.hid (HT.out.call hb)
  clear d0 d1 d2 d3 d4 d5 d6 x0 x1 x2 x3 zf zc hb
  obtain ⟨x0, x1, x2, x3⟩ := HT0.out.scells
  go_wp2_with fail
  refine (HN.out _ HT0.out.s.r).mono ?_
  rintro e w2 ⟨rfl, hb⟩
  have HT1 := Lib.hid (HT0.out.call hb)
  clear x0 x1 x2 x3 hb
  obtain ⟨x0, x1, x2, x3⟩ := HT1.out.scells
  obtain ⟨d0, d1, d2, d3, d4, d5, d6⟩ := HT1.out.c.cells
  have zf := HT1.out.z.frozen 0
  have zc := HT1.out.z.cell 0 rfl
  go_wp2_with fail
  rw [hno.out]
  exact bodyPost_ret (v := .agg #[.slice none 0 0]) (by simp [results, Tryz.results19, go_sem, zc]) rfl (st_nil HT1.out.c.bw _)
 by_cases q3 : s.h = f.s.h
 rotate_left
 ·have hno := Lib.hid (stale_no (c := f) (k := k) (s := s) fun h => q3 h.1.2.2.2)
  have q2b : (s.w != f.s.w) = false := by simpa using q2
  have q3b : (s.h != f.s.h) = true := by simpa using q3
  clear q2 q3
  go_enter Tryz.func19, Tryz.ntmps19
  go_wp2_with fail
  rw [← HV0.out]
  refine (HK.out _ HT.out.c.r).mono ?_
  rintro e w1 ⟨rfl, hb⟩
  have HT0 := Lib.hid (HT.out.call hb)
  clear d0 d1 d2 d3 d4 d5 d6 x0 x1 x2 x3 zf zc hb
  obtain ⟨x0, x1, x2, x3⟩ := HT0.out.scells
  go_wp2_with fail
  refine (HN.out _ HT0.out.s.r).mono ?_
  rintro e w2 ⟨rfl, hb⟩
  have HT1 := Lib.hid (HT0.out.call hb)
  clear x0 x1 x2 x3 hb
  obtain ⟨x0, x1, x2, x3⟩ := HT1.out.scells
  obtain ⟨d0, d1, d2, d3, d4, d5, d6⟩ := HT1.out.c.cells
  have zf := HT1.out.z.frozen 0
  have zc := HT1.out.z.cell 0 rfl
  go_wp2_with fail
  rw [hno.out]
  exact bodyPost_ret (v := .agg #[.slice none 0 0]) (by simp [results, Tryz.results19, go_sem, zc]) rfl (st_nil HT1.out.c.bw _)
 have Q0 := Lib.hid (show preP f s from ⟨q0, q1, q2, q3⟩)
 have q2b : (s.w != f.s.w) = false := by simpa using q2
 have q3b : (s.h != f.s.h) = false := by simpa using q3
 clear q0 q1 q2 q3
 by_cases q4 : 0 ≤ k ∧ k < f.ims.length
 rotate_left
 ·have hno := Lib.hid (stale_no (c := f) (k := k) (s := s) fun h => q4 h.2)
  by_cases q5 : k < 0
  ·go_enter Tryz.func19, Tryz.ntmps19
   go_wp2_with fail
   rw [← HV0.out]
   refine (HK.out _ HT.out.c.r).mono ?_
   rintro e w1 ⟨rfl, hb⟩
   have HT0 := Lib.hid (HT.out.call hb)
   clear d0 d1 d2 d3 d4 d5 d6 x0 x1 x2 x3 zf zc hb
   obtain ⟨x0, x1, x2, x3⟩ := HT0.out.scells
   go_wp2_with fail
   refine (HN.out _ HT0.out.s.r).mono ?_
   rintro e w2 ⟨rfl, hb⟩
   have HT1 := Lib.hid (HT0.out.call hb)
   clear x0 x1 x2 x3 hb
   obtain ⟨x0, x1, x2, x3⟩ := HT1.out.scells
   obtain ⟨d0, d1, d2, d3, d4, d5, d6⟩ := HT1.out.c.cells
   have zf := HT1.out.z.frozen 0
   have zc := HT1.out.z.cell 0 rfl
   go_wp2_with fail
   rw [hno.out]
   exact bodyPost_ret (v := .agg #[.slice none 0 0]) (by simp [results, Tryz.results19, go_sem, zc]) rfl (st_nil HT1.out.c.bw _)
  ·have q6 : (f.ims.length : Int) ≤ k := by omega
   go_enter Tryz.func19, Tryz.ntmps19
   go_wp2_with fail
   rw [← HV0.out]
   refine (HK.out _ HT.out.c.r).mono ?_
   rintro e w1 ⟨rfl, hb⟩
   have HT0 := Lib.hid (HT.out.call hb)
   clear d0 d1 d2 d3 d4 d5 d6 x0 x1 x2 x3 zf zc hb
   obtain ⟨x0, x1, x2, x3⟩ := HT0.out.scells
   go_wp2_with fail
   refine (HN.out _ HT0.out.s.r).mono ?_
   rintro e w2 ⟨rfl, hb⟩
   have HT1 := Lib.hid (HT0.out.call hb)
   clear x0 x1 x2 x3 hb
   obtain ⟨x0, x1, x2, x3⟩ := HT1.out.scells
   obtain ⟨d0, d1, d2, d3, d4, d5, d6⟩ := HT1.out.c.cells
   have zf := HT1.out.z.frozen 0
   have zc := HT1.out.z.cell 0 rfl
   go_wp2_with fail
   rw [hno.out]
   exact bodyPost_ret (v := .agg #[.slice none 0 0]) (by simp [results, Tryz.results19, go_sem, zc]) rfl (st_nil HT1.out.c.bw _)
 obtain ⟨q, rfl⟩ : ∃ q : Nat, k = (q : Int) := ⟨k.toNat, by omega⟩
 have hqn : q < f.ims.length := by omega
 have hqa : q < f.ages.length := by rw [Q0.out.1.2.2.2.1]; exact hqn
 have hqi : (q : Int) < (f.ages.length : Int) := by omega
 have hq0 : (0 : Int) ≤ (q : Int) := by omega
 have hq1 : (q : Int) < (f.ims.length : Int) := by omega
 have Hqn := Lib.hid hqn
 clear q4 hqn
 go_enter Tryz.func19, Tryz.ntmps19
 go_wp2_with fail
 rw [← HV0.out]
 refine (HK.out _ HT.out.c.r).mono ?_
 rintro e w1 ⟨rfl, hb⟩
 have HT0 := Lib.hid (HT.out.call hb)
 clear d0 d1 d2 d3 d4 d5 d6 x0 x1 x2 x3 zf zc hb
 obtain ⟨x0, x1, x2, x3⟩ := HT0.out.scells
 go_wp2_with fail
 refine (HN.out _ HT0.out.s.r).mono ?_
 rintro e w2 ⟨rfl, hb⟩
 have HT1 := Lib.hid (HT0.out.call hb)
 clear x0 x1 x2 x3 hb
 obtain ⟨x0, x1, x2, x3⟩ := HT1.out.scells
 obtain ⟨d0, d1, d2, d3, d4, d5, d6⟩ := HT1.out.c.cells
 obtain ⟨ga, x, rfl, hx, hcx⟩ := HT1.out.c.g.at_ (k := q) hqa
 have Hx := Lib.hid hx
 clear hx
 rcases age_cases Q0.out.1 Hx.out with rfl | ⟨n, rfl, hnm, hn2⟩
 ·have hno := Lib.hid (stale_zero Q0.out Hqn.out Hx.out)
  have HF := scrS s (.slice Av s.fs.length cv) w2
  obtain ⟨L, hL⟩ : ∃ L, L = canon (gridOf [⟨0, 0, s.w, s.h⟩]) := ⟨_, rfl⟩
  unfold RofAns at HF
  rw [← hL] at HF hno
  have HF := Lib.hid HF
  clear hL
  go_wp2_with fail
  refine HF.out.mono ?_
  rintro e w3 ⟨z, rfl, hz, hb⟩
  obtain ⟨Az, cz, rfl⟩ := own_shape hz
  have HT2 := Lib.hid (HT1.out.call hb)
  have hlt := HT1.out.z.lt
  have Hz := Lib.hid hz
  clear hz hb d0 d1 d2 d3 d4 d5 d6 x0 x1 x2 x3 hcx
  have zf := HT2.out.z.frozen 0
  have zc := HT2.out.z.cell 0 rfl
  go_wp2_with fail
  rw [hno.out]
  exact bodyPost_ret (v := .agg #[.slice Az L.length cz]) (by simp [results, Tryz.results19, go_sem, zc]) rfl (st_end Hz.out (by have := HT1.out.c.bw.size; omega) hlt HT2.out.c.bw)
 have hno := Lib.hid (stale_age Q0.out Hqn.out Hx.out)
 have a0 : (((n : Int) + 1) == 0) = false := by simp; omega
 have HD := Lib.hid (fun (W : World) (b4 : List Nat) (h1 : repSfs.R W f.s.fs [.slice A3 f.s.fs.length c3] b4) h2 => dmgS f.s s (.slice A3 f.s.fs.length c3) (.slice Av s.fs.length cv) b4 cs W h1 h2)
 unfold RgQ at HD
 obtain ⟨b4, r4⟩ := HT1.out.c.sn
 have R4 := Lib.hid r4
 have hbs := Lib.hid HB0.out
 clear r4
 go_wp2_with fail
 clear hcx d0 d1 d2 d3 d4 d5 d6 x0 x1 x2 x3
 refine (HD.out _ _ R4.out HT1.out.s.r).mono ?_
 rintro e w3 ⟨z, rfl, hz, hb⟩
 obtain ⟨Az, cz, rfl⟩ := own_shape hz
 have hT2 := HT1.out.call hb
 have hsz2 := hb.size
 obtain ⟨V3, hV3⟩ : ∃ V, V = w3.alloc (.cells #[.slice Az (dmgM f.s s).length cz] 55) := ⟨_, rfl⟩
 obtain ⟨b7, hb7⟩ : ∃ b, b = w3.heap.size := ⟨_, rfl⟩
 have hb3 : Below w3.heap.size w3 V3 := by rw [hV3]; exact belI_box _ _
 have hT3 := hT2.call hb3
 have hx7 : BkAt V3 b7 55 #[.slice Az (dmgM f.s s).length cz] := by rw [hV3, hb7]; exact BkAt.new _ _ _
 have hz3 := own_callB hz hb3
 have hl2 := HT1.out.z.lt
 have h7 : w.heap.size + 1 + 1 < b7 := by omega
 have hz4 := own_rebase (C := w.heap.size + 1 + 1 + 1) hz3 (fun k hk => by have := (own_ltB hz3 k hk).1; omega)
 obtain ⟨Q, hQ⟩ : ∃ Q, Q = dmgM f.s s := ⟨_, rfl⟩
 rw [← hQ] at hx7 hz4 hV3
 have hQ0 : Q = stU f s 0 := by rw [hQ, stU_zero]
 have HX7 := Lib.hid hx7
 have HZ4 := Lib.hid hz4
 have HQ0 := Lib.hid hQ0
 have HT3 := Lib.hid hT3
 have HV3 := Lib.hid hV3
 have HB7 := Lib.hid hb7
 rw [← hQ]
 obtain ⟨b3, r3⟩ := hT3.c.r'
 have hm2 := (form_lGs r3).2
 unfold maxLen at hm2
 clear hz hb hT2 hb3 hT3 hx7 hz3 hz4 hQ hQ0 hV3 hb7 r3 HN HK HD
 go_wp2_with fail
 rw [← HV3.out, ← HB7.out]
 go_loopw [8] (fun s8 wr => ∃ (j : Nat) (z : Value), j ≤ n ∧ s8 = .int .i64 j ∧ Hid (StA w f (.slice A0 f.ims.length c0) (.slice (some ⟨ga, 0, none⟩) f.ages.length c1) (.slice A2 f.rgs.length c2) (.slice A3 f.s.fs.length c3) bs s (.slice Av s.fs.length cv) cs wr) ∧ Hid (BkAt wr b7 55 #[z]) ∧ Hid (wr.ownsRow (w.heap.size + 1 + 1 + 1) 131 4 z (stU f s j).length (rcsCells (stU f s j)))) (fun s8 _ => n - (intOf s8).toNat)
 case atStart => exact ⟨0, _, Nat.zero_le _, rfl, HT3, HX7, by rw [← HQ0.out]; exact HZ4⟩
 case round =>
  obtain ⟨j, z, hj, rfl, HTj, HX, HZ⟩ := hrel
  obtain ⟨ga', x', he, hx', hcx⟩ := HTj.out.c.g.at_ (k := q) hqa
  obtain rfl : ga = ga' := by simpa using he
  obtain rfl : (n : Int) + 1 = x' := Option.some.inj (Hx.out.symm.trans hx')
  clear he hx'
  obtain ⟨d0, d1, d2, d3, d4, d5, d6⟩ := HTj.out.c.cells
  by_cases hlt : j < n
  ·obtain ⟨b3', r3'⟩ := HTj.out.c.r'
   obtain ⟨gr, r, dr, br, rfl, hr, hR, hC⟩ := at_lGs r3' (k := j) (by omega)
   obtain ⟨g0, r0, dr0, b0, he0, _, hR0, hC0⟩ := at_lGs HR0.out (k := j) (by omega)
   obtain rfl : gr = g0 := by simpa using he0
   have hgr : gr < w.heap.size := World.block_lt_of_cell? _ _ (hC0 0 _ rfl)
   obtain rfl : dr = dr0 := Option.some.inj ((hC 0 _ rfl).symm.trans ((HTj.out.c.bw.cell (p := ⟨gr, j * 1 + 0, none⟩) hgr).trans (hC0 0 _ rfl)))
   have hdr : ∀ b, dr.ownBlock = some b → b < w.heap.size := fun b hb => by
    obtain ⟨v', e', ho, _⟩ := hR0
    obtain rfl : dr = v' := by simpa [rgCells] using e'
    exact (own_ltB ho b (by simp [hb])).2
   clear he0 hR0 hC0
   have y0 := hC 0 _ rfl
   rw [Nat.add_zero, Nat.mul_one] at y0
   have hd := r_rg hR
   obtain ⟨A', c', rfl⟩ := hd.form
   obtain ⟨Az', cz', rfl⟩ := own_shape HZ.out
   have HK := fun (W : World) (h1 : RdR W (.slice Az' (stU f s j).length cz') (stU f s j)) (h2 : RdR W (.slice A' r.length c') r) => jnS0 _ _ (stU f s j) r W h1 h2
   unfold JoinAns at HK
   rw [← stU_succ hr] at HK
   obtain ⟨Q2, hQ2⟩ : ∃ Q, Q = stU f s (j + 1) := ⟨_, rfl⟩
   rw [← hQ2] at HK
   have HK := Lib.hid HK
   have HQ2 := Lib.hid hQ2
   obtain ⟨Q1, hQ1⟩ : ∃ Q, Q = stU f s j := ⟨_, rfl⟩
   rw [← hQ1] at HK HX HZ
   have hl7 := HX.out.lt
   have j0 : (0 : Int) ≤ (j : Int) := by omega
   have j1 : (j : Int) < (n : Int) := by omega
   have j2 : (j : Int) < (f.rgs.length : Int) := by omega
   have hn1 : b7 ∉ bs := fun hk => by have := hbs.out.1 _ hk; omega
   have hn2 : b7 ∉ cs := fun hk => by have := hbs.out.2 _ hk; omega
   have hT : StK w f (.slice A0 f.ims.length c0) (.slice (some ⟨ga, 0, none⟩) f.ages.length c1) (.slice (some ⟨gr, 0, none⟩) f.rgs.length c2) (.slice A3 f.s.fs.length c3) bs s (.slice Av s.fs.length cv) cs gr j (.slice A' r.length c') r wr := ⟨HTj.out, y0, hd⟩
   have HT := Lib.hid hT
   clear r3' hr hR hC hd hQ2 hQ1 y0 hT
   go_upto_region 9 with fail
   clear d0 d1 d2 d3 d4 d5 d6 hcx
   refine wp_region_held_drew (S := fun W => StK w f (.slice A0 f.ims.length c0) (.slice (some ⟨ga, 0, none⟩) f.ages.length c1) (.slice (some ⟨gr, 0, none⟩) f.rgs.length c2) (.slice A3 f.s.fs.length c3) bs s (.slice Av s.fs.length cv) cs gr j (.slice A' r.length c') r W) (by kernel_rfl) (HT.out.call (belI_drew _)) (fun hS => ?_)
   have hx := HX.out.call (belI_drew _)
   have hz := own_callB HZ.out (belI_drew _)
   refine tcH (i := 1) (v := .pointer (some ⟨w.heap.size, 2, none⟩)) rfl (by intro w' hSw; (try dsimp only at hSw); (obtain ⟨d0, d1, d2, d3, d4, d5, d6⟩ := hSw.t.c.cells); (have yk := hSw.y); go_simp) ?_
   refine tcH (i := 2) (v := .slice (some ⟨gr, 0, none⟩) f.rgs.length c2) rfl (by intro w' hSw; (try dsimp only at hSw); (obtain ⟨d0, d1, d2, d3, d4, d5, d6⟩ := hSw.t.c.cells); (have yk := hSw.y); go_simp) ?_
   refine tcH (i := 3) (v := .int .i64 (j : Int)) rfl (by intro w' hSw; (try dsimp only at hSw); (obtain ⟨d0, d1, d2, d3, d4, d5, d6⟩ := hSw.t.c.cells); (have yk := hSw.y); go_simp) ?_
   refine tcH (i := 4) (v := .pointer (some ⟨gr, j, none⟩)) rfl (by intro w' hSw; (try dsimp only at hSw); (obtain ⟨d0, d1, d2, d3, d4, d5, d6⟩ := hSw.t.c.cells); (have yk := hSw.y); go_simp) ?_
   refine tcH (i := 5) (v := .agg #[.slice A' r.length c']) rfl (by intro w' hSw; (try dsimp only at hSw); (obtain ⟨d0, d1, d2, d3, d4, d5, d6⟩ := hSw.t.c.cells); (have yk := hSw.y); go_simp) ?_
   (try simp only [Act.put]); (try simp only [zPa]); (try simp only [zPb, zPc])
   refine wpAnyH_ready (rs := [0]) (by kernel_rfl) (by simp) ?_
   refine (AllReadyH.cons rfl (fun K hK => ?_) AllReadyH.nil)
   ·rw [if_pos (by kernel_rfl)]
    (try simp only [zGa]); (try simp only [zGb]); (try simp only [zGc])
    refine wp_load_bk 55 (.tmp 7) rfl b7 55 #[.slice Az' Q1.length cz'] _ Tryz.underlying55 (by kernel_rfl) (by first | with_reducible rfl | (go_simp; done) | rfl) hx ?_
    have hx := hx.call (Below.refl _ _)
    have hz := own_callB hz (Below.refl _ _)
    refine hK.out _ _ (hS) (fun hS => ?_)
    clear hK
    (try simp only [Act.put]); (try simp only [zPa]); (try simp only [zPb, zPc])
    refine wpAnyH_ready (rs := [6]) (by kernel_rfl) (by simp) ?_
    refine (AllReadyH.cons rfl (fun K hK => ?_) AllReadyH.nil)
    ·rw [if_pos (by kernel_rfl)]
     (try simp only [zGa]); (try simp only [zGb]); (try simp only [zGc])
     go_simp
     with_reducible refine (HK.out _ (RdR.of_own hz) hS.r).mono ?_
     rintro e W' ⟨z2, rfl, hz2, hb⟩
     obtain ⟨A5, c5, rfl⟩ := own_shape hz2
     have hl8 := hx.lt
     dsimp only
     have hx := hx.call hb
     have hz := own_callB hz hb
     refine hK.out _ _ (hS.call hb) (fun hS => ?_)
     clear hK
     (try simp only [Act.put]); (try simp only [zPa]); (try simp only [zPb, zPc])
     refine wpAnyH_ready (rs := [7]) (by kernel_rfl) (by simp) ?_
     refine (AllReadyH.cons rfl (fun K hK => ?_) AllReadyH.nil)
     ·rw [if_pos (by kernel_rfl)]
      (try simp only [zGa]); (try simp only [zGb]); (try simp only [zGc])
      refine wp_store_bk 55 (.tmp 7) (.tmp 73) rfl b7 _ #[.slice Az' Q1.length cz'] #[.slice A5 Q2.length c5] (by kernel_rfl) rfl (by simp [Value.oneCell']) rfl (by first | with_reducible rfl | (go_simp; done) | rfl) hx ?_
      intro W3 IB hgB
      have HT6 := Lib.hid (hS.t.other hgB h7 hn1 hn2 (by omega))
      have hz6 := own_grownB hz2 hgB hl8
      skip
      skip
      refine hK.out _ _ (hS.other hgB h7 hn1 hn2 hgr hdr) (fun hS => ?_)
      clear hK
      (try simp only [Act.put]); (try simp only [zPa]); (try simp only [zPb, zPc])
      refine wpAnyH_done (by kernel_rfl) ?_ _
      go_wp2_with fail
      go_roundw
      case rel => exact ⟨j + 1, _, by omega, by go_num, HT6, Lib.hid IB, by rw [← HQ2.out]; exact Lib.hid (own_rebase hz6 (fun k hk => by have := (own_ltB hz6 k hk).1; omega))⟩
      case measure => simp [intOf]; omega
  ·obtain rfl : j = n := by omega
   obtain ⟨Q1, hQ1⟩ : ∃ Q, Q = stU f s j := ⟨_, rfl⟩
   rw [← hQ1] at HZ hno
   obtain ⟨Az', cz', rfl⟩ := own_shape HZ.out
   have e7 := HX.out.cell 0 rfl
   have zf := HTj.out.z.frozen 0
   have zc := HTj.out.z.cell 0 rfl
   clear hQ1
   go_wp2_with fail
   rw [hno.out]
   exact bodyPost_ret (v := .agg #[.slice Az' Q1.length cz']) (by simp [results, Tryz.results19, go_sem, zc]) rfl (st_end HZ.out (by omega) (by omega) HTj.out.c.bw)
theorem staleS' (f : Ch) (a b e d : Value) (bs : List Nat) (k : Int) (s : Sn) (v : Value) (cs : List Nat) (w : World) (h : repCh.R w f [a, b, e, .int .i64 f.s.w, .int .i64 f.s.h, .int .i64 f.s.back, d] bs) (hs : repSfs.R w s.fs [v] cs) :
  Calls Tryz.prog 19 #[.agg #[a, b, e, .int .i64 f.s.w, .int .i64 f.s.h, .int .i64 f.s.back, d], .int .i64 k, .agg #[.int .i64 s.w, .int .i64 s.h, .int .i64 s.back, v]] w (RgU (staleM f k s) w) := (staleS f a b e d bs k s v cs w h hs).mono fun _ _ h => rgU h
theorem staleI' (f : Ch) (a b e d : Value) (bs : List Nat) (k : Int) (s : Sn) (v : Value) (cs : List Nat) (w : World) (h : repCh.R w f [a, b, e, .int .i64 f.s.w, .int .i64 f.s.h, .int .i64 f.s.back, d] bs) (hs : repSfs.R w s.fs [v] cs) :
  Calls Tryz.prog 22 #[.agg #[a, b, e, .int .i64 f.s.w, .int .i64 f.s.h, .int .i64 f.s.back, d], .int .i64 k, .agg #[.int .i64 s.w, .int .i64 s.h, .int .i64 s.back, v]] w (RgU (staleM f k s) w) := (staleI f a b e d bs k s v cs w h hs).mono fun _ _ h => rgU h
end Go.Proofs.YtnndifemkichmaaGreat
