/- The contract of ChainOk of the model. No statement is proved here. -/
import Derived.Test.YtnndifemkichmaaMA
import Derived.Test.YtnndifemkichmaaMB
import Derived.Test.YtnndifemkichmaaLk
import Derived.Test.YtnndifemkichmaaChM
import Derived.Test.YtnndifemkichmaaIsE
import Derived.Test.YtnndifemkichmaaSlE
import Derived.Test.YtnndifemkichmaaChL
import Derived.Test.YtnndifemkichmaaSnO
import Derived.Test.YtnndifemkichmaaSnS
import Derived.Test.YtnndifemkichmaaChO
import Derived.Test.YtnndifemkichmaaChJ
import Derived.Test.YtnndifemkichmaaProg
import Derived.WalkKit
import Derived.ProofKit
import Derived.OpenShut
import Derived.WalkLawsBesides
import Derived.WalkSpells
import Derived.ShutString
import Derived.ChangeOld
import Derived.Below
import Derived.Lib.Hide
import Derived.BigQuiet
import Derived.Deep.QuietTactic
import Derived.Maps.AppendAt
import Derived.Deep.OwnRows
import Derived.Handy
import Derived.Deep.Draws
import Derived.OwnWalk
import Derived.Deep.AppendLies
import Derived.Deep.LoopGhost
import Derived.Deep.Onto
import Derived.Deep.MidRow
import Derived.Deep.WholeRow
import Derived.Laws.BitsAllLaws
import Derived.Lib.QuoteBits
import Derived.Deep.RegionHeld3
import Derived.Deep.DeepCutAuto
import Derived.Test.YtnndifemkichmaaShelf
import Derived.Laws.CopyOwn
import Derived.Deep.RegionLaw
import Derived.Great.BuildSlice
import Derived.Laws.AppendOwn
namespace Go.Proofs.Ytnndifemkichmaa
open Go.RowKit
structure CnK (w : World) (f : Ch) (a b e d : Value) (bs : List Nat) (g k : Nat) (i : Im) (u : Value) (ga : Nat) (x : Int) (W : World) : Prop where
 a : CnA w f a b e d bs W
 c : ∀ j v, (imCells i u)[j]? = some v → W.cell? ⟨g, k * 3 + j, none⟩ = some v
 rd : RdI W u i.d
 x : W.cell? ⟨ga, k, none⟩ = some (.int .i64 x)
theorem CnK.call {w : World} {f : Ch} {a b e d : Value} {bs : List Nat} {g k : Nat} {i : Im} {u : Value} {ga : Nat} {x : Int} {W W' : World} (h : CnK w f a b e d bs g k i u ga x W) (hb : Below W.heap.size W W') : CnK w f a b e d bs g k i u ga x W' :=
 ⟨h.a.call hb, fun j v hv => (hb.cell (World.block_lt_of_cell? W _ (h.c j v hv))).trans (h.c j v hv), h.rd.call hb, (hb.cell (World.block_lt_of_cell? W _ h.x)).trans h.x⟩
theorem CnK.c3 {w : World} {f : Ch} {a b e d : Value} {bs : List Nat} {g k : Nat} {i : Im} {u : Value} {ga : Nat} {x : Int} {W : World} (h : CnK w f a b e d bs g k i u ga x W) : W.cell? ⟨g, k * 3, none⟩ = some (.int .i64 i.w) ∧ W.cell? ⟨g, k * 3 + 1, none⟩ = some (.int .i64 i.h) ∧ W.cell? ⟨g, k * 3 + 2, none⟩ = some u := by
 have h0 := h.c 0 _ rfl
 rw [Nat.add_zero] at h0
 exact ⟨h0, h.c 1 _ rfl, h.c 2 _ rfl⟩
theorem grA_lt (m : Nat) : grA m = 3 ∧ 2 ≤ m ∨ grA m = (m : Int) + 1 ∧ m < 2 := by unfold grA; split <;> omega
set_option maxHeartbeats 20000000 in
set_option maxRecDepth 10000 in
theorem cnS (f : Ch) (a b e d : Value) (bs : List Nat) (w : World) (h : repCh.R w f [a, b, e, .int .i64 f.s.w, .int .i64 f.s.h, .int .i64 f.s.back, d] bs) :
  Calls Try.prog 10 #[.agg #[a, b, e, .int .i64 f.s.w, .int .i64 f.s.h, .int .i64 f.s.back, d]] w (CnOkAns f w) := by
 have hT := CnA.born h
 obtain ⟨A0, c0, A1, c1, A2, c2, A3, c3, rfl, rfl, rfl, rfl⟩ := form_cn h
 obtain ⟨b1, b2, b3, b4, r1, r2, r3, r4, _⟩ := r_cn hT.r
 have hm1 := (form_lIs r1).2
 have hm3 := (form_lGs r3).2
 obtain ⟨n, hn⟩ : ∃ n, n = f.ims.length := ⟨_, rfl⟩
 obtain ⟨p, hp⟩ : ∃ n, n = f.ages.length := ⟨_, rfl⟩
 obtain ⟨m, hm⟩ : ∃ n, n = f.rgs.length := ⟨_, rfl⟩
 have HS := Lib.hid (snS f.s _ b4 _ r4)
 unfold SnOkAns at HS
 rw [← hn] at hT hm1 HS ⊢
 rw [← hp] at hT HS ⊢
 rw [← hm] at hT hm3 HS ⊢
 unfold maxLen at hm1 hm3
 have Hn := Lib.hid hn
 have Hp := Lib.hid hp
 have Hm := Lib.hid hm
 obtain ⟨d0, d1, d2, d3, d4, d5, d6⟩ := hT.cells
 have HT := Lib.hid hT
 clear h r1 r2 r3 r4 hn hp hm hT
 by_cases q0 : snOk f.s
 rotate_left
 ·have hno := Lib.hid (cnB_no (c := f) fun h => q0 h.1)
  rw [snB_no q0] at HS
  go_enter Try.func10, Try.ntmps10
  go_wp2_with fail
  refine HS.out.mono ?_
  rintro e w1 ⟨rfl, hb⟩
  have HB := Lib.hid (HT.out.call hb).bw
  clear d0 d1 d2 d3 d4 d5 d6 hb
  go_wp2_with fail
  go_ret
  exact ⟨ret_bool hno.out.symm, HB.out⟩
 rw [snB_yes q0] at HS
 have Q0 := Lib.hid q0
 clear q0
 by_cases q1 : 1 ≤ n ∧ n ≤ 3
 rotate_left
 ·have hno := Lib.hid (cnB_no (c := f) fun h => q1 (by rw [Hn.out]; exact h.2.1.1))
  have q1' : (n : Int) < 1 ∨ 3 < (n : Int) := by omega
  go_enter Try.func10, Try.ntmps10
  go_wp2_with fail
  refine HS.out.mono ?_
  rintro e w1 ⟨rfl, hb⟩
  have HT1 := Lib.hid (HT.out.call hb)
  clear d0 d1 d2 d3 d4 d5 d6 hb
  obtain ⟨d0, d1, d2, d3, d4, d5, d6⟩ := HT1.out.cells
  go_wp2_with fail
  refine (inS_no _ _ _ _ q1').mono ?_
  rintro e w2 ⟨rfl, rfl⟩
  go_wp2_with fail
  go_ret
  exact ⟨ret_bool hno.out.symm, HT1.out.bw⟩
 by_cases q2 : p = n
 rotate_left
 ·have hno := Lib.hid (cnB_no (c := f) fun h => q2 (by rw [Hn.out, Hp.out]; exact h.2.2.2.1))
  have q2b : ((p : Int) != (n : Int)) = true := by simp; omega
  clear q2
  go_enter Try.func10, Try.ntmps10
  go_wp2_with fail
  refine HS.out.mono ?_
  rintro e w1 ⟨rfl, hb⟩
  have HT1 := Lib.hid (HT.out.call hb)
  clear d0 d1 d2 d3 d4 d5 d6 hb
  obtain ⟨d0, d1, d2, d3, d4, d5, d6⟩ := HT1.out.cells
  go_wp2_with fail
  refine (inS_yes _ _ _ _ (by omega) (by omega)).mono ?_
  rintro e w2 ⟨rfl, rfl⟩
  go_wp2_with fail
  go_ret
  exact ⟨ret_bool hno.out.symm, HT1.out.bw⟩
 subst q2
 by_cases q3 : m ≤ 3
 rotate_left
 ·have hno := Lib.hid (cnB_no (c := f) fun h => q3 (by rw [Hm.out]; exact h.2.2.1.1))
  go_enter Try.func10, Try.ntmps10
  go_wp2_with fail
  refine HS.out.mono ?_
  rintro e w1 ⟨rfl, hb⟩
  have HT1 := Lib.hid (HT.out.call hb)
  clear d0 d1 d2 d3 d4 d5 d6 hb
  obtain ⟨d0, d1, d2, d3, d4, d5, d6⟩ := HT1.out.cells
  go_wp2_with fail
  refine (inS_yes _ _ _ _ (by omega) (by omega)).mono ?_
  rintro e w2 ⟨rfl, rfl⟩
  go_wp2_with fail
  go_ret
  exact ⟨ret_bool hno.out.symm, HT1.out.bw⟩
 go_enter Try.func10, Try.ntmps10
 go_wp2_with fail
 refine HS.out.mono ?_
 rintro e w1 ⟨rfl, hb⟩
 have HT1 := Lib.hid (HT.out.call hb)
 clear d0 d1 d2 d3 d4 d5 d6 hb HS HT
 obtain ⟨d0, d1, d2, d3, d4, d5, d6⟩ := HT1.out.cells
 go_wp2_with fail
 refine (inS_yes _ _ _ _ (by omega) (by omega)).mono ?_
 rintro e w2 ⟨rfl, rfl⟩
 go_wp2_with fail
 clear d0 d1 d2 d3 d4 d5 d6
 go_loopw [3, 4] (fun s3 s4 wr => ∃ k : Nat, k ≤ p ∧ s3 = .int .i64 k ∧ Hid (∀ (j : Nat) (i : Im) (x : Int), j < k → f.ims[j]? = some i → f.ages[j]? = some x → bufAt f.s.w f.s.h i ∧ ageAt f.ages (grA m) j x) ∧ CnA w f (.slice A0 p c0) (.slice A1 p c1) (.slice A2 m c2) (.slice A3 f.s.fs.length c3) bs wr) (fun s3 _ _ => p - (intOf s3).toNat)
 case atStart => exact ⟨0, Nat.zero_le _, rfl, Lib.hid (fun j i x h => by omega), HT1.out⟩
 case round =>
  obtain ⟨k, hk, rfl, Hall, hA⟩ := hrel
  by_cases hlt : k < p
  rotate_left
  ·obtain rfl : k = p := by omega
   have HY : Hid (dmsP f.rgs → cnB f = true) := Lib.hid fun hd => cnB_yes ⟨Q0.out, ⟨by rw [← Hn.out]; exact q1, fun j i hi => by
     have hj : j < k := by rw [Hn.out]; exact (List.getElem?_eq_some_iff.1 hi).1
     exact (Hall.out j i _ hj hi (List.getElem?_eq_getElem (by rw [← Hp.out]; exact hj))).1⟩, hd, by rw [← Hn.out, ← Hp.out], fun j x hx => by
     have hj : j < k := by rw [Hp.out]; exact (List.getElem?_eq_some_iff.1 hx).1
     rw [← Hm.out]
     exact (Hall.out j _ x hj (List.getElem?_eq_getElem (by rw [← Hn.out]; exact hj)) hx).2⟩
   have HN : Hid (¬ dmsP f.rgs → cnB f = false) := Lib.hid fun hd => cnB_no fun h => hd h.2.2.1
   obtain ⟨d0, d1, d2, d3, d4, d5, d6⟩ := hA.cells
   have HA := Lib.hid hA
   clear hA
   go_wp2_with fail
   clear d0 d1 d2 d3 d4 d5 d6
   go_loopw [5] (fun s5 wr => ∃ q : Nat, q ≤ m ∧ s5 = .int .i64 q ∧ Hid (∀ (j : Nat) (r : List Rc), j < q → f.rgs[j]? = some r → okL r = true) ∧ CnA w f (.slice A0 k c0) (.slice A1 k c1) (.slice A2 m c2) (.slice A3 f.s.fs.length c3) bs wr) (fun s5 _ => m - (intOf s5).toNat)
   case atStart => exact ⟨0, Nat.zero_le _, rfl, Lib.hid (fun j r h => by omega), HA.out⟩
   case round =>
    clear HA
    obtain ⟨q, hq, rfl, Hd, hA⟩ := hrel
    obtain ⟨d0, d1, d2, d3, d4, d5, d6⟩ := hA.cells
    by_cases hql : q < m
    ·obtain ⟨b3, r3⟩ := hA.r'
     obtain ⟨gr, r, dr, br, rfl, hr, hR, hC⟩ := at_lGs r3 (k := q) (by rw [← Hm.out]; exact hql)
     have Hr := Lib.hid hr
     have y0 := hC 0 _ rfl
     rw [Nat.add_zero, Nat.mul_one] at y0
     have hd := r_rg hR
     obtain ⟨A', c', rfl⟩ := hd.form
     have k0 : (0 : Int) ≤ (q : Int) := by omega
     have k1 : (q : Int) < (m : Int) := by omega
     have HK := Lib.hid (rokS _ r _ hd)
     unfold RokAns at HK
     have HA := Lib.hid hA
     clear hr hR hC hd hA r3
     by_cases ho : okL r = true
     ·rw [ho] at HK
      have hyes : Hid (∀ (j : Nat) (r : List Rc), j < q + 1 → f.rgs[j]? = some r → okL r = true) := Lib.hid fun j y hj hy => by
       by_cases hjk : j < q
       ·exact Hd.out j y hjk hy
       ·obtain rfl : j = q := by omega
        rw [Hr.out] at hy
        rw [← Option.some.inj hy]
        exact ho
      clear ho
      go_wp2_with fail
      refine HK.out.mono ?_
      rintro e w2 ⟨rfl, hb⟩
      have hA := HA.out.call hb
      clear y0 hb d0 d1 d2 d3 d4 d5 d6
      go_wp2_with fail
      go_roundw
      case rel => exact ⟨q + 1, by omega, by go_num, hyes, hA⟩
      case measure => simp [intOf]; omega
     ·have hno := Lib.hid (HN.out fun h : dmsP f.rgs => ho (h.2 q r Hr.out))
      rw [show okL r = false by simpa using ho] at HK
      clear ho
      go_wp2_with fail
      refine HK.out.mono ?_
      rintro e w2 ⟨rfl, hb⟩
      have HA2 := Lib.hid (HA.out.call hb)
      clear y0 hb d0 d1 d2 d3 d4 d5 d6
      go_wp2_with fail
      go_ret
      exact ⟨ret_bool hno.out.symm, HA2.out.bw⟩
    ·obtain rfl : q = m := by omega
     have hyes := Lib.hid (HY.out ⟨by rw [← Hm.out]; exact q3, fun j r hj => Hd.out j r (by rw [Hm.out]; exact (List.getElem?_eq_some_iff.1 hj).1) hj⟩)
     go_wp2_with fail
     go_ret
     exact ⟨ret_bool hyes.out.symm, hA.bw⟩
  obtain ⟨g, i, u, bi, rfl, hi, hRi, hCi⟩ : ∃ g i u bi, A0 = some ⟨g, 0, none⟩ ∧ f.ims[k]? = some i ∧ repIm.R wr i (imCells i u) bi ∧ ∀ j v, (imCells i u)[j]? = some v → wr.cell? ⟨g, k * 3 + j, none⟩ = some v := by
   obtain ⟨b1, r1⟩ := hA.i
   exact at_lIs r1 (k := k) (by rw [← Hn.out]; exact hlt)
  obtain ⟨ga, x, rfl, hx, hcx⟩ := hA.g.at_ (k := k) (by rw [← Hp.out]; exact hlt)
  have Hi := Lib.hid hi
  have Hx := Lib.hid hx
  have hrd := repInts_rd (r_im hRi)
  obtain ⟨Au, cu, rfl⟩ := hrd.form
  have hT : CnK w f (.slice (some ⟨g, 0, none⟩) p c0) (.slice (some ⟨ga, 0, none⟩) p c1) (.slice A2 m c2) (.slice A3 f.s.fs.length c3) bs g k i (.slice Au i.d.length cu) ga x wr := ⟨hA, hCi, hrd, hcx⟩
  have HI := Lib.hid (fun (W : World) (h : RdI W (.slice Au i.d.length cu) i.d) => imS i.w i.h _ i.d W h)
  unfold ImOkAns at HI
  have k0 : (0 : Int) ≤ (k : Int) := by omega
  have k1 : (k : Int) < (p : Int) := by omega
  have m1 : (m : Int) ≤ 3 := by omega
  have mw : IntKind.i64.wrap ((m : Int) + 1) = (m : Int) + 1 := wrap_in ((m : Int) + 1) (by omega) (by omega)
  have HN : Hid (¬ (bufAt f.s.w f.s.h i ∧ ageAt f.ages (grA m) k x) → cnB f = false) := Lib.hid fun h1 => cnB_no fun h2 => h1 ⟨h2.2.1.2 k i Hi.out, by have := h2.2.2.2.2 k x Hx.out; rwa [← Hm.out] at this⟩
  have HG := Lib.hid (grA_lt m)
  obtain ⟨d0, d1, d2, d3, d4, d5, d6⟩ := hA.cells
  clear hi hx hRi hCi hrd hcx hA
  go_upto_region 6 with fail
  clear d0 d1 d2 d3 d4 d5 d6
  refine wp_region_held_drew (S := fun W => CnK w f (.slice (some ⟨g, 0, none⟩) p c0) (.slice (some ⟨ga, 0, none⟩) p c1) (.slice A2 m c2) (.slice A3 f.s.fs.length c3) bs g k i (.slice Au i.d.length cu) ga x W) (by kernel_rfl) (hT.call (belI_drew _)) (fun hS => ?_)
  refine tcH (i := 0) (v := .pointer (some ⟨w.heap.size, 0, none⟩)) rfl (by intro w' hSw; (try dsimp only at hSw); (obtain ⟨d0, d1, d2, d3, d4, d5, d6⟩ := hSw.a.cells); (obtain ⟨c0', c1', c2'⟩ := hSw.c3); (have xk := hSw.x); go_simp) ?_
  refine tcH (i := 1) (v := .slice (some ⟨g, 0, none⟩) p c0) rfl (by intro w' hSw; (try dsimp only at hSw); (obtain ⟨d0, d1, d2, d3, d4, d5, d6⟩ := hSw.a.cells); (obtain ⟨c0', c1', c2'⟩ := hSw.c3); (have xk := hSw.x); go_simp) ?_
  refine tcH (i := 2) (v := .int .i64 (k : Int)) rfl (by intro w' hSw; (try dsimp only at hSw); (obtain ⟨d0, d1, d2, d3, d4, d5, d6⟩ := hSw.a.cells); (obtain ⟨c0', c1', c2'⟩ := hSw.c3); (have xk := hSw.x); go_simp) ?_
  refine tcH (i := 3) (v := .pointer (some ⟨g, k * 3, none⟩)) rfl (by intro w' hSw; (try dsimp only at hSw); (obtain ⟨d0, d1, d2, d3, d4, d5, d6⟩ := hSw.a.cells); (obtain ⟨c0', c1', c2'⟩ := hSw.c3); (have xk := hSw.x); go_simp) ?_
  refine tcH (i := 4) (v := .agg #[.int .i64 i.w, .int .i64 i.h, .slice Au i.d.length cu]) rfl (by intro w' hSw; (try dsimp only at hSw); (obtain ⟨d0, d1, d2, d3, d4, d5, d6⟩ := hSw.a.cells); (obtain ⟨c0', c1', c2'⟩ := hSw.c3); (have xk := hSw.x); go_simp) ?_
  (try simp only [Act.put]); (try simp only [zPa]); (try simp only [zPb, zPc])
  refine wpAnyH_ready (rs := [5]) (by kernel_rfl) (by simp) ?_
  refine (AllReadyH.cons rfl (fun K hK => ?_) AllReadyH.nil)
  ·rw [if_pos (by kernel_rfl)]
   by_cases q5 : imOk i.w i.h i.d
   rotate_left
   ·have hno := Lib.hid (HN.out (fun h => q5 h.1.2.2))
    rw [imB_no q5] at HI
    (try simp only [zGa]); (try simp only [zGb]); (try simp only [zGc])
    go_simp
    with_reducible refine (HI.out _ hS.rd).mono ?_
    rintro e W' ⟨rfl, hb⟩
    dsimp only
    refine hK.out _ _ (hS.call hb) (fun hS => ?_)
    clear hK
    (try simp only [Act.put]); (try simp only [zPa]); (try simp only [zPb, zPc])
    refine tcH (i := 6) (v := .bool true) rfl (by intro w' hSw; (try dsimp only at hSw); (obtain ⟨d0, d1, d2, d3, d4, d5, d6⟩ := hSw.a.cells); (obtain ⟨c0', c1', c2'⟩ := hSw.c3); (have xk := hSw.x); go_simp) ?_
    refine tcH (i := 7) (v := .bool true) rfl (by intro w' hSw; (try dsimp only at hSw); (obtain ⟨d0, d1, d2, d3, d4, d5, d6⟩ := hSw.a.cells); (obtain ⟨c0', c1', c2'⟩ := hSw.c3); (have xk := hSw.x); go_simp) ?_
    refine tnH (i := 8) rfl ?_
    refine tnH (i := 9) rfl ?_
    refine tnH (i := 10) rfl ?_
    refine tnH (i := 11) rfl ?_
    refine tnH (i := 12) rfl ?_
    refine tnH (i := 13) rfl ?_
    refine tnH (i := 14) rfl ?_
    refine tnH (i := 15) rfl ?_
    refine tnH (i := 16) rfl ?_
    refine tnH (i := 17) rfl ?_
    refine tcH (i := 18) (v := .bool true) rfl (by intro w' hSw; (try dsimp only at hSw); (obtain ⟨d0, d1, d2, d3, d4, d5, d6⟩ := hSw.a.cells); (obtain ⟨c0', c1', c2'⟩ := hSw.c3); (have xk := hSw.x); go_simp) ?_
    refine tcH (i := 19) (v := .bool true) rfl (by intro w' hSw; (try dsimp only at hSw); (obtain ⟨d0, d1, d2, d3, d4, d5, d6⟩ := hSw.a.cells); (obtain ⟨c0', c1', c2'⟩ := hSw.c3); (have xk := hSw.x); go_simp) ?_
    refine tnH (i := 20) rfl ?_
    refine tnH (i := 21) rfl ?_
    refine tnH (i := 22) rfl ?_
    refine tnH (i := 23) rfl ?_
    refine tnH (i := 24) rfl ?_
    refine tnH (i := 25) rfl ?_
    refine tnH (i := 26) rfl ?_
    refine tnH (i := 27) rfl ?_
    refine tnH (i := 28) rfl ?_
    refine tnH (i := 29) rfl ?_
    refine tcH (i := 30) (v := .bool true) rfl (by intro w' hSw; (try dsimp only at hSw); (obtain ⟨d0, d1, d2, d3, d4, d5, d6⟩ := hSw.a.cells); (obtain ⟨c0', c1', c2'⟩ := hSw.c3); (have xk := hSw.x); go_simp) ?_
    refine tcH (i := 31) (v := .bool true) rfl (by intro w' hSw; (try dsimp only at hSw); (obtain ⟨d0, d1, d2, d3, d4, d5, d6⟩ := hSw.a.cells); (obtain ⟨c0', c1', c2'⟩ := hSw.c3); (have xk := hSw.x); go_simp) ?_
    refine tnH (i := 32) rfl ?_
    refine tnH (i := 33) rfl ?_
    refine tnH (i := 34) rfl ?_
    refine tnH (i := 35) rfl ?_
    refine tnH (i := 36) rfl ?_
    refine tnH (i := 37) rfl ?_
    refine tnH (i := 38) rfl ?_
    refine tcH (i := 39) (v := .bool true) rfl (by intro w' hSw; (try dsimp only at hSw); (obtain ⟨d0, d1, d2, d3, d4, d5, d6⟩ := hSw.a.cells); (obtain ⟨c0', c1', c2'⟩ := hSw.c3); (have xk := hSw.x); go_simp) ?_
    refine tcH (i := 40) (v := .bool true) rfl (by intro w' hSw; (try dsimp only at hSw); (obtain ⟨d0, d1, d2, d3, d4, d5, d6⟩ := hSw.a.cells); (obtain ⟨c0', c1', c2'⟩ := hSw.c3); (have xk := hSw.x); go_simp) ?_
    refine tnH (i := 41) rfl ?_
    refine tnH (i := 42) rfl ?_
    refine tnH (i := 43) rfl ?_
    refine tnH (i := 44) rfl ?_
    refine tnH (i := 45) rfl ?_
    refine tnH (i := 46) rfl ?_
    refine tnH (i := 47) rfl ?_
    refine tnH (i := 48) rfl ?_
    refine tnH (i := 49) rfl ?_
    refine tnH (i := 50) rfl ?_
    refine tcH (i := 51) (v := .bool true) rfl (by intro w' hSw; (try dsimp only at hSw); (obtain ⟨d0, d1, d2, d3, d4, d5, d6⟩ := hSw.a.cells); (obtain ⟨c0', c1', c2'⟩ := hSw.c3); (have xk := hSw.x); go_simp) ?_
    go_simp
    refine wpAnyH_done (by kernel_rfl) ?_ _
    go_wp2_with fail
    go_ret
    exact ⟨ret_bool hno.out.symm, hS.a.bw⟩
   rw [imB_yes q5] at HI
   have Q5 := Lib.hid q5
   clear q5
   (try simp only [zGa]); (try simp only [zGb]); (try simp only [zGc])
   go_simp
   with_reducible refine (HI.out _ hS.rd).mono ?_
   rintro e W' ⟨rfl, hb⟩
   dsimp only
   refine hK.out _ _ (hS.call hb) (fun hS => ?_)
   clear hK
   (try simp only [Act.put]); (try simp only [zPa]); (try simp only [zPb, zPc])
   refine tcH (i := 6) (v := .bool false) rfl (by intro w' hSw; (try dsimp only at hSw); (obtain ⟨d0, d1, d2, d3, d4, d5, d6⟩ := hSw.a.cells); (obtain ⟨c0', c1', c2'⟩ := hSw.c3); (have xk := hSw.x); go_simp) ?_
   refine tcH (i := 7) (v := .bool false) rfl (by intro w' hSw; (try dsimp only at hSw); (obtain ⟨d0, d1, d2, d3, d4, d5, d6⟩ := hSw.a.cells); (obtain ⟨c0', c1', c2'⟩ := hSw.c3); (have xk := hSw.x); go_simp) ?_
   by_cases q6 : i.w = f.s.w
   rotate_left
   ·have hno := Lib.hid (HN.out (fun h => q6 h.1.1))
    have q6b : (i.w != f.s.w) = true := by simpa using q6
    clear q6
    refine tcH (i := 8) (v := .pointer (some ⟨w.heap.size, 0, none⟩)) rfl (by intro w' hSw; (try dsimp only at hSw); (obtain ⟨d0, d1, d2, d3, d4, d5, d6⟩ := hSw.a.cells); (obtain ⟨c0', c1', c2'⟩ := hSw.c3); (have xk := hSw.x); go_simp) ?_
    refine tcH (i := 9) (v := .slice (some ⟨g, 0, none⟩) p c0) rfl (by intro w' hSw; (try dsimp only at hSw); (obtain ⟨d0, d1, d2, d3, d4, d5, d6⟩ := hSw.a.cells); (obtain ⟨c0', c1', c2'⟩ := hSw.c3); (have xk := hSw.x); go_simp) ?_
    refine tcH (i := 10) (v := .int .i64 (k : Int)) rfl (by intro w' hSw; (try dsimp only at hSw); (obtain ⟨d0, d1, d2, d3, d4, d5, d6⟩ := hSw.a.cells); (obtain ⟨c0', c1', c2'⟩ := hSw.c3); (have xk := hSw.x); go_simp) ?_
    refine tcH (i := 11) (v := .pointer (some ⟨g, k * 3, none⟩)) rfl (by intro w' hSw; (try dsimp only at hSw); (obtain ⟨d0, d1, d2, d3, d4, d5, d6⟩ := hSw.a.cells); (obtain ⟨c0', c1', c2'⟩ := hSw.c3); (have xk := hSw.x); go_simp) ?_
    refine tcH (i := 12) (v := .pointer (some ⟨g, k * 3, none⟩)) rfl (by intro w' hSw; (try dsimp only at hSw); (obtain ⟨d0, d1, d2, d3, d4, d5, d6⟩ := hSw.a.cells); (obtain ⟨c0', c1', c2'⟩ := hSw.c3); (have xk := hSw.x); go_simp) ?_
    refine tcH (i := 13) (v := .int .i64 i.w) rfl (by intro w' hSw; (try dsimp only at hSw); (obtain ⟨d0, d1, d2, d3, d4, d5, d6⟩ := hSw.a.cells); (obtain ⟨c0', c1', c2'⟩ := hSw.c3); (have xk := hSw.x); go_simp) ?_
    refine tcH (i := 14) (v := .pointer (some ⟨w.heap.size, 3, none⟩)) rfl (by intro w' hSw; (try dsimp only at hSw); (obtain ⟨d0, d1, d2, d3, d4, d5, d6⟩ := hSw.a.cells); (obtain ⟨c0', c1', c2'⟩ := hSw.c3); (have xk := hSw.x); go_simp) ?_
    refine tcH (i := 15) (v := .pointer (some ⟨w.heap.size, 3, none⟩)) rfl (by intro w' hSw; (try dsimp only at hSw); (obtain ⟨d0, d1, d2, d3, d4, d5, d6⟩ := hSw.a.cells); (obtain ⟨c0', c1', c2'⟩ := hSw.c3); (have xk := hSw.x); go_simp) ?_
    refine tcH (i := 16) (v := .int .i64 f.s.w) rfl (by intro w' hSw; (try dsimp only at hSw); (obtain ⟨d0, d1, d2, d3, d4, d5, d6⟩ := hSw.a.cells); (obtain ⟨c0', c1', c2'⟩ := hSw.c3); (have xk := hSw.x); go_simp) ?_
    refine tcH (i := 17) (v := .bool true) rfl (by intro w' hSw; (try dsimp only at hSw); (obtain ⟨d0, d1, d2, d3, d4, d5, d6⟩ := hSw.a.cells); (obtain ⟨c0', c1', c2'⟩ := hSw.c3); (have xk := hSw.x); go_simp) ?_
    refine tcH (i := 18) (v := .bool true) rfl (by intro w' hSw; (try dsimp only at hSw); (obtain ⟨d0, d1, d2, d3, d4, d5, d6⟩ := hSw.a.cells); (obtain ⟨c0', c1', c2'⟩ := hSw.c3); (have xk := hSw.x); go_simp) ?_
    refine tcH (i := 19) (v := .bool true) rfl (by intro w' hSw; (try dsimp only at hSw); (obtain ⟨d0, d1, d2, d3, d4, d5, d6⟩ := hSw.a.cells); (obtain ⟨c0', c1', c2'⟩ := hSw.c3); (have xk := hSw.x); go_simp) ?_
    refine tnH (i := 20) rfl ?_
    refine tnH (i := 21) rfl ?_
    refine tnH (i := 22) rfl ?_
    refine tnH (i := 23) rfl ?_
    refine tnH (i := 24) rfl ?_
    refine tnH (i := 25) rfl ?_
    refine tnH (i := 26) rfl ?_
    refine tnH (i := 27) rfl ?_
    refine tnH (i := 28) rfl ?_
    refine tnH (i := 29) rfl ?_
    refine tcH (i := 30) (v := .bool true) rfl (by intro w' hSw; (try dsimp only at hSw); (obtain ⟨d0, d1, d2, d3, d4, d5, d6⟩ := hSw.a.cells); (obtain ⟨c0', c1', c2'⟩ := hSw.c3); (have xk := hSw.x); go_simp) ?_
    refine tcH (i := 31) (v := .bool true) rfl (by intro w' hSw; (try dsimp only at hSw); (obtain ⟨d0, d1, d2, d3, d4, d5, d6⟩ := hSw.a.cells); (obtain ⟨c0', c1', c2'⟩ := hSw.c3); (have xk := hSw.x); go_simp) ?_
    refine tnH (i := 32) rfl ?_
    refine tnH (i := 33) rfl ?_
    refine tnH (i := 34) rfl ?_
    refine tnH (i := 35) rfl ?_
    refine tnH (i := 36) rfl ?_
    refine tnH (i := 37) rfl ?_
    refine tnH (i := 38) rfl ?_
    refine tcH (i := 39) (v := .bool true) rfl (by intro w' hSw; (try dsimp only at hSw); (obtain ⟨d0, d1, d2, d3, d4, d5, d6⟩ := hSw.a.cells); (obtain ⟨c0', c1', c2'⟩ := hSw.c3); (have xk := hSw.x); go_simp) ?_
    refine tcH (i := 40) (v := .bool true) rfl (by intro w' hSw; (try dsimp only at hSw); (obtain ⟨d0, d1, d2, d3, d4, d5, d6⟩ := hSw.a.cells); (obtain ⟨c0', c1', c2'⟩ := hSw.c3); (have xk := hSw.x); go_simp) ?_
    refine tnH (i := 41) rfl ?_
    refine tnH (i := 42) rfl ?_
    refine tnH (i := 43) rfl ?_
    refine tnH (i := 44) rfl ?_
    refine tnH (i := 45) rfl ?_
    refine tnH (i := 46) rfl ?_
    refine tnH (i := 47) rfl ?_
    refine tnH (i := 48) rfl ?_
    refine tnH (i := 49) rfl ?_
    refine tnH (i := 50) rfl ?_
    refine tcH (i := 51) (v := .bool true) rfl (by intro w' hSw; (try dsimp only at hSw); (obtain ⟨d0, d1, d2, d3, d4, d5, d6⟩ := hSw.a.cells); (obtain ⟨c0', c1', c2'⟩ := hSw.c3); (have xk := hSw.x); go_simp) ?_
    go_simp
    refine wpAnyH_done (by kernel_rfl) ?_ _
    go_wp2_with fail
    go_ret
    exact ⟨ret_bool hno.out.symm, hS.a.bw⟩
   have q6b : (i.w != f.s.w) = false := by simpa using q6
   have Q6 := Lib.hid q6
   clear q6
   refine tcH (i := 8) (v := .pointer (some ⟨w.heap.size, 0, none⟩)) rfl (by intro w' hSw; (try dsimp only at hSw); (obtain ⟨d0, d1, d2, d3, d4, d5, d6⟩ := hSw.a.cells); (obtain ⟨c0', c1', c2'⟩ := hSw.c3); (have xk := hSw.x); go_simp) ?_
   refine tcH (i := 9) (v := .slice (some ⟨g, 0, none⟩) p c0) rfl (by intro w' hSw; (try dsimp only at hSw); (obtain ⟨d0, d1, d2, d3, d4, d5, d6⟩ := hSw.a.cells); (obtain ⟨c0', c1', c2'⟩ := hSw.c3); (have xk := hSw.x); go_simp) ?_
   refine tcH (i := 10) (v := .int .i64 (k : Int)) rfl (by intro w' hSw; (try dsimp only at hSw); (obtain ⟨d0, d1, d2, d3, d4, d5, d6⟩ := hSw.a.cells); (obtain ⟨c0', c1', c2'⟩ := hSw.c3); (have xk := hSw.x); go_simp) ?_
   refine tcH (i := 11) (v := .pointer (some ⟨g, k * 3, none⟩)) rfl (by intro w' hSw; (try dsimp only at hSw); (obtain ⟨d0, d1, d2, d3, d4, d5, d6⟩ := hSw.a.cells); (obtain ⟨c0', c1', c2'⟩ := hSw.c3); (have xk := hSw.x); go_simp) ?_
   refine tcH (i := 12) (v := .pointer (some ⟨g, k * 3, none⟩)) rfl (by intro w' hSw; (try dsimp only at hSw); (obtain ⟨d0, d1, d2, d3, d4, d5, d6⟩ := hSw.a.cells); (obtain ⟨c0', c1', c2'⟩ := hSw.c3); (have xk := hSw.x); go_simp) ?_
   refine tcH (i := 13) (v := .int .i64 i.w) rfl (by intro w' hSw; (try dsimp only at hSw); (obtain ⟨d0, d1, d2, d3, d4, d5, d6⟩ := hSw.a.cells); (obtain ⟨c0', c1', c2'⟩ := hSw.c3); (have xk := hSw.x); go_simp) ?_
   refine tcH (i := 14) (v := .pointer (some ⟨w.heap.size, 3, none⟩)) rfl (by intro w' hSw; (try dsimp only at hSw); (obtain ⟨d0, d1, d2, d3, d4, d5, d6⟩ := hSw.a.cells); (obtain ⟨c0', c1', c2'⟩ := hSw.c3); (have xk := hSw.x); go_simp) ?_
   refine tcH (i := 15) (v := .pointer (some ⟨w.heap.size, 3, none⟩)) rfl (by intro w' hSw; (try dsimp only at hSw); (obtain ⟨d0, d1, d2, d3, d4, d5, d6⟩ := hSw.a.cells); (obtain ⟨c0', c1', c2'⟩ := hSw.c3); (have xk := hSw.x); go_simp) ?_
   refine tcH (i := 16) (v := .int .i64 f.s.w) rfl (by intro w' hSw; (try dsimp only at hSw); (obtain ⟨d0, d1, d2, d3, d4, d5, d6⟩ := hSw.a.cells); (obtain ⟨c0', c1', c2'⟩ := hSw.c3); (have xk := hSw.x); go_simp) ?_
   refine tcH (i := 17) (v := .bool false) rfl (by intro w' hSw; (try dsimp only at hSw); (obtain ⟨d0, d1, d2, d3, d4, d5, d6⟩ := hSw.a.cells); (obtain ⟨c0', c1', c2'⟩ := hSw.c3); (have xk := hSw.x); go_simp) ?_
   refine tcH (i := 18) (v := .bool false) rfl (by intro w' hSw; (try dsimp only at hSw); (obtain ⟨d0, d1, d2, d3, d4, d5, d6⟩ := hSw.a.cells); (obtain ⟨c0', c1', c2'⟩ := hSw.c3); (have xk := hSw.x); go_simp) ?_
   refine tcH (i := 19) (v := .bool false) rfl (by intro w' hSw; (try dsimp only at hSw); (obtain ⟨d0, d1, d2, d3, d4, d5, d6⟩ := hSw.a.cells); (obtain ⟨c0', c1', c2'⟩ := hSw.c3); (have xk := hSw.x); go_simp) ?_
   by_cases q7 : i.h = f.s.h
   rotate_left
   ·have hno := Lib.hid (HN.out (fun h => q7 h.1.2.1))
    have q7b : (i.h != f.s.h) = true := by simpa using q7
    clear q7
    refine tcH (i := 20) (v := .pointer (some ⟨w.heap.size, 0, none⟩)) rfl (by intro w' hSw; (try dsimp only at hSw); (obtain ⟨d0, d1, d2, d3, d4, d5, d6⟩ := hSw.a.cells); (obtain ⟨c0', c1', c2'⟩ := hSw.c3); (have xk := hSw.x); go_simp) ?_
    refine tcH (i := 21) (v := .slice (some ⟨g, 0, none⟩) p c0) rfl (by intro w' hSw; (try dsimp only at hSw); (obtain ⟨d0, d1, d2, d3, d4, d5, d6⟩ := hSw.a.cells); (obtain ⟨c0', c1', c2'⟩ := hSw.c3); (have xk := hSw.x); go_simp) ?_
    refine tcH (i := 22) (v := .int .i64 (k : Int)) rfl (by intro w' hSw; (try dsimp only at hSw); (obtain ⟨d0, d1, d2, d3, d4, d5, d6⟩ := hSw.a.cells); (obtain ⟨c0', c1', c2'⟩ := hSw.c3); (have xk := hSw.x); go_simp) ?_
    refine tcH (i := 23) (v := .pointer (some ⟨g, k * 3, none⟩)) rfl (by intro w' hSw; (try dsimp only at hSw); (obtain ⟨d0, d1, d2, d3, d4, d5, d6⟩ := hSw.a.cells); (obtain ⟨c0', c1', c2'⟩ := hSw.c3); (have xk := hSw.x); go_simp) ?_
    refine tcH (i := 24) (v := .pointer (some ⟨g, k * 3 + 1, none⟩)) rfl (by intro w' hSw; (try dsimp only at hSw); (obtain ⟨d0, d1, d2, d3, d4, d5, d6⟩ := hSw.a.cells); (obtain ⟨c0', c1', c2'⟩ := hSw.c3); (have xk := hSw.x); go_simp) ?_
    refine tcH (i := 25) (v := .int .i64 i.h) rfl (by intro w' hSw; (try dsimp only at hSw); (obtain ⟨d0, d1, d2, d3, d4, d5, d6⟩ := hSw.a.cells); (obtain ⟨c0', c1', c2'⟩ := hSw.c3); (have xk := hSw.x); go_simp) ?_
    refine tcH (i := 26) (v := .pointer (some ⟨w.heap.size, 3, none⟩)) rfl (by intro w' hSw; (try dsimp only at hSw); (obtain ⟨d0, d1, d2, d3, d4, d5, d6⟩ := hSw.a.cells); (obtain ⟨c0', c1', c2'⟩ := hSw.c3); (have xk := hSw.x); go_simp) ?_
    refine tcH (i := 27) (v := .pointer (some ⟨w.heap.size, 4, none⟩)) rfl (by intro w' hSw; (try dsimp only at hSw); (obtain ⟨d0, d1, d2, d3, d4, d5, d6⟩ := hSw.a.cells); (obtain ⟨c0', c1', c2'⟩ := hSw.c3); (have xk := hSw.x); go_simp) ?_
    refine tcH (i := 28) (v := .int .i64 f.s.h) rfl (by intro w' hSw; (try dsimp only at hSw); (obtain ⟨d0, d1, d2, d3, d4, d5, d6⟩ := hSw.a.cells); (obtain ⟨c0', c1', c2'⟩ := hSw.c3); (have xk := hSw.x); go_simp) ?_
    refine tcH (i := 29) (v := .bool true) rfl (by intro w' hSw; (try dsimp only at hSw); (obtain ⟨d0, d1, d2, d3, d4, d5, d6⟩ := hSw.a.cells); (obtain ⟨c0', c1', c2'⟩ := hSw.c3); (have xk := hSw.x); go_simp) ?_
    refine tcH (i := 30) (v := .bool true) rfl (by intro w' hSw; (try dsimp only at hSw); (obtain ⟨d0, d1, d2, d3, d4, d5, d6⟩ := hSw.a.cells); (obtain ⟨c0', c1', c2'⟩ := hSw.c3); (have xk := hSw.x); go_simp) ?_
    refine tcH (i := 31) (v := .bool true) rfl (by intro w' hSw; (try dsimp only at hSw); (obtain ⟨d0, d1, d2, d3, d4, d5, d6⟩ := hSw.a.cells); (obtain ⟨c0', c1', c2'⟩ := hSw.c3); (have xk := hSw.x); go_simp) ?_
    refine tnH (i := 32) rfl ?_
    refine tnH (i := 33) rfl ?_
    refine tnH (i := 34) rfl ?_
    refine tnH (i := 35) rfl ?_
    refine tnH (i := 36) rfl ?_
    refine tnH (i := 37) rfl ?_
    refine tnH (i := 38) rfl ?_
    refine tcH (i := 39) (v := .bool true) rfl (by intro w' hSw; (try dsimp only at hSw); (obtain ⟨d0, d1, d2, d3, d4, d5, d6⟩ := hSw.a.cells); (obtain ⟨c0', c1', c2'⟩ := hSw.c3); (have xk := hSw.x); go_simp) ?_
    refine tcH (i := 40) (v := .bool true) rfl (by intro w' hSw; (try dsimp only at hSw); (obtain ⟨d0, d1, d2, d3, d4, d5, d6⟩ := hSw.a.cells); (obtain ⟨c0', c1', c2'⟩ := hSw.c3); (have xk := hSw.x); go_simp) ?_
    refine tnH (i := 41) rfl ?_
    refine tnH (i := 42) rfl ?_
    refine tnH (i := 43) rfl ?_
    refine tnH (i := 44) rfl ?_
    refine tnH (i := 45) rfl ?_
    refine tnH (i := 46) rfl ?_
    refine tnH (i := 47) rfl ?_
    refine tnH (i := 48) rfl ?_
    refine tnH (i := 49) rfl ?_
    refine tnH (i := 50) rfl ?_
    refine tcH (i := 51) (v := .bool true) rfl (by intro w' hSw; (try dsimp only at hSw); (obtain ⟨d0, d1, d2, d3, d4, d5, d6⟩ := hSw.a.cells); (obtain ⟨c0', c1', c2'⟩ := hSw.c3); (have xk := hSw.x); go_simp) ?_
    go_simp
    refine wpAnyH_done (by kernel_rfl) ?_ _
    go_wp2_with fail
    go_ret
    exact ⟨ret_bool hno.out.symm, hS.a.bw⟩
   have q7b : (i.h != f.s.h) = false := by simpa using q7
   have Q7 := Lib.hid q7
   clear q7
   refine tcH (i := 20) (v := .pointer (some ⟨w.heap.size, 0, none⟩)) rfl (by intro w' hSw; (try dsimp only at hSw); (obtain ⟨d0, d1, d2, d3, d4, d5, d6⟩ := hSw.a.cells); (obtain ⟨c0', c1', c2'⟩ := hSw.c3); (have xk := hSw.x); go_simp) ?_
   refine tcH (i := 21) (v := .slice (some ⟨g, 0, none⟩) p c0) rfl (by intro w' hSw; (try dsimp only at hSw); (obtain ⟨d0, d1, d2, d3, d4, d5, d6⟩ := hSw.a.cells); (obtain ⟨c0', c1', c2'⟩ := hSw.c3); (have xk := hSw.x); go_simp) ?_
   refine tcH (i := 22) (v := .int .i64 (k : Int)) rfl (by intro w' hSw; (try dsimp only at hSw); (obtain ⟨d0, d1, d2, d3, d4, d5, d6⟩ := hSw.a.cells); (obtain ⟨c0', c1', c2'⟩ := hSw.c3); (have xk := hSw.x); go_simp) ?_
   refine tcH (i := 23) (v := .pointer (some ⟨g, k * 3, none⟩)) rfl (by intro w' hSw; (try dsimp only at hSw); (obtain ⟨d0, d1, d2, d3, d4, d5, d6⟩ := hSw.a.cells); (obtain ⟨c0', c1', c2'⟩ := hSw.c3); (have xk := hSw.x); go_simp) ?_
   refine tcH (i := 24) (v := .pointer (some ⟨g, k * 3 + 1, none⟩)) rfl (by intro w' hSw; (try dsimp only at hSw); (obtain ⟨d0, d1, d2, d3, d4, d5, d6⟩ := hSw.a.cells); (obtain ⟨c0', c1', c2'⟩ := hSw.c3); (have xk := hSw.x); go_simp) ?_
   refine tcH (i := 25) (v := .int .i64 i.h) rfl (by intro w' hSw; (try dsimp only at hSw); (obtain ⟨d0, d1, d2, d3, d4, d5, d6⟩ := hSw.a.cells); (obtain ⟨c0', c1', c2'⟩ := hSw.c3); (have xk := hSw.x); go_simp) ?_
   refine tcH (i := 26) (v := .pointer (some ⟨w.heap.size, 3, none⟩)) rfl (by intro w' hSw; (try dsimp only at hSw); (obtain ⟨d0, d1, d2, d3, d4, d5, d6⟩ := hSw.a.cells); (obtain ⟨c0', c1', c2'⟩ := hSw.c3); (have xk := hSw.x); go_simp) ?_
   refine tcH (i := 27) (v := .pointer (some ⟨w.heap.size, 4, none⟩)) rfl (by intro w' hSw; (try dsimp only at hSw); (obtain ⟨d0, d1, d2, d3, d4, d5, d6⟩ := hSw.a.cells); (obtain ⟨c0', c1', c2'⟩ := hSw.c3); (have xk := hSw.x); go_simp) ?_
   refine tcH (i := 28) (v := .int .i64 f.s.h) rfl (by intro w' hSw; (try dsimp only at hSw); (obtain ⟨d0, d1, d2, d3, d4, d5, d6⟩ := hSw.a.cells); (obtain ⟨c0', c1', c2'⟩ := hSw.c3); (have xk := hSw.x); go_simp) ?_
   refine tcH (i := 29) (v := .bool false) rfl (by intro w' hSw; (try dsimp only at hSw); (obtain ⟨d0, d1, d2, d3, d4, d5, d6⟩ := hSw.a.cells); (obtain ⟨c0', c1', c2'⟩ := hSw.c3); (have xk := hSw.x); go_simp) ?_
   refine tcH (i := 30) (v := .bool false) rfl (by intro w' hSw; (try dsimp only at hSw); (obtain ⟨d0, d1, d2, d3, d4, d5, d6⟩ := hSw.a.cells); (obtain ⟨c0', c1', c2'⟩ := hSw.c3); (have xk := hSw.x); go_simp) ?_
   refine tcH (i := 31) (v := .bool false) rfl (by intro w' hSw; (try dsimp only at hSw); (obtain ⟨d0, d1, d2, d3, d4, d5, d6⟩ := hSw.a.cells); (obtain ⟨c0', c1', c2'⟩ := hSw.c3); (have xk := hSw.x); go_simp) ?_
   refine tcH (i := 32) (v := .pointer (some ⟨w.heap.size, 1, none⟩)) rfl (by intro w' hSw; (try dsimp only at hSw); (obtain ⟨d0, d1, d2, d3, d4, d5, d6⟩ := hSw.a.cells); (obtain ⟨c0', c1', c2'⟩ := hSw.c3); (have xk := hSw.x); go_simp) ?_
   refine tcH (i := 33) (v := .slice (some ⟨ga, 0, none⟩) p c1) rfl (by intro w' hSw; (try dsimp only at hSw); (obtain ⟨d0, d1, d2, d3, d4, d5, d6⟩ := hSw.a.cells); (obtain ⟨c0', c1', c2'⟩ := hSw.c3); (have xk := hSw.x); go_simp) ?_
   refine tcH (i := 34) (v := .int .i64 (k : Int)) rfl (by intro w' hSw; (try dsimp only at hSw); (obtain ⟨d0, d1, d2, d3, d4, d5, d6⟩ := hSw.a.cells); (obtain ⟨c0', c1', c2'⟩ := hSw.c3); (have xk := hSw.x); go_simp) ?_
   refine tcH (i := 35) (v := .pointer (some ⟨ga, k, none⟩)) rfl (by intro w' hSw; (try dsimp only at hSw); (obtain ⟨d0, d1, d2, d3, d4, d5, d6⟩ := hSw.a.cells); (obtain ⟨c0', c1', c2'⟩ := hSw.c3); (have xk := hSw.x); go_simp) ?_
   refine tcH (i := 36) (v := .int .i64 x) rfl (by intro w' hSw; (try dsimp only at hSw); (obtain ⟨d0, d1, d2, d3, d4, d5, d6⟩ := hSw.a.cells); (obtain ⟨c0', c1', c2'⟩ := hSw.c3); (have xk := hSw.x); go_simp) ?_
   (try simp only [Act.put]); (try simp only [zPa]); (try simp only [zPb, zPc])
   refine wpAnyH_ready (rs := [37]) (by kernel_rfl) (by simp) ?_
   refine (AllReadyH.cons rfl (fun K hK => ?_) AllReadyH.nil)
   ·rw [if_pos (by kernel_rfl)]
    by_cases q8 : 0 ≤ x ∧ x ≤ 3
    rotate_left
    ·have hno := Lib.hid (HN.out (fun h => q8 (by have h1 := h.2.1; have h2 := HG.out; omega)))
     have q8' : x < 0 ∨ 3 < x := by omega
     have HR := Lib.hid (fun (W : World) => inS_no x 0 3 W q8')
     (try simp only [zGa]); (try simp only [zGb]); (try simp only [zGc])
     go_simp
     with_reducible refine (HR.out _).mono ?_
     rintro e W' ⟨rfl, rfl⟩
     dsimp only
     refine hK.out _ _ (hS) (fun hS => ?_)
     clear hK
     (try simp only [Act.put]); (try simp only [zPa]); (try simp only [zPb, zPc])
     refine tcH (i := 38) (v := .bool true) rfl (by intro w' hSw; (try dsimp only at hSw); (obtain ⟨d0, d1, d2, d3, d4, d5, d6⟩ := hSw.a.cells); (obtain ⟨c0', c1', c2'⟩ := hSw.c3); (have xk := hSw.x); go_simp) ?_
     refine tcH (i := 39) (v := .bool true) rfl (by intro w' hSw; (try dsimp only at hSw); (obtain ⟨d0, d1, d2, d3, d4, d5, d6⟩ := hSw.a.cells); (obtain ⟨c0', c1', c2'⟩ := hSw.c3); (have xk := hSw.x); go_simp) ?_
     refine tcH (i := 40) (v := .bool true) rfl (by intro w' hSw; (try dsimp only at hSw); (obtain ⟨d0, d1, d2, d3, d4, d5, d6⟩ := hSw.a.cells); (obtain ⟨c0', c1', c2'⟩ := hSw.c3); (have xk := hSw.x); go_simp) ?_
     refine tnH (i := 41) rfl ?_
     refine tnH (i := 42) rfl ?_
     refine tnH (i := 43) rfl ?_
     refine tnH (i := 44) rfl ?_
     refine tnH (i := 45) rfl ?_
     refine tnH (i := 46) rfl ?_
     refine tnH (i := 47) rfl ?_
     refine tnH (i := 48) rfl ?_
     refine tnH (i := 49) rfl ?_
     refine tnH (i := 50) rfl ?_
     refine tcH (i := 51) (v := .bool true) rfl (by intro w' hSw; (try dsimp only at hSw); (obtain ⟨d0, d1, d2, d3, d4, d5, d6⟩ := hSw.a.cells); (obtain ⟨c0', c1', c2'⟩ := hSw.c3); (have xk := hSw.x); go_simp) ?_
     go_simp
     refine wpAnyH_done (by kernel_rfl) ?_ _
     go_wp2_with fail
     go_ret
     exact ⟨ret_bool hno.out.symm, hS.a.bw⟩
    have HR := Lib.hid (fun (W : World) => inS_yes x 0 3 W q8.1 q8.2)
    (try simp only [zGa]); (try simp only [zGb]); (try simp only [zGc])
    go_simp
    with_reducible refine (HR.out _).mono ?_
    rintro e W' ⟨rfl, rfl⟩
    dsimp only
    refine hK.out _ _ (hS) (fun hS => ?_)
    clear hK
    (try simp only [Act.put]); (try simp only [zPa]); (try simp only [zPb, zPc])
    refine tcH (i := 38) (v := .bool false) rfl (by intro w' hSw; (try dsimp only at hSw); (obtain ⟨d0, d1, d2, d3, d4, d5, d6⟩ := hSw.a.cells); (obtain ⟨c0', c1', c2'⟩ := hSw.c3); (have xk := hSw.x); go_simp) ?_
    refine tcH (i := 39) (v := .bool false) rfl (by intro w' hSw; (try dsimp only at hSw); (obtain ⟨d0, d1, d2, d3, d4, d5, d6⟩ := hSw.a.cells); (obtain ⟨c0', c1', c2'⟩ := hSw.c3); (have xk := hSw.x); go_simp) ?_
    refine tcH (i := 40) (v := .bool false) rfl (by intro w' hSw; (try dsimp only at hSw); (obtain ⟨d0, d1, d2, d3, d4, d5, d6⟩ := hSw.a.cells); (obtain ⟨c0', c1', c2'⟩ := hSw.c3); (have xk := hSw.x); go_simp) ?_
    by_cases q9 : x ≤ (m : Int) + 1
    rotate_left
    ·have hno := Lib.hid (HN.out (fun h => q9 (by have h1 := h.2.1; have h2 := HG.out; omega)))
     have q9' : (m : Int) + 1 < x := by omega
     refine tcH (i := 41) (v := .pointer (some ⟨w.heap.size, 1, none⟩)) rfl (by intro w' hSw; (try dsimp only at hSw); (obtain ⟨d0, d1, d2, d3, d4, d5, d6⟩ := hSw.a.cells); (obtain ⟨c0', c1', c2'⟩ := hSw.c3); (have xk := hSw.x); go_simp) ?_
     refine tcH (i := 42) (v := .slice (some ⟨ga, 0, none⟩) p c1) rfl (by intro w' hSw; (try dsimp only at hSw); (obtain ⟨d0, d1, d2, d3, d4, d5, d6⟩ := hSw.a.cells); (obtain ⟨c0', c1', c2'⟩ := hSw.c3); (have xk := hSw.x); go_simp) ?_
     refine tcH (i := 43) (v := .int .i64 (k : Int)) rfl (by intro w' hSw; (try dsimp only at hSw); (obtain ⟨d0, d1, d2, d3, d4, d5, d6⟩ := hSw.a.cells); (obtain ⟨c0', c1', c2'⟩ := hSw.c3); (have xk := hSw.x); go_simp) ?_
     refine tcH (i := 44) (v := .pointer (some ⟨ga, k, none⟩)) rfl (by intro w' hSw; (try dsimp only at hSw); (obtain ⟨d0, d1, d2, d3, d4, d5, d6⟩ := hSw.a.cells); (obtain ⟨c0', c1', c2'⟩ := hSw.c3); (have xk := hSw.x); go_simp) ?_
     refine tcH (i := 45) (v := .int .i64 x) rfl (by intro w' hSw; (try dsimp only at hSw); (obtain ⟨d0, d1, d2, d3, d4, d5, d6⟩ := hSw.a.cells); (obtain ⟨c0', c1', c2'⟩ := hSw.c3); (have xk := hSw.x); go_simp) ?_
     refine tcH (i := 46) (v := .pointer (some ⟨w.heap.size, 2, none⟩)) rfl (by intro w' hSw; (try dsimp only at hSw); (obtain ⟨d0, d1, d2, d3, d4, d5, d6⟩ := hSw.a.cells); (obtain ⟨c0', c1', c2'⟩ := hSw.c3); (have xk := hSw.x); go_simp) ?_
     refine tcH (i := 47) (v := .slice A2 m c2) rfl (by intro w' hSw; (try dsimp only at hSw); (obtain ⟨d0, d1, d2, d3, d4, d5, d6⟩ := hSw.a.cells); (obtain ⟨c0', c1', c2'⟩ := hSw.c3); (have xk := hSw.x); go_simp) ?_
     refine tcH (i := 48) (v := .int .i64 (m : Int)) rfl (by intro w' hSw; (try dsimp only at hSw); (obtain ⟨d0, d1, d2, d3, d4, d5, d6⟩ := hSw.a.cells); (obtain ⟨c0', c1', c2'⟩ := hSw.c3); (have xk := hSw.x); go_simp) ?_
     refine tcH (i := 49) (v := .int .i64 ((m : Int) + 1)) rfl (by intro w' hSw; (try dsimp only at hSw); (obtain ⟨d0, d1, d2, d3, d4, d5, d6⟩ := hSw.a.cells); (obtain ⟨c0', c1', c2'⟩ := hSw.c3); (have xk := hSw.x); go_simp) ?_
     refine tcH (i := 50) (v := .bool true) rfl (by intro w' hSw; (try dsimp only at hSw); (obtain ⟨d0, d1, d2, d3, d4, d5, d6⟩ := hSw.a.cells); (obtain ⟨c0', c1', c2'⟩ := hSw.c3); (have xk := hSw.x); go_simp) ?_
     refine tcH (i := 51) (v := .bool true) rfl (by intro w' hSw; (try dsimp only at hSw); (obtain ⟨d0, d1, d2, d3, d4, d5, d6⟩ := hSw.a.cells); (obtain ⟨c0', c1', c2'⟩ := hSw.c3); (have xk := hSw.x); go_simp) ?_
     go_simp
     refine wpAnyH_done (by kernel_rfl) ?_ _
     go_wp2_with fail
     go_ret
     exact ⟨ret_bool hno.out.symm, hS.a.bw⟩
    refine tcH (i := 41) (v := .pointer (some ⟨w.heap.size, 1, none⟩)) rfl (by intro w' hSw; (try dsimp only at hSw); (obtain ⟨d0, d1, d2, d3, d4, d5, d6⟩ := hSw.a.cells); (obtain ⟨c0', c1', c2'⟩ := hSw.c3); (have xk := hSw.x); go_simp) ?_
    refine tcH (i := 42) (v := .slice (some ⟨ga, 0, none⟩) p c1) rfl (by intro w' hSw; (try dsimp only at hSw); (obtain ⟨d0, d1, d2, d3, d4, d5, d6⟩ := hSw.a.cells); (obtain ⟨c0', c1', c2'⟩ := hSw.c3); (have xk := hSw.x); go_simp) ?_
    refine tcH (i := 43) (v := .int .i64 (k : Int)) rfl (by intro w' hSw; (try dsimp only at hSw); (obtain ⟨d0, d1, d2, d3, d4, d5, d6⟩ := hSw.a.cells); (obtain ⟨c0', c1', c2'⟩ := hSw.c3); (have xk := hSw.x); go_simp) ?_
    refine tcH (i := 44) (v := .pointer (some ⟨ga, k, none⟩)) rfl (by intro w' hSw; (try dsimp only at hSw); (obtain ⟨d0, d1, d2, d3, d4, d5, d6⟩ := hSw.a.cells); (obtain ⟨c0', c1', c2'⟩ := hSw.c3); (have xk := hSw.x); go_simp) ?_
    refine tcH (i := 45) (v := .int .i64 x) rfl (by intro w' hSw; (try dsimp only at hSw); (obtain ⟨d0, d1, d2, d3, d4, d5, d6⟩ := hSw.a.cells); (obtain ⟨c0', c1', c2'⟩ := hSw.c3); (have xk := hSw.x); go_simp) ?_
    refine tcH (i := 46) (v := .pointer (some ⟨w.heap.size, 2, none⟩)) rfl (by intro w' hSw; (try dsimp only at hSw); (obtain ⟨d0, d1, d2, d3, d4, d5, d6⟩ := hSw.a.cells); (obtain ⟨c0', c1', c2'⟩ := hSw.c3); (have xk := hSw.x); go_simp) ?_
    refine tcH (i := 47) (v := .slice A2 m c2) rfl (by intro w' hSw; (try dsimp only at hSw); (obtain ⟨d0, d1, d2, d3, d4, d5, d6⟩ := hSw.a.cells); (obtain ⟨c0', c1', c2'⟩ := hSw.c3); (have xk := hSw.x); go_simp) ?_
    refine tcH (i := 48) (v := .int .i64 (m : Int)) rfl (by intro w' hSw; (try dsimp only at hSw); (obtain ⟨d0, d1, d2, d3, d4, d5, d6⟩ := hSw.a.cells); (obtain ⟨c0', c1', c2'⟩ := hSw.c3); (have xk := hSw.x); go_simp) ?_
    refine tcH (i := 49) (v := .int .i64 ((m : Int) + 1)) rfl (by intro w' hSw; (try dsimp only at hSw); (obtain ⟨d0, d1, d2, d3, d4, d5, d6⟩ := hSw.a.cells); (obtain ⟨c0', c1', c2'⟩ := hSw.c3); (have xk := hSw.x); go_simp) ?_
    refine tcH (i := 50) (v := .bool false) rfl (by intro w' hSw; (try dsimp only at hSw); (obtain ⟨d0, d1, d2, d3, d4, d5, d6⟩ := hSw.a.cells); (obtain ⟨c0', c1', c2'⟩ := hSw.c3); (have xk := hSw.x); go_simp) ?_
    refine tcH (i := 51) (v := .bool false) rfl (by intro w' hSw; (try dsimp only at hSw); (obtain ⟨d0, d1, d2, d3, d4, d5, d6⟩ := hSw.a.cells); (obtain ⟨c0', c1', c2'⟩ := hSw.c3); (have xk := hSw.x); go_simp) ?_
    go_simp
    refine wpAnyH_done (by kernel_rfl) ?_ _
    have hC2 : CnK w f (.slice (some ⟨g, 0, none⟩) p c0) (.slice (some ⟨ga, 0, none⟩) p c1) (.slice A2 m c2) (.slice A3 f.s.fs.length c3) bs g k i (.slice Au i.d.length cu) ga x _ := hS
    have HC2 := Lib.hid hC2
    clear hS hC2 hT
    obtain ⟨d0, d1, d2, d3, d4, d5, d6⟩ := HC2.out.a.cells
    go_wp2_with fail
    clear d0 d1 d2 d3 d4 d5 d6
    go_loopw [4] (fun s4 wz => ∃ j : Nat, j ≤ k ∧ s4 = .int .i64 j ∧ Hid (x = 0 ∨ ∀ q : Nat, q < j → f.ages[q]? ≠ some x) ∧ CnA w f (.slice (some ⟨g, 0, none⟩) p c0) (.slice (some ⟨ga, 0, none⟩) p c1) (.slice A2 m c2) (.slice A3 f.s.fs.length c3) bs wz) (fun s4 _ => k - (intOf s4).toNat)
    case atStart => exact ⟨0, Nat.zero_le _, rfl, Lib.hid (.inr fun q hq => by omega), HC2.out.a⟩
    case round =>
     clear HC2
     obtain ⟨j, hj, rfl, HJ, hA⟩ := hrel
     by_cases hjl : j < k
     ·obtain ⟨gb, y, he, hy, hcy⟩ := hA.g.at_ (k := j) (by rw [← Hp.out]; omega)
      obtain rfl : ga = gb := by simpa using he
      obtain ⟨gb, x', he, hx', hcx⟩ := hA.g.at_ (k := k) (by rw [← Hp.out]; omega)
      obtain rfl : ga = gb := by simpa using he
      obtain rfl : x = x' := Option.some.inj (Hx.out.symm.trans hx')
      have Hy := Lib.hid hy
      have j0 : (0 : Int) ≤ (j : Int) := by omega
      have j1 : (j : Int) < (k : Int) := by omega
      have j2 : (j : Int) < (p : Int) := by omega
      obtain ⟨d0, d1, d2, d3, d4, d5, d6⟩ := hA.cells
      have HA := Lib.hid hA
      clear hy he hx' hA
      by_cases e1 : y = x
      ·by_cases e2 : x = 0
       ·have hyes : Hid (x = 0 ∨ ∀ q : Nat, q < j + 1 → f.ages[q]? ≠ some x) := Lib.hid (.inl e2)
        have b1 : (y == x) = true := by simpa using e1
        have b2 : (x != 0) = false := by simpa using e2
        clear e1 e2
        go_upto_region 11 with fail
        go_quiet (fail)
        go_wp2_with fail
        go_roundw
        case rel => exact ⟨j + 1, by omega, by go_num, hyes, HA.out.call (below_drewN (Below.refl _ _) _)⟩
        case measure => simp [intOf]; omega
       ·have hno := Lib.hid (HN.out fun h => by
         rcases h.2.2 with h | h
         ·exact e2 h
         ·exact h j hjl (by rw [Hy.out, e1]))
        have b1 : (y == x) = true := by simpa using e1
        have b2 : (x != 0) = true := by simpa using e2
        clear e1 e2
        go_upto_region 11 with fail
        go_quiet (fail)
        go_wp2_with fail
        go_ret
        exact ⟨ret_bool hno.out.symm, (HA.out.call (below_drewN (Below.refl _ _) _)).bw⟩
      ·have hyes : Hid (x = 0 ∨ ∀ q : Nat, q < j + 1 → f.ages[q]? ≠ some x) := Lib.hid (by
        rcases HJ.out with h | h
        ·exact .inl h
        ·refine .inr fun q hq he => ?_
         by_cases hqj : q < j
         ·exact h q hqj he
         ·obtain rfl : q = j := by omega
          rw [Hy.out] at he
          exact e1 (Option.some.inj he))
       have b1 : (y == x) = false := by simpa using e1
       clear e1
       go_upto_region 11 with fail
       go_quiet (fail)
       go_wp2_with fail
       go_roundw
       case rel => exact ⟨j + 1, by omega, by go_num, hyes, HA.out.call (below_drewN (Below.refl _ _) _)⟩
       case measure => simp [intOf]; omega
     ·obtain rfl : j = k := by omega
      have hyes : Hid (∀ (q : Nat) (i : Im) (x : Int), q < j + 1 → f.ims[q]? = some i → f.ages[q]? = some x → bufAt f.s.w f.s.h i ∧ ageAt f.ages (grA m) q x) := Lib.hid fun q i' x' hq hi hx => by
       by_cases hqj : q < j
       ·exact Hall.out q i' x' hqj hi hx
       ·obtain rfl : q = j := by omega
        rw [Hi.out] at hi
        rw [Hx.out] at hx
        rw [← Option.some.inj hi, ← Option.some.inj hx]
        exact ⟨⟨Q6.out, Q7.out, Q5.out⟩, ⟨q8.1, by have h2 := HG.out; omega⟩, HJ.out⟩
      go_wp2_with fail
      go_roundw
      case rel => exact ⟨j + 1, by omega, by go_num, hyes, hA⟩
      case measure => simp [intOf]; omega
end Go.Proofs.Ytnndifemkichmaa
