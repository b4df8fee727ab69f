/- The contract of spec.Oriented. No statement is proved here. -/
import Derived.Test.YtokniebejilcbaaGreatMA
import Derived.Test.YtokniebejilcbaaGreatMB
import Derived.Test.YtokniebejilcbaaGreatMC
import Derived.Test.YtokniebejilcbaaGreatCpyI
import Derived.Test.YtokniebejilcbaaGreatFilB
import Derived.Test.YtokniebejilcbaaGreatOrdB
import Derived.Test.YtokniebejilcbaaGreatProg
import Derived.WalkKit
import Derived.ProofKit
import Derived.OpenShut
import Derived.WalkLawsBesides
import Derived.WalkSpells
import Derived.ShutString
import Derived.ChangeOld
import Derived.Below
import Derived.Lib.Hide
import Derived.Deep.MidRow
import Derived.Deep.WholeRow
import Derived.Maps.AppendAt
import Derived.BigQuiet
import Derived.Deep.QuietTactic
import Derived.Deep.OwnRows
import Derived.Handy
import Derived.Deep.Draws
import Derived.OwnWalk
import Derived.Deep.AppendLies
import Derived.Deep.LoopGhost
import Derived.Deep.Onto
import Derived.Laws.BitsAllLaws
import Derived.Lib.QuoteBits
import Derived.Deep.RegionHeld3
import Derived.Deep.DeepCutAuto
import Derived.Test.YtokniebejilcbaaGreatShelf
import Derived.Laws.CopyOwn
import Derived.Deep.RegionLaw
import Derived.Great.BuildSlice
import Derived.Laws.AppendOwn
namespace Go.Proofs.YtokniebejilcbaaGreat
open Go.RowKit
theorem own_at_put {w : World} {B gq n cap j : Nat} {e : TypeId} {L : List Int} (h : w.ownsRow B e 1 (.slice (some ⟨gq, 0, none⟩) n cap) n (intCells L)) (hj : j < n) (hl : L.length = n) : w.cell? ⟨gq, j, none⟩ = some (.int .i64 (L.getD j 0)) ∧ w.frozen? ⟨gq, j, none⟩ = false := by
 refine ⟨?_, h.frozenAt j⟩
 have h2 := h.cellAt j (by omega)
 rw [h2, intCells_get, List.getD_eq_getElem?_getD, List.getElem?_eq_getElem (by omega)]
 rfl
theorem grown_dr (w : World) (row : Option Nat) : w.grownBy w.drew row := ⟨rfl, rfl, rfl, Nat.le_refl _, fun _ _ _ => rfl⟩
structure OrS (w : World) (W H gi n c P Q bo gq k : Nat) (z : Int) (V : World) : Prop where
 a : ImAt V w.heap.size 55 W H (.slice (some ⟨gi, 0, none⟩) n c)
 o : ImAt V bo 55 P Q (.slice (some ⟨gq, 0, none⟩) n n)
 z : V.cell? ⟨gi, k, none⟩ = some (.int .i64 z)
theorem OrS.drew {w : World} {W H gi n c P Q bo gq k : Nat} {z : Int} {V : World} (h : OrS w W H gi n c P Q bo gq k z V) : OrS w W H gi n c P Q bo gq k z V.drew := ⟨h.a, h.o, h.z⟩
theorem OrS.set {w : World} {W H gi n c P Q bo gq k : Nat} {z : Int} {V V' : World} (h : OrS w W H gi n c P Q bo gq k z V) (hn : w.heap.size ≠ gq ∧ bo ≠ gq ∧ gi ≠ gq) (hg : V.grownBy V' (some gq)) : OrS w W H gi n c P Q bo gq k z V' :=
 ⟨h.a.grown hg (fun e => hn.1 (Option.some.inj e)), h.o.grown hg (fun e => hn.2.1 (Option.some.inj e)), cell_grown h.z hg (fun e => hn.2.2 (Option.some.inj e))⟩
set_option maxHeartbeats 2000000 in
set_option maxRecDepth 10000 in
theorem ordS_ok (W H : Nat) (v : Value) (L : List Int) (o : Int) (w : World) (h1 : imOk W H L) (ho : orOk o) (hv : RdI w v L) :
  Calls Tryz.prog 200 #[.agg #[.int .i64 W, .int .i64 H, v], .int .i64 o] w (AnsIm (orIm W H L o) w) := by
 have HA := Lib.hid (orIm_yes h1 ho)
 obtain ⟨W2, H2, e1, e2, wl, wh, hl, hh, hL⟩ := im_nat h1
 obtain rfl : W = W2 := by exact_mod_cast e1
 obtain rfl : H = H2 := by exact_mod_cast e2
 have hsm : 1 ≤ W ∧ W ≤ 16 ∧ 1 ≤ H ∧ H ≤ 16 := ⟨wl, wh, hl, hh⟩
 have hor := or_small o hsm
 have har := or_area W H o
 have SZ := fun W0 => osS W H o W0
 unfold TwoAns at SZ
 rw [os_yes (by unfold szOk; omega) ho, orW_nat, orH_nat] at SZ
 dsimp only at SZ
 obtain ⟨P, hP⟩ : ∃ P, P = orWn W H o := ⟨_, rfl⟩
 obtain ⟨Q, hQ⟩ : ∃ Q, Q = orHn W H o := ⟨_, rfl⟩
 obtain ⟨n, hn⟩ : ∃ n, n = W * H := ⟨_, rfl⟩
 rw [← hP, ← hQ] at hor har SZ
 rw [← hn] at har hL
 have n2 : n ≤ 256 := by rw [hn]; exact mul_256 wh hh
 have n1 : 1 ≤ n := by rw [hn]; exact Nat.mul_pos wl hl
 have e0 : (P : Int) * (Q : Int) = (n : Int) := by rw [← har]; simp
 obtain ⟨P1, P2, Q1, Q2⟩ := hor
 obtain ⟨A, c, rfl⟩ := hv.form
 rw [hL] at hv ⊢
 obtain ⟨gi, z0, hA, _, hc0⟩ := hv.at_ (k := 0) (by omega)
 have hgi : gi < w.heap.size := World.block_lt_of_cell? w _ hc0
 subst hA
 have hS : OrA w W H (.slice (some ⟨gi, 0, none⟩) n c) L ((w.alloc (.cells #[.int .i64 W, .int .i64 H, .slice (some ⟨gi, 0, none⟩) n c] 55)).alloc (.cells #[.int .i64 0, .int .i64 0, .slice none 0 0] 55)) :=
  ⟨(ImAt.new _ _ _ _ _).alloc _, ImAt.newAt (by simp) _ _ _ _, (hv.alloc _).alloc _, belI_call (belI_box _ _) (belI_box _ _)⟩
 have HZ := Lib.hid SZ
 have HP := Lib.hid hP
 have HQ := Lib.hid hQ
 have HL := Lib.hid hL
 have HM := Lib.hid hn
 have Ho := Lib.hid ho
 have Hi := Lib.hid h1
 have HG := Lib.hid hgi
 obtain ⟨o1, o2⟩ := ho
 clear SZ hP hQ hL hn h1 hv hc0 har hgi
 obtain ⟨a0, a1, a2⟩ := hS.a.cells
 go_enter Tryz.func200, Tryz.ntmps200
 go_wp2_with fail
 refine (imS W H _ L _ hS.rd).mono ?_
 rintro e w2 ⟨rfl, hb⟩
 replace hS := hS.call hb
 clear hb a0 a1 a2
 rw [imB_yes Hi.out]
 go_wp2_with fail
 refine (inS_yes o 0 7 _ (by omega) (by omega)).mono ?_
 rintro e w' ⟨rfl, rfl⟩
 obtain ⟨a0, a1, a2⟩ := hS.a.cells
 go_wp2_with fail
 refine (HZ.out _).mono ?_
 rintro e w3 ⟨rfl, hb⟩
 replace hS := hS.call hb
 clear hb a0 a1 a2
 have hmk := fun W0 => run_make_row' (P := Tryz.prog) 53 3 (.int .i64 0) 8 Tryz.underlying53 infoInt rfl .i64 .i64 n (by omega) (by omega) W0
 obtain ⟨gq, hgq⟩ : ∃ g, g = w3.heap.size := ⟨_, rfl⟩
 have hown : (w3.alloc (.cells (madeCells #[.int .i64 0] n) 3)).ownsRow gq 3 1 (.slice (some ⟨gq, 0, none⟩) n n) n (intCells (tabI n (orF W H L o 0))) := by
  subst hgq
  exact own_of_rowIs (World.rowIs_made _ _ _ _) (Nat.le_refl _) (by unfold maxLen; omega) (tabI_length _ _) (fun j x hx => by
   have hj : j < n := by have := (List.getElem?_eq_some_iff.1 hx).1; rwa [tabI_length] at this
   rw [tabI_get n _ j hj] at hx
   injection hx with hx
   rw [← hx]; unfold orF; rw [if_neg (by omega)])
 obtain ⟨bo, hbo⟩ : ∃ b, b = w3.heap.size + 1 := ⟨_, rfl⟩
 obtain ⟨V0, hV0⟩ : ∃ V, V = (w3.alloc (.cells (madeCells #[.int .i64 0] n) 3)).alloc (.cells #[.int .i64 P, .int .i64 Q, .slice (some ⟨w3.heap.size, 0, none⟩) n n] 55) := ⟨_, rfl⟩
 have hsz := hS.r.lt
 have hO : ImAt V0 bo 55 P Q (.slice (some ⟨gq, 0, none⟩) n n) := by rw [hV0, hgq, hbo]; exact ImAt.newAt (by simp) _ _ _ _
 have HB := Lib.hid (show w.heap.size ≠ gq ∧ bo ≠ gq ∧ gi ≠ gq ∧ w.heap.size + 1 < gq from by have := HG.out; omega)
 have HV := Lib.hid hV0
 have Hb := Lib.hid hbo
 have Hq := Lib.hid hgq
 replace hown := hown.alloc (.cells #[.int .i64 P, .int .i64 Q, .slice (some ⟨w3.heap.size, 0, none⟩) n n] 55)
 replace hS := (hS.call (belI_box w3 (.cells (madeCells #[.int .i64 0] n) 3))).call (belI_box _ (.cells #[.int .i64 P, .int .i64 Q, .slice (some ⟨w3.heap.size, 0, none⟩) n n] 55))
 rw [← hV0] at hown hS
 have Hown := Lib.hid hown
 have HS := Lib.hid hS
 have HO := Lib.hid hO
 have Hgr : Hid (V0.grownBy V0 (some gq)) := Lib.hid (World.grownBy.refl _ _)
 clear hV0 hbo hgq hown hS hO hsz
 go_wp2_with fail
 rw [← HV.out, ← Hb.out]
 clear hmk
 go_loopg [8] H (fun g8 s8 wr => ∃ (y : Nat) (V : World), V = wr ∧ y ≤ H ∧ g8 = H - y ∧ s8 = .int .i64 y ∧ Hid (V.ownsRow gq 3 1 (.slice (some ⟨gq, 0, none⟩) n n) n (intCells (tabI n (orF W H L o (y * W + 0))))) ∧ Hid (V0.grownBy V (some gq)))
 case atStart => exact ⟨0, _, rfl, Nat.zero_le _, by omega, rfl, by rw [Nat.zero_mul]; exact Hown, Hgr⟩
 case round =>
  clear Hown Hgr
  obtain ⟨y, wy, hV, hy2, rfl, rfl, Hown, Hgr⟩ := hrel
  subst hV
  obtain ⟨a0, a1, a2⟩ := (HS.out.a.grown Hgr.out (fun e => HB.out.1 (Option.some.inj e))).cells
  by_cases hyl : y < H
  ·have hyi : (y : Int) < (H : Int) := by omega
   go_wp2_with fail
   go_loopg [9] W (fun g9 s9 wz => ∃ (x : Nat) (V : World), V = wz ∧ x ≤ W ∧ g9 = W - x ∧ s9 = .int .i64 x ∧ Hid (V.ownsRow gq 3 1 (.slice (some ⟨gq, 0, none⟩) n n) n (intCells (tabI n (orF W H L o (y * W + x))))) ∧ Hid (V0.grownBy V (some gq)))
   case atStart => exact ⟨0, _, rfl, Nat.zero_le _, by omega, rfl, Hown, Hgr⟩
   case round =>
    clear Hown Hgr a0 a1 a2
    obtain ⟨x, wx, hV, hx2, rfl, rfl, Hown, Hgr⟩ := hrel
    subst hV
    obtain ⟨a0, a1, a2⟩ := (HS.out.a.grown Hgr.out (fun e => HB.out.1 (Option.some.inj e))).cells
    by_cases hxl : x < W
    ·have hxi : (x : Int) < (W : Int) := by omega
     obtain ⟨a, b, e, ha, hb⟩ := or_pt (x := x) (y := y) ⟨wl, wh, hl, hh⟩ Ho.out hxl hyl
     have R := fun W0 => opS W H o x y W0
     have hpl := plc_is e
     unfold TwoAns at R
     rw [op_yes Ho.out (ptN_ok ⟨wl, wh, hl, hh⟩ hxl hyl), show Pp.ori o ⟨W, H, x, y⟩ = _ from e] at R
     dsimp only [ptN] at R
     rw [← HP.out] at ha
     rw [← HQ.out] at hb
     have HR := Lib.hid R
     have HE := Lib.hid hpl
     clear R e hpl
     go_wp2_with fail
     refine (HR.out _).mono ?_
     rintro e wv ⟨rfl, hbv⟩
     have hOw := ownI_call Hown.out hbv
     have Hgr2 := Lib.hid (grown_below Hgr.out hbv)
     obtain ⟨m, hm⟩ : ∃ m, m = y * W := ⟨_, rfl⟩
     obtain ⟨mb, hmb⟩ : ∃ m, m = b * P := ⟨_, rfl⟩
     have l1 : m + x < n := by rw [hm, HM.out]; exact plc_lt hxl hyl
     have l2 : mb + a < n := by rw [hmb, HM.out, ← or_area W H o, ← HP.out, ← HQ.out]; exact plc_lt ha hb
     obtain ⟨g1, z, hg1, hz, hc⟩ := (HS.out.rd.grown Hgr2.out (fun g hg e => HB.out.2.2.1 (by injection hg with hg; injection e with e; exact hg.trans e))).at_ (k := m + x) (by rw [HL.out]; exact l1)
     injection hg1 with hg1
     injection hg1 with hg1
     subst hg1
     have HM3 : Hid (L.getD (m + x) 0 = z) := Lib.hid (by rw [List.getD_eq_getElem?_getD, hz]; rfl)
     have HM2 : Hid ((m = y * W ∧ mb = b * P) ∧ plcN W H o x y = b * orWn W H o + a) := Lib.hid ⟨⟨hm, hmb⟩, HE.out⟩
     have q1 : IntKind.i64.wrap ((y : Int) * (W : Int)) = (m : Int) := by rw [hm, wrap_in _ (by omega) (by omega)]; simp
     have q2 : IntKind.i64.wrap ((b : Int) * (P : Int)) = (mb : Int) := by rw [hmb, wrap_in _ (by omega) (by omega)]; simp
     have q3 := wrap_in ((m : Int) + (x : Int)) (by omega) (by omega)
     have q4 := wrap_in ((mb : Int) + (a : Int)) (by omega) (by omega)
     have t1 : ((m : Int) + (x : Int)).toNat = m + x := by omega
     have t2 : ((mb : Int) + (a : Int)).toNat = mb + a := by omega
     have u1 : (m : Int) + (x : Int) < (n : Int) := by omega
     have u2 : (mb : Int) + (a : Int) < (n : Int) := by omega
     have v1 : (0 : Int) ≤ (m : Int) + (x : Int) := by omega
     have v2 : (0 : Int) ≤ (mb : Int) + (a : Int) := by omega
     have hT : OrS w W H gi n c P Q bo gq (m + x) z wv := ⟨HS.out.a.grown Hgr2.out (fun e => HB.out.1 (Option.some.inj e)), HO.out.grown Hgr2.out (fun e => HB.out.2.1 (Option.some.inj e)), hc⟩
     have hsep : w.heap.size ≠ gq ∧ bo ≠ gq ∧ gi ≠ gq := ⟨HB.out.1, HB.out.2.1, HB.out.2.2.1⟩
     clear hbv hm hmb hz hc a0 a1 a2
     go_upto_region 12 with fail
     refine wp_region_held_drew (S := fun V => OrS w W H gi n c P Q bo gq (m + x) z V) (by kernel_rfl) hT.drew (fun hS => ?_)
     replace hOw := show World.ownsRow wv.drew _ _ _ _ _ _ from hOw
     have cS := (own_at_put hOw (j := mb + a) (by omega) (tabI_length _ _)).1
     have fS := (own_at_put hOw (j := mb + a) (by omega) (tabI_length _ _)).2
     refine tcH (i := 0) (v := .pointer (some ⟨bo, 2, none⟩)) rfl (by intro w' hSw; (try dsimp only at hSw); (obtain ⟨a0, a1, a2⟩ := hSw.a.cells); (obtain ⟨o0, o1, o2⟩ := hSw.o.cells); (have zc := hSw.z); go_simp) ?_
     refine tcH (i := 1) (v := .slice (some ⟨gq, 0, none⟩) n n) rfl (by intro w' hSw; (try dsimp only at hSw); (obtain ⟨a0, a1, a2⟩ := hSw.a.cells); (obtain ⟨o0, o1, o2⟩ := hSw.o.cells); (have zc := hSw.z); go_simp) ?_
     refine tcH (i := 2) (v := .int .i64 (b : Int)) rfl (by intro w' hSw; (try dsimp only at hSw); (obtain ⟨a0, a1, a2⟩ := hSw.a.cells); (obtain ⟨o0, o1, o2⟩ := hSw.o.cells); (have zc := hSw.z); go_simp) ?_
     refine tcH (i := 3) (v := .int .i64 (P : Int)) rfl (by intro w' hSw; (try dsimp only at hSw); (obtain ⟨a0, a1, a2⟩ := hSw.a.cells); (obtain ⟨o0, o1, o2⟩ := hSw.o.cells); (have zc := hSw.z); go_simp) ?_
     refine tcH (i := 4) (v := .int .i64 (mb : Int)) rfl (by intro w' hSw; (try dsimp only at hSw); (obtain ⟨a0, a1, a2⟩ := hSw.a.cells); (obtain ⟨o0, o1, o2⟩ := hSw.o.cells); (have zc := hSw.z); go_simp) ?_
     refine tcH (i := 5) (v := .int .i64 (a : Int)) rfl (by intro w' hSw; (try dsimp only at hSw); (obtain ⟨a0, a1, a2⟩ := hSw.a.cells); (obtain ⟨o0, o1, o2⟩ := hSw.o.cells); (have zc := hSw.z); go_simp) ?_
     refine tcH (i := 6) (v := .int .i64 ((mb : Int) + (a : Int))) rfl (by intro w' hSw; (try dsimp only at hSw); (obtain ⟨a0, a1, a2⟩ := hSw.a.cells); (obtain ⟨o0, o1, o2⟩ := hSw.o.cells); (have zc := hSw.z); go_simp) ?_
     refine tcH (i := 7) (v := .pointer (some ⟨w.heap.size, 2, none⟩)) rfl (by intro w' hSw; (try dsimp only at hSw); (obtain ⟨a0, a1, a2⟩ := hSw.a.cells); (obtain ⟨o0, o1, o2⟩ := hSw.o.cells); (have zc := hSw.z); go_simp) ?_
     refine tcH (i := 8) (v := .slice (some ⟨gi, 0, none⟩) n c) rfl (by intro w' hSw; (try dsimp only at hSw); (obtain ⟨a0, a1, a2⟩ := hSw.a.cells); (obtain ⟨o0, o1, o2⟩ := hSw.o.cells); (have zc := hSw.z); go_simp) ?_
     refine tcH (i := 9) (v := .int .i64 (y : Int)) rfl (by intro w' hSw; (try dsimp only at hSw); (obtain ⟨a0, a1, a2⟩ := hSw.a.cells); (obtain ⟨o0, o1, o2⟩ := hSw.o.cells); (have zc := hSw.z); go_simp) ?_
     refine tcH (i := 10) (v := .pointer (some ⟨w.heap.size, 0, none⟩)) rfl (by intro w' hSw; (try dsimp only at hSw); (obtain ⟨a0, a1, a2⟩ := hSw.a.cells); (obtain ⟨o0, o1, o2⟩ := hSw.o.cells); (have zc := hSw.z); go_simp) ?_
     refine tcH (i := 11) (v := .int .i64 (W : Int)) rfl (by intro w' hSw; (try dsimp only at hSw); (obtain ⟨a0, a1, a2⟩ := hSw.a.cells); (obtain ⟨o0, o1, o2⟩ := hSw.o.cells); (have zc := hSw.z); go_simp) ?_
     refine tcH (i := 12) (v := .int .i64 (m : Int)) rfl (by intro w' hSw; (try dsimp only at hSw); (obtain ⟨a0, a1, a2⟩ := hSw.a.cells); (obtain ⟨o0, o1, o2⟩ := hSw.o.cells); (have zc := hSw.z); go_simp) ?_
     refine tcH (i := 13) (v := .int .i64 (x : Int)) rfl (by intro w' hSw; (try dsimp only at hSw); (obtain ⟨a0, a1, a2⟩ := hSw.a.cells); (obtain ⟨o0, o1, o2⟩ := hSw.o.cells); (have zc := hSw.z); go_simp) ?_
     refine tcH (i := 14) (v := .int .i64 ((m : Int) + (x : Int))) rfl (by intro w' hSw; (try dsimp only at hSw); (obtain ⟨a0, a1, a2⟩ := hSw.a.cells); (obtain ⟨o0, o1, o2⟩ := hSw.o.cells); (have zc := hSw.z); go_simp) ?_
     refine tcH (i := 15) (v := .pointer (some ⟨gi, m + x, none⟩)) rfl (by intro w' hSw; (try dsimp only at hSw); (obtain ⟨a0, a1, a2⟩ := hSw.a.cells); (obtain ⟨o0, o1, o2⟩ := hSw.o.cells); (have zc := hSw.z); go_simp) ?_
     refine tcH (i := 16) (v := .int .i64 z) rfl (by intro w' hSw; (try dsimp only at hSw); (obtain ⟨a0, a1, a2⟩ := hSw.a.cells); (obtain ⟨o0, o1, o2⟩ := hSw.o.cells); (have zc := hSw.z); go_simp) ?_
     refine tcH (i := 17) (v := .pointer (some ⟨gq, mb + a, none⟩)) rfl (by intro w' hSw; (try dsimp only at hSw); (obtain ⟨a0, a1, a2⟩ := hSw.a.cells); (obtain ⟨o0, o1, o2⟩ := hSw.o.cells); (have zc := hSw.z); go_simp) ?_
     (try simp only [Act.put]); (try simp only [zPa]); (try simp only [zPb, zPc])
     refine wpAnyH_ready (rs := [18]) (by kernel_rfl) (by simp) ?_
     refine (AllReadyH.cons rfl (fun K hK => ?_) AllReadyH.nil)
     ·rw [if_pos (by kernel_rfl)]
      (try simp only [zGa]); (try simp only [zGb]); (try simp only [zGc])
      go_simp
      refine hK.out _ _ (hS.set hsep (grown_setI _ gq (mb + a) _)) (fun hS => ?_)
      clear hK
      (try simp only [Act.put]); (try simp only [zPa]); (try simp only [zPb, zPc])
      refine wpAnyH_done (by kernel_rfl) ?_ _
      go_wp2_with fail
      go_roundg (W - (x + 1))
      case measure => omega
      case rel =>
       have h := (ownI_put hOw (mb + a) z).1
       have hset : (tabI n (orF W H L o (y * W + x))).set (mb + a) z = tabI n (orF W H L o (y * W + (x + 1))) := by
        rw [show mb + a = plcN W H o x y by rw [HM2.out.2, ← HP.out, HM2.out.1.2], HM.out]
        exact orF_set ⟨wl, wh, hl, hh⟩ Ho.out hxl hyl (by rw [← HM2.out.1.1]; exact HM3.out)
       rw [hset] at h
       exact ⟨x + 1, _, rfl, by omega, by omega, by go_num, Lib.hid h, Lib.hid ((Hgr2.out.trans (grown_setI _ gq (mb + a) _)).trans (grown_dr _ _))⟩
    ·obtain rfl : x = W := by omega
     go_wp2_with fail
     go_roundg (H - (y + 1))
     case measure => omega
     case rel => exact ⟨y + 1, _, rfl, by omega, by omega, by go_num, by rw [Nat.add_mul, Nat.one_mul]; exact Hown, Hgr⟩
  ·obtain rfl : y = H := by omega
   have hr := HS.out.r.grown Hgr.out (fun e => by have := HB.out.2.2.2; injection e with e; omega)
   obtain ⟨o0, o1, o2⟩ := (HO.out.grown Hgr.out (fun e => HB.out.2.1 (Option.some.inj e))).cells
   obtain ⟨r0, r1, r2⟩ := hr.cells
   have f0 := hr.frozen 0
   have f1 := hr.frozen 1
   have f2 := hr.frozen 2
   have HJ := Lib.hid (hr.set3 P Q (.slice (some ⟨gq, 0, none⟩) n n))
   have HK := Lib.hid (HS.out.bw.grown Hgr.out HS.out.bw.size (fun k hk => by injection hk with hk; have := HB.out.2.2.2; omega))
   clear hr
   go_wp2_with fail
   obtain ⟨s0, s1, s2⟩ := HJ.out.cells
   exact bodyPost_ret (v := .agg #[.int .i64 P, .int .i64 Q, .slice (some ⟨gq, 0, none⟩) n n]) (by simp [results, Tryz.results200, go_sem, s0, s1, s2]) rfl (by
    rw [HA.out, ← HP.out, ← HQ.out]
    have h := Hown.out
    rw [Nat.add_zero, HM.out, orF_end ⟨wl, wh, hl, hh⟩ Ho.out, ← HM.out] at h
    exact ans_set h (by rw [orL_length, HM.out]) (by omega) HB.out.2.2.2 HK.out)
end Go.Proofs.YtokniebejilcbaaGreat
