/- The contract of the model's CopyRegion. No statement is proved here. -/
import Derived.Test.YtdgagooldlnpeaaGreatMA
import Derived.Test.YtdgagooldlnpeaaGreatMB
import Derived.Test.YtdgagooldlnpeaaGreatMAv023
import Derived.Test.YtdgagooldlnpeaaGreatMBv012
import Derived.Test.YtdgagooldlnpeaaGreatMBv2
import Derived.Test.YtdgagooldlnpeaaGreatMAv012
import Derived.Test.YtdgagooldlnpeaaGreatProg
import Derived.WalkKit
import Derived.ProofKit
import Derived.OpenShut
import Derived.WalkLawsBesides
import Derived.WalkSpells
import Derived.ShutString
import Derived.ChangeOld
import Derived.Below
import Derived.Lib.Hide
import Derived.BigQuiet
import Derived.Deep.QuietTactic
import Derived.Maps.AppendAt
import Derived.Deep.OwnRows
import Derived.Handy
import Derived.Deep.Draws
import Derived.OwnWalk
import Derived.Deep.AppendLies
import Derived.Deep.LoopGhost
import Derived.Deep.Onto
import Derived.Laws.BitsAllLaws
import Derived.Lib.QuoteBits
import Derived.Test.YtdgagooldlnpeaaGreatShelf
import Derived.Laws.CopyOwn
import Derived.Deep.RegionLaw
import Derived.Deep.RegionHeld3
import Derived.Deep.DeepCutAuto
import Derived.Great.BuildSlice
import Derived.Deep.MidRow
import Derived.Deep.WholeRow
import Derived.Laws.AppendOwn
namespace Go.Proofs.YtdgagooldlnpeaaGreat
open Go.RowKit
set_option maxHeartbeats 600000 in
set_option maxRecDepth 10000 in
theorem copyS_bad1 (X Y : Int) (v : Value) (L : List Int) (X2 Y2 : Int) (u : Value) (F : List Int) (vr : Value) (R : List Rc) (w : World) (hm : L.length ≤ 2097152) (hv : RdI w v L) (hu : RdI w u F) (hr : RdR w vr R) (h1 : ¬ imOk X Y L) :
  Calls Tryz.prog 101 #[.agg #[.int .i64 X, .int .i64 Y, v], .agg #[.int .i64 X2, .int .i64 Y2, u], .agg #[vr]] w (AnsIm (copyIm X Y L X2 Y2 F R) w) := by
 have HA : Hid (copyIm X Y L X2 Y2 F R = ⟨X, Y, L⟩) := Lib.hid (copy_no fun h => h1 h.1)
 have Ho := Lib.hid h1
 clear h1
 have Hm := Lib.hid hm
 obtain ⟨A, c, rfl⟩ := hv.form
 obtain ⟨A2, c2, rfl⟩ := hu.form
 obtain ⟨A3, c3, rfl⟩ := hr.form
 have hS := CsB.born w X Y (.slice A L.length c) X2 Y2 (.slice A2 F.length c2) F (.slice A3 R.length c3) R hu hr
 have hv0 := ((((hv.alloc (.cells #[.int .i64 X, .int .i64 Y, .slice A L.length c] 55)).alloc (.cells #[.int .i64 X2, .int .i64 Y2, .slice A2 F.length c2] 55)).alloc (.cells #[.slice A3 R.length c3] 30)).alloc (.cells #[.int .i64 0, .int .i64 0, .slice none 0 0] 55))
 clear hm hv hu hr
 obtain ⟨a0, a1, a2⟩ := hS.a.cells
 go_enter Tryz.func101, Tryz.ntmps101
 go_wp2_with fail
 refine (l05Copy_any X Y _ L _ Hm.out hv0).mono ?_
 rintro e w1 ⟨vo, rfl, hown, hb⟩
 obtain ⟨Ao, co, hvo⟩ := ownI_shape hown
 subst hvo
 have hv1 := hv0.call hb
 have hS1 := hS.call hb
 have hO := ImV.born (X := X) (Y := Y) hb hown
 have hl : w.heap.size + 4 ≤ ((((w.alloc (.cells #[.int .i64 X, .int .i64 Y, .slice A L.length c] 55)).alloc (.cells #[.int .i64 X2, .int .i64 Y2, .slice A2 F.length c2] 55)).alloc (.cells #[.slice A3 R.length c3] 30)).alloc (.cells #[.int .i64 0, .int .i64 0, .slice none 0 0] 55)).heap.size := by simp
 obtain ⟨lo, hlo⟩ : ∃ lo, lo = ((((w.alloc (.cells #[.int .i64 X, .int .i64 Y, .slice A L.length c] 55)).alloc (.cells #[.int .i64 X2, .int .i64 Y2, .slice A2 F.length c2] 55)).alloc (.cells #[.slice A3 R.length c3] 30)).alloc (.cells #[.int .i64 0, .int .i64 0, .slice none 0 0] 55)).heap.size := ⟨_, rfl⟩
 rw [← hlo] at hO hl
 replace hS := hS1.call (belI_box w1 (.cells #[.int .i64 X, .int .i64 Y, .slice Ao L.length co] 55))
 have hv := hv1.call (belI_box w1 (.cells #[.int .i64 X, .int .i64 Y, .slice Ao L.length co] 55))
 clear hown hb hS1 hv1 hv0 a0 a1 a2 hlo
 obtain ⟨a0, a1, a2⟩ := hS.a.cells
 go_wp2_with fail
 refine (imS X Y _ L _ hv).mono ?_
 rintro e w2 ⟨rfl, hb⟩
 replace hS := hS.call hb
 replace hO := hO.call hb
 clear hb hv a0 a1 a2
 rw [imB_no Ho.out]
 obtain ⟨d0, d1, d2⟩ := hS.d.cells
 obtain ⟨o0, o1, o2⟩ := hO.cells
 have f0 := hS.d.frozen 0
 have f1 := hS.d.frozen 1
 have f2 := hS.d.frozen 2
 go_wp2_with fail
 have j := hS.d.set3 X Y (.slice Ao L.length co)
 obtain ⟨x0, x1, x2⟩ := j.cells
 refine bodyPost_ret (v := .agg #[.int .i64 X, .int .i64 Y, .slice Ao L.length co]) (by simp [results, Tryz.results101, go_sem, x0, x1, x2]) rfl ?_
 unfold AnsIm
 rw [HA.out]
 exact ans_set hO.own rfl (by omega) (by omega) hS.bw
set_option maxHeartbeats 600000 in
set_option maxRecDepth 10000 in
theorem copyS_bad2 (X Y : Int) (v : Value) (L : List Int) (X2 Y2 : Int) (u : Value) (F : List Int) (vr : Value) (R : List Rc) (w : World) (hm : L.length ≤ 2097152) (hv : RdI w v L) (hu : RdI w u F) (hr : RdR w vr R) (h1 : imOk X Y L) (h2 : ¬ imOk X2 Y2 F) :
  Calls Tryz.prog 101 #[.agg #[.int .i64 X, .int .i64 Y, v], .agg #[.int .i64 X2, .int .i64 Y2, u], .agg #[vr]] w (AnsIm (copyIm X Y L X2 Y2 F R) w) := by
 have HA : Hid (copyIm X Y L X2 Y2 F R = ⟨X, Y, L⟩) := Lib.hid (copy_no fun h => h2 h.2.1)
 have Ho := Lib.hid h1
 have Ho2 := Lib.hid h2
 clear h1 h2
 have Hm := Lib.hid hm
 obtain ⟨A, c, rfl⟩ := hv.form
 obtain ⟨A2, c2, rfl⟩ := hu.form
 obtain ⟨A3, c3, rfl⟩ := hr.form
 have hS := CsB.born w X Y (.slice A L.length c) X2 Y2 (.slice A2 F.length c2) F (.slice A3 R.length c3) R hu hr
 have hv0 := ((((hv.alloc (.cells #[.int .i64 X, .int .i64 Y, .slice A L.length c] 55)).alloc (.cells #[.int .i64 X2, .int .i64 Y2, .slice A2 F.length c2] 55)).alloc (.cells #[.slice A3 R.length c3] 30)).alloc (.cells #[.int .i64 0, .int .i64 0, .slice none 0 0] 55))
 clear hm hv hu hr
 obtain ⟨a0, a1, a2⟩ := hS.a.cells
 go_enter Tryz.func101, Tryz.ntmps101
 go_wp2_with fail
 refine (l05Copy_any X Y _ L _ Hm.out hv0).mono ?_
 rintro e w1 ⟨vo, rfl, hown, hb⟩
 obtain ⟨Ao, co, hvo⟩ := ownI_shape hown
 subst hvo
 have hv1 := hv0.call hb
 have hS1 := hS.call hb
 have hO := ImV.born (X := X) (Y := Y) hb hown
 have hl : w.heap.size + 4 ≤ ((((w.alloc (.cells #[.int .i64 X, .int .i64 Y, .slice A L.length c] 55)).alloc (.cells #[.int .i64 X2, .int .i64 Y2, .slice A2 F.length c2] 55)).alloc (.cells #[.slice A3 R.length c3] 30)).alloc (.cells #[.int .i64 0, .int .i64 0, .slice none 0 0] 55)).heap.size := by simp
 obtain ⟨lo, hlo⟩ : ∃ lo, lo = ((((w.alloc (.cells #[.int .i64 X, .int .i64 Y, .slice A L.length c] 55)).alloc (.cells #[.int .i64 X2, .int .i64 Y2, .slice A2 F.length c2] 55)).alloc (.cells #[.slice A3 R.length c3] 30)).alloc (.cells #[.int .i64 0, .int .i64 0, .slice none 0 0] 55)).heap.size := ⟨_, rfl⟩
 rw [← hlo] at hO hl
 replace hS := hS1.call (belI_box w1 (.cells #[.int .i64 X, .int .i64 Y, .slice Ao L.length co] 55))
 have hv := hv1.call (belI_box w1 (.cells #[.int .i64 X, .int .i64 Y, .slice Ao L.length co] 55))
 clear hown hb hS1 hv1 hv0 a0 a1 a2 hlo
 obtain ⟨a0, a1, a2⟩ := hS.a.cells
 go_wp2_with fail
 refine (imS X Y _ L _ hv).mono ?_
 rintro e w2 ⟨rfl, hb⟩
 replace hS := hS.call hb
 replace hO := hO.call hb
 clear hb hv a0 a1 a2
 rw [imB_yes Ho.out]
 obtain ⟨b0, b1, b2⟩ := hS.b.cells
 go_wp2_with fail
 refine (imS X2 Y2 _ F _ hS.ru).mono ?_
 rintro e w3 ⟨rfl, hb⟩
 replace hS := hS.call hb
 replace hO := hO.call hb
 clear hb b0 b1 b2
 rw [imB_no Ho2.out]
 obtain ⟨d0, d1, d2⟩ := hS.d.cells
 obtain ⟨o0, o1, o2⟩ := hO.cells
 have f0 := hS.d.frozen 0
 have f1 := hS.d.frozen 1
 have f2 := hS.d.frozen 2
 go_wp2_with fail
 have j := hS.d.set3 X Y (.slice Ao L.length co)
 obtain ⟨x0, x1, x2⟩ := j.cells
 refine bodyPost_ret (v := .agg #[.int .i64 X, .int .i64 Y, .slice Ao L.length co]) (by simp [results, Tryz.results101, go_sem, x0, x1, x2]) rfl ?_
 unfold AnsIm
 rw [HA.out]
 exact ans_set hO.own rfl (by omega) (by omega) hS.bw
set_option maxHeartbeats 600000 in
set_option maxRecDepth 10000 in
theorem copyS_bad3 (X Y : Int) (v : Value) (L : List Int) (X2 Y2 : Int) (u : Value) (F : List Int) (vr : Value) (R : List Rc) (w : World) (hm : L.length ≤ 2097152) (hv : RdI w v L) (hu : RdI w u F) (hr : RdR w vr R) (h1 : imOk X Y L) (h2 : imOk X2 Y2 F) (h3 : okL R = false) :
  Calls Tryz.prog 101 #[.agg #[.int .i64 X, .int .i64 Y, v], .agg #[.int .i64 X2, .int .i64 Y2, u], .agg #[vr]] w (AnsIm (copyIm X Y L X2 Y2 F R) w) := by
 have HA : Hid (copyIm X Y L X2 Y2 F R = ⟨X, Y, L⟩) := Lib.hid (copy_no fun h => by rw [h3] at h; cases h.2.2)
 have Ho := Lib.hid h1
 have Ho2 := Lib.hid h2
 have Ho3 := Lib.hid h3
 clear h1 h2 h3
 have Hm := Lib.hid hm
 obtain ⟨A, c, rfl⟩ := hv.form
 obtain ⟨A2, c2, rfl⟩ := hu.form
 obtain ⟨A3, c3, rfl⟩ := hr.form
 have hS := CsB.born w X Y (.slice A L.length c) X2 Y2 (.slice A2 F.length c2) F (.slice A3 R.length c3) R hu hr
 have hv0 := ((((hv.alloc (.cells #[.int .i64 X, .int .i64 Y, .slice A L.length c] 55)).alloc (.cells #[.int .i64 X2, .int .i64 Y2, .slice A2 F.length c2] 55)).alloc (.cells #[.slice A3 R.length c3] 30)).alloc (.cells #[.int .i64 0, .int .i64 0, .slice none 0 0] 55))
 clear hm hv hu hr
 obtain ⟨a0, a1, a2⟩ := hS.a.cells
 go_enter Tryz.func101, Tryz.ntmps101
 go_wp2_with fail
 refine (l05Copy_any X Y _ L _ Hm.out hv0).mono ?_
 rintro e w1 ⟨vo, rfl, hown, hb⟩
 obtain ⟨Ao, co, hvo⟩ := ownI_shape hown
 subst hvo
 have hv1 := hv0.call hb
 have hS1 := hS.call hb
 have hO := ImV.born (X := X) (Y := Y) hb hown
 have hl : w.heap.size + 4 ≤ ((((w.alloc (.cells #[.int .i64 X, .int .i64 Y, .slice A L.length c] 55)).alloc (.cells #[.int .i64 X2, .int .i64 Y2, .slice A2 F.length c2] 55)).alloc (.cells #[.slice A3 R.length c3] 30)).alloc (.cells #[.int .i64 0, .int .i64 0, .slice none 0 0] 55)).heap.size := by simp
 obtain ⟨lo, hlo⟩ : ∃ lo, lo = ((((w.alloc (.cells #[.int .i64 X, .int .i64 Y, .slice A L.length c] 55)).alloc (.cells #[.int .i64 X2, .int .i64 Y2, .slice A2 F.length c2] 55)).alloc (.cells #[.slice A3 R.length c3] 30)).alloc (.cells #[.int .i64 0, .int .i64 0, .slice none 0 0] 55)).heap.size := ⟨_, rfl⟩
 rw [← hlo] at hO hl
 replace hS := hS1.call (belI_box w1 (.cells #[.int .i64 X, .int .i64 Y, .slice Ao L.length co] 55))
 have hv := hv1.call (belI_box w1 (.cells #[.int .i64 X, .int .i64 Y, .slice Ao L.length co] 55))
 clear hown hb hS1 hv1 hv0 a0 a1 a2 hlo
 obtain ⟨a0, a1, a2⟩ := hS.a.cells
 go_wp2_with fail
 refine (imS X Y _ L _ hv).mono ?_
 rintro e w2 ⟨rfl, hb⟩
 replace hS := hS.call hb
 replace hO := hO.call hb
 clear hb hv a0 a1 a2
 rw [imB_yes Ho.out]
 obtain ⟨b0, b1, b2⟩ := hS.b.cells
 go_wp2_with fail
 refine (imS X2 Y2 _ F _ hS.ru).mono ?_
 rintro e w3 ⟨rfl, hb⟩
 replace hS := hS.call hb
 replace hO := hO.call hb
 clear hb b0 b1 b2
 rw [imB_yes Ho2.out]
 have c0 := hS.c.cell
 go_wp2_with fail
 refine (rokS _ R _ hS.rr).mono ?_
 rintro e w4 ⟨rfl, hb⟩
 replace hS := hS.call hb
 replace hO := hO.call hb
 clear hb c0
 rw [Ho3.out]
 obtain ⟨d0, d1, d2⟩ := hS.d.cells
 obtain ⟨o0, o1, o2⟩ := hO.cells
 have f0 := hS.d.frozen 0
 have f1 := hS.d.frozen 1
 have f2 := hS.d.frozen 2
 go_wp2_with fail
 have j := hS.d.set3 X Y (.slice Ao L.length co)
 obtain ⟨x0, x1, x2⟩ := j.cells
 refine bodyPost_ret (v := .agg #[.int .i64 X, .int .i64 Y, .slice Ao L.length co]) (by simp [results, Tryz.results101, go_sem, x0, x1, x2]) rfl ?_
 unfold AnsIm
 rw [HA.out]
 exact ans_set hO.own rfl (by omega) (by omega) hS.bw
set_option maxHeartbeats 1000000 in
set_option maxRecDepth 10000 in
theorem copyS_ok (X Y : Int) (v : Value) (L : List Int) (X2 Y2 : Int) (u : Value) (F : List Int) (vr : Value) (R : List Rc) (w : World) (hm : L.length ≤ 2097152) (hv : RdI w v L) (hu : RdI w u F) (hr : RdR w vr R) (h1 : imOk X Y L) (h2 : imOk X2 Y2 F) (h3 : okL R = true) :
  Calls Tryz.prog 101 #[.agg #[.int .i64 X, .int .i64 Y, v], .agg #[.int .i64 X2, .int .i64 Y2, u], .agg #[vr]] w (AnsIm (copyIm X Y L X2 Y2 F R) w) := by
 obtain ⟨W, H, rfl, rfl, wl, wh, hl1, hl2, hL⟩ := im_nat h1
 obtain ⟨W2, H2, rfl, rfl, wl2, wh2, hl3, hl4, hF⟩ := im_nat h2
 have HA : Hid (copyIm W H L W2 H2 F R = ⟨W, H, tabI L.length (copyF W W2 H2 L F (gridOf R))⟩) := Lib.hid (copy_yes h1 h2 h3)
 have hL0 : 0 < L.length := by rw [hL]; exact Nat.mul_pos wl hl1
 have hL256 : L.length ≤ 256 := by rw [hL]; exact mul_256 wh hl2
 have hF256 : F.length ≤ 256 := by rw [hF]; exact mul_256 wh2 hl4
 obtain ⟨gu, cu, rfl, hgu, hcu⟩ := rd_block hu (by rw [hF]; exact Nat.mul_pos wl2 hl3)
 have HL := Lib.hid hL
 have HF := Lib.hid hF
 have Ho := Lib.hid h1
 have Ho2 := Lib.hid h2
 have Ho3 := Lib.hid h3
 clear h1 h2 h3 hL hF
 have Hm := Lib.hid hm
 obtain ⟨A, c, rfl⟩ := hv.form
 obtain ⟨A3, c3, rfl⟩ := hr.form
 have hS := CsB.born w W H (.slice A L.length c) W2 H2 (.slice (some ⟨gu, 0, none⟩) F.length cu) F (.slice A3 R.length c3) R hu hr
 have hv0 := ((((hv.alloc (.cells #[.int .i64 W, .int .i64 H, .slice A L.length c] 55)).alloc (.cells #[.int .i64 W2, .int .i64 H2, .slice (some ⟨gu, 0, none⟩) F.length cu] 55)).alloc (.cells #[.slice A3 R.length c3] 30)).alloc (.cells #[.int .i64 0, .int .i64 0, .slice none 0 0] 55))
 clear hm hv hu hr
 obtain ⟨a0, a1, a2⟩ := hS.a.cells
 go_enter Tryz.func101, Tryz.ntmps101
 go_wp2_with fail
 refine (l05Copy_any W H _ L _ Hm.out hv0).mono ?_
 rintro e w1 ⟨vo, rfl, hown, hb⟩
 obtain ⟨gq, cq, hvq, hgq, _⟩ := hown.form hL0
 subst hvq
 have hv1 := hv0.call hb
 have hS1 := hS.call hb
 have hO := ImV.born (X := W) (Y := H) hb hown
 have hl : w.heap.size + 4 ≤ ((((w.alloc (.cells #[.int .i64 W, .int .i64 H, .slice A L.length c] 55)).alloc (.cells #[.int .i64 W2, .int .i64 H2, .slice (some ⟨gu, 0, none⟩) F.length cu] 55)).alloc (.cells #[.slice A3 R.length c3] 30)).alloc (.cells #[.int .i64 0, .int .i64 0, .slice none 0 0] 55)).heap.size := by simp
 obtain ⟨lo, hlo⟩ : ∃ lo, lo = ((((w.alloc (.cells #[.int .i64 W, .int .i64 H, .slice A L.length c] 55)).alloc (.cells #[.int .i64 W2, .int .i64 H2, .slice (some ⟨gu, 0, none⟩) F.length cu] 55)).alloc (.cells #[.slice A3 R.length c3] 30)).alloc (.cells #[.int .i64 0, .int .i64 0, .slice none 0 0] 55)).heap.size := ⟨_, rfl⟩
 rw [← hlo] at hO hl hgq
 replace hS := hS1.call (belI_box w1 (.cells #[.int .i64 W, .int .i64 H, .slice (some ⟨gq, 0, none⟩) L.length cq] 55))
 have hv := hv1.call (belI_box w1 (.cells #[.int .i64 W, .int .i64 H, .slice (some ⟨gq, 0, none⟩) L.length cq] 55))
 clear hown hb hS1 hv1 hv0 a0 a1 a2 hlo
 obtain ⟨a0, a1, a2⟩ := hS.a.cells
 go_wp2_with fail
 refine (imS W H _ L _ hv).mono ?_
 rintro e w2 ⟨rfl, hb⟩
 replace hS := hS.call hb
 replace hO := hO.call hb
 clear hb hv a0 a1 a2
 rw [imB_yes Ho.out]
 obtain ⟨b0, b1, b2⟩ := hS.b.cells
 go_wp2_with fail
 refine (imS W2 H2 _ F _ hS.ru).mono ?_
 rintro e w3 ⟨rfl, hb⟩
 replace hS := hS.call hb
 replace hO := hO.call hb
 clear hb b0 b1 b2
 rw [imB_yes Ho2.out]
 have c0 := hS.c.cell
 go_wp2_with fail
 refine (rokS _ R _ hS.rr).mono ?_
 rintro e w4 ⟨rfl, hb⟩
 replace hS := hS.call hb
 replace hO := hO.call hb
 clear hb c0
 rw [Ho3.out]
 have c0 := hS.c.cell
 go_wp2_with fail
 refine (gridS _ R _ hS.rr).mono ?_
 rintro e W0 ⟨bg, rfl, hbg, hG, hb⟩
 have hbo : w1.heap.size < bg := by have := hO.at_.lt; omega
 replace hS := hS.call hb
 replace hO := hO.call hb
 clear hb c0 hbg
 have hgb := (hO.hk gq rfl).1
 have n0 : some w.heap.size ≠ some gq := by simp; omega
 have n1 : some (w.heap.size + 1) ≠ some gq := by simp; omega
 have n3 : some (w.heap.size + 3) ≠ some gq := by simp; omega
 have nb : some w1.heap.size ≠ some gq := fun e => (hO.hk gq rfl).2 (by injection e with e; exact e.symm)
 have ng : some bg ≠ some gq := by simp; omega
 have nu : some gu ≠ some gq := by simp; omega
 have HN : Hid (some w.heap.size ≠ some gq ∧ some (w.heap.size + 1) ≠ some gq ∧ some w1.heap.size ≠ some gq ∧ some bg ≠ some gq ∧ some gu ≠ some gq ∧ some (w.heap.size + 3) ≠ some gq) := Lib.hid ⟨n0, n1, nb, ng, nu, n3⟩
 have Hown : Hid (W0.ownsRow lo 3 1 (.slice (some ⟨gq, 0, none⟩) L.length cq) L.length (intCells (tabI L.length (copyS W W2 L F (gridOf R) 0 0)))) := Lib.hid (by
  have h := hO.own
  rw [tabI_congr L.length (fun k _ => copyS_start W W2 L F (gridOf R) k), ← tabI_self]
  exact h)
 have Hgr : Hid (W0.grownBy W0 (some gq)) := Lib.hid (World.grownBy.refl _ _)
 have HS := Lib.hid hS
 have HO := Lib.hid hO.at_
 have HG := Lib.hid hG
 obtain ⟨M, hM⟩ : ∃ M, M = min H H2 := ⟨_, rfl⟩
 obtain ⟨M2, hM2⟩ : ∃ M2, M2 = min W W2 := ⟨_, rfl⟩
 have hM3 : M ≤ H ∧ M ≤ H2 := by omega
 have hM4 : M2 ≤ W ∧ M2 ≤ W2 := by omega
 obtain ⟨q1, q2⟩ := hM3
 obtain ⟨q3, q4⟩ := hM4
 have HM := Lib.hid hM
 have HM2 := Lib.hid hM2
 clear n0 n1 n3 nb ng nu hS hO hG hM hM2
 go_wp2_with fail
 go_loopg [9] M (fun g9 s9 wr => ∃ y : Nat, y ≤ M ∧ g9 = M - y ∧ s9 = .int .i64 y ∧ Hid (wr.ownsRow lo 3 1 (.slice (some ⟨gq, 0, none⟩) L.length cq) L.length (intCells (tabI L.length (copyS W W2 L F (gridOf R) y 0)))) ∧ Hid (W0.grownBy wr (some gq)))
 case atStart => exact ⟨0, Nat.zero_le _, rfl, rfl, Hown, Hgr⟩
 case round =>
  clear Hown Hgr
  obtain ⟨y, hy, rfl, rfl, Hown, Hgr⟩ := hrel
  obtain ⟨a0, a1, a2⟩ := (HS.out.a.grown Hgr.out HN.out.1).cells
  obtain ⟨b0, b1, b2⟩ := (HS.out.b.grown Hgr.out HN.out.2.1).cells
  by_cases hyl : y < M
  ·have hyi : (y : Int) < min (H : Int) (H2 : Int) := by have := HM.out; omega
   go_wp2_with fail
   go_loopg [10] M2 (fun g10 s10 wx => ∃ (x : Nat) (V : World), V = wx ∧ x ≤ M2 ∧ g10 = M2 - x ∧ s10 = .int .i64 x ∧ Hid (wx.ownsRow lo 3 1 (.slice (some ⟨gq, 0, none⟩) L.length cq) L.length (intCells (tabI L.length (copyS W W2 L F (gridOf R) y x)))) ∧ Hid (W0.grownBy wx (some gq)))
   case atStart => exact ⟨0, _, rfl, Nat.zero_le _, rfl, rfl, Hown, Hgr⟩
   case round =>
    clear Hown Hgr a0 a1 a2 b0 b1 b2
    obtain ⟨x, wx, hV, hx, rfl, rfl, Hown, Hgr⟩ := hrel
    subst hV
    obtain ⟨a0, a1, a2⟩ := (HS.out.a.grown Hgr.out HN.out.1).cells
    obtain ⟨b0, b1, b2⟩ := (HS.out.b.grown Hgr.out HN.out.2.1).cells
    by_cases hxl : x < M2
    ·have hxi : (x : Int) < min (W : Int) (W2 : Int) := by have := HM2.out; omega
     have i0 : (0 : Int) ≤ (y : Int) * 16 + (x : Int) := by omega
     have i1 : (y : Int) * 16 + (x : Int) < 256 := by omega
     have cg := (HG.out.grownI Hgr.out HN.out.2.2.2.1).cell (y * 16 + x) (by omega)
     obtain ⟨p, hp⟩ : ∃ p, p = gridOf R (y * 16 + x) := ⟨_, rfl⟩
     rw [← hp] at cg
     have Hp := Lib.hid hp
     clear hp
     cases p
     ·go_wp2_with fail
      go_roundg (M2 - (x + 1))
      case measure => omega
      case rel =>
       refine ⟨x + 1, _, rfl, by omega, rfl, by go_num, ?_, Hgr⟩
       rw [← tabI_congr L.length (fun k _ => copyS_skip W W2 L F (gridOf R) y x k Hp.out.symm)]
       exact Hown
     ·obtain ⟨m, hm⟩ : ∃ m, m = y * W := ⟨_, rfl⟩
      obtain ⟨m2, hm2⟩ : ∃ m2, m2 = y * W2 := ⟨_, rfl⟩
      have e1 : (y : Int) * (W : Int) = (m : Int) := by rw [hm]; simp
      have e2 : (y : Int) * (W2 : Int) = (m2 : Int) := by rw [hm2]; simp
      have l1 : m + x < L.length := by rw [hm, HL.out]; exact plc_lt (by omega) (by omega)
      have l2 : m2 + x < F.length := by rw [hm2, HF.out]; exact plc_lt (by omega) (by omega)
      have l3 : (m : Int) + (x : Int) < (L.length : Int) := by omega
      have l4 : (m2 : Int) + (x : Int) < (F.length : Int) := by omega
      obtain ⟨g', z, eg, hz, cz⟩ := HS.out.ru.at_ (k := m2 + x) l2
      injection eg with eg
      injection eg with eg
      subst eg
      have cz2 := cell_grown cz Hgr.out HN.out.2.2.2.2.1
      have cS : wx.drew.cell? ⟨gq, m + x, none⟩ = some (.int .i64 (copyS W W2 L F (gridOf R) y x (m + x))) := by
       have h := Hown.out.cellAt (m + x) (by omega)
       rw [intCells_get, tabI_get _ _ _ l1] at h
       exact h
      have fS : wx.drew.frozen? ⟨gq, m + x, none⟩ = false := Hown.out.frozenAt (m + x)
      have r1 := wrap_in (m : Int) (by omega) (by omega)
      have r2 := wrap_in ((m : Int) + (x : Int)) (by omega) (by omega)
      have r3 := wrap_in (m2 : Int) (by omega) (by omega)
      have r4 := wrap_in ((m2 : Int) + (x : Int)) (by omega) (by omega)
      have r5 : (0 : Int) ≤ (m : Int) + (x : Int) := by omega
      have r6 : ((m : Int) + (x : Int)).toNat = m + x := by omega
      have r7 : (0 : Int) ≤ (m2 : Int) + (x : Int) := by omega
      have r8 : ((m2 : Int) + (x : Int)).toNat = m2 + x := by omega
      have HZ := Lib.hid hz
      have Hm1 := Lib.hid hm
      have Hm2' := Lib.hid hm2
      have hA := HS.out.a.grown Hgr.out HN.out.1
      have hB := HS.out.b.grown Hgr.out HN.out.2.1
      have hO2 := HO.out.grown Hgr.out HN.out.2.2.1
      have KA := Lib.hid hA
      have KB := Lib.hid hB
      have KO := Lib.hid hO2
      have KZ := Lib.hid cz2
      clear hz hm hm2 cz cz2 hA hB hO2
      go_wp2_with fail
      refine wp_region_held_drew (S := fun V => wx.grownBy V (some gq)) (by kernel_rfl) (grown_drewI wx _) (fun hS => ?_)
      refine tcH (i := 0) (v := .pointer (some ⟨w1.heap.size, 2, none⟩)) rfl (by intro w' hSw; (try dsimp only at hSw); (obtain ⟨a0, a1, a2⟩ := (KA.out.grown hSw HN.out.1).cells); (obtain ⟨b0, b1, b2⟩ := (KB.out.grown hSw HN.out.2.1).cells); (obtain ⟨o0, o1, o2⟩ := (KO.out.grown hSw HN.out.2.2.1).cells); (have cz := cell_grown KZ.out hSw HN.out.2.2.2.2.1); go_simp) ?_
      refine tcH (i := 1) (v := .slice (some ⟨gq, 0, none⟩) L.length cq) rfl (by intro w' hSw; (try dsimp only at hSw); (obtain ⟨a0, a1, a2⟩ := (KA.out.grown hSw HN.out.1).cells); (obtain ⟨b0, b1, b2⟩ := (KB.out.grown hSw HN.out.2.1).cells); (obtain ⟨o0, o1, o2⟩ := (KO.out.grown hSw HN.out.2.2.1).cells); (have cz := cell_grown KZ.out hSw HN.out.2.2.2.2.1); go_simp) ?_
      refine tcH (i := 2) (v := .int .i64 y) rfl (by intro w' hSw; (try dsimp only at hSw); (obtain ⟨a0, a1, a2⟩ := (KA.out.grown hSw HN.out.1).cells); (obtain ⟨b0, b1, b2⟩ := (KB.out.grown hSw HN.out.2.1).cells); (obtain ⟨o0, o1, o2⟩ := (KO.out.grown hSw HN.out.2.2.1).cells); (have cz := cell_grown KZ.out hSw HN.out.2.2.2.2.1); go_simp) ?_
      refine tcH (i := 3) (v := .pointer (some ⟨w.heap.size, 0, none⟩)) rfl (by intro w' hSw; (try dsimp only at hSw); (obtain ⟨a0, a1, a2⟩ := (KA.out.grown hSw HN.out.1).cells); (obtain ⟨b0, b1, b2⟩ := (KB.out.grown hSw HN.out.2.1).cells); (obtain ⟨o0, o1, o2⟩ := (KO.out.grown hSw HN.out.2.2.1).cells); (have cz := cell_grown KZ.out hSw HN.out.2.2.2.2.1); go_simp) ?_
      refine tcH (i := 4) (v := .int .i64 W) rfl (by intro w' hSw; (try dsimp only at hSw); (obtain ⟨a0, a1, a2⟩ := (KA.out.grown hSw HN.out.1).cells); (obtain ⟨b0, b1, b2⟩ := (KB.out.grown hSw HN.out.2.1).cells); (obtain ⟨o0, o1, o2⟩ := (KO.out.grown hSw HN.out.2.2.1).cells); (have cz := cell_grown KZ.out hSw HN.out.2.2.2.2.1); go_simp) ?_
      refine tcH (i := 5) (v := .int .i64 m) rfl (by intro w' hSw; (try dsimp only at hSw); (obtain ⟨a0, a1, a2⟩ := (KA.out.grown hSw HN.out.1).cells); (obtain ⟨b0, b1, b2⟩ := (KB.out.grown hSw HN.out.2.1).cells); (obtain ⟨o0, o1, o2⟩ := (KO.out.grown hSw HN.out.2.2.1).cells); (have cz := cell_grown KZ.out hSw HN.out.2.2.2.2.1); go_simp) ?_
      refine tcH (i := 6) (v := .int .i64 x) rfl (by intro w' hSw; (try dsimp only at hSw); (obtain ⟨a0, a1, a2⟩ := (KA.out.grown hSw HN.out.1).cells); (obtain ⟨b0, b1, b2⟩ := (KB.out.grown hSw HN.out.2.1).cells); (obtain ⟨o0, o1, o2⟩ := (KO.out.grown hSw HN.out.2.2.1).cells); (have cz := cell_grown KZ.out hSw HN.out.2.2.2.2.1); go_simp) ?_
      refine tcH (i := 7) (v := .int .i64 ((m : Int) + (x : Int))) rfl (by intro w' hSw; (try dsimp only at hSw); (obtain ⟨a0, a1, a2⟩ := (KA.out.grown hSw HN.out.1).cells); (obtain ⟨b0, b1, b2⟩ := (KB.out.grown hSw HN.out.2.1).cells); (obtain ⟨o0, o1, o2⟩ := (KO.out.grown hSw HN.out.2.2.1).cells); (have cz := cell_grown KZ.out hSw HN.out.2.2.2.2.1); go_simp) ?_
      refine tcH (i := 8) (v := .pointer (some ⟨w.heap.size + 1, 2, none⟩)) rfl (by intro w' hSw; (try dsimp only at hSw); (obtain ⟨a0, a1, a2⟩ := (KA.out.grown hSw HN.out.1).cells); (obtain ⟨b0, b1, b2⟩ := (KB.out.grown hSw HN.out.2.1).cells); (obtain ⟨o0, o1, o2⟩ := (KO.out.grown hSw HN.out.2.2.1).cells); (have cz := cell_grown KZ.out hSw HN.out.2.2.2.2.1); go_simp) ?_
      refine tcH (i := 9) (v := .slice (some ⟨gu, 0, none⟩) F.length cu) rfl (by intro w' hSw; (try dsimp only at hSw); (obtain ⟨a0, a1, a2⟩ := (KA.out.grown hSw HN.out.1).cells); (obtain ⟨b0, b1, b2⟩ := (KB.out.grown hSw HN.out.2.1).cells); (obtain ⟨o0, o1, o2⟩ := (KO.out.grown hSw HN.out.2.2.1).cells); (have cz := cell_grown KZ.out hSw HN.out.2.2.2.2.1); go_simp) ?_
      refine tcH (i := 10) (v := .int .i64 y) rfl (by intro w' hSw; (try dsimp only at hSw); (obtain ⟨a0, a1, a2⟩ := (KA.out.grown hSw HN.out.1).cells); (obtain ⟨b0, b1, b2⟩ := (KB.out.grown hSw HN.out.2.1).cells); (obtain ⟨o0, o1, o2⟩ := (KO.out.grown hSw HN.out.2.2.1).cells); (have cz := cell_grown KZ.out hSw HN.out.2.2.2.2.1); go_simp) ?_
      refine tcH (i := 11) (v := .pointer (some ⟨w.heap.size + 1, 0, none⟩)) rfl (by intro w' hSw; (try dsimp only at hSw); (obtain ⟨a0, a1, a2⟩ := (KA.out.grown hSw HN.out.1).cells); (obtain ⟨b0, b1, b2⟩ := (KB.out.grown hSw HN.out.2.1).cells); (obtain ⟨o0, o1, o2⟩ := (KO.out.grown hSw HN.out.2.2.1).cells); (have cz := cell_grown KZ.out hSw HN.out.2.2.2.2.1); go_simp) ?_
      refine tcH (i := 12) (v := .int .i64 W2) rfl (by intro w' hSw; (try dsimp only at hSw); (obtain ⟨a0, a1, a2⟩ := (KA.out.grown hSw HN.out.1).cells); (obtain ⟨b0, b1, b2⟩ := (KB.out.grown hSw HN.out.2.1).cells); (obtain ⟨o0, o1, o2⟩ := (KO.out.grown hSw HN.out.2.2.1).cells); (have cz := cell_grown KZ.out hSw HN.out.2.2.2.2.1); go_simp) ?_
      refine tcH (i := 13) (v := .int .i64 m2) rfl (by intro w' hSw; (try dsimp only at hSw); (obtain ⟨a0, a1, a2⟩ := (KA.out.grown hSw HN.out.1).cells); (obtain ⟨b0, b1, b2⟩ := (KB.out.grown hSw HN.out.2.1).cells); (obtain ⟨o0, o1, o2⟩ := (KO.out.grown hSw HN.out.2.2.1).cells); (have cz := cell_grown KZ.out hSw HN.out.2.2.2.2.1); go_simp) ?_
      refine tcH (i := 14) (v := .int .i64 x) rfl (by intro w' hSw; (try dsimp only at hSw); (obtain ⟨a0, a1, a2⟩ := (KA.out.grown hSw HN.out.1).cells); (obtain ⟨b0, b1, b2⟩ := (KB.out.grown hSw HN.out.2.1).cells); (obtain ⟨o0, o1, o2⟩ := (KO.out.grown hSw HN.out.2.2.1).cells); (have cz := cell_grown KZ.out hSw HN.out.2.2.2.2.1); go_simp) ?_
      refine tcH (i := 15) (v := .int .i64 ((m2 : Int) + (x : Int))) rfl (by intro w' hSw; (try dsimp only at hSw); (obtain ⟨a0, a1, a2⟩ := (KA.out.grown hSw HN.out.1).cells); (obtain ⟨b0, b1, b2⟩ := (KB.out.grown hSw HN.out.2.1).cells); (obtain ⟨o0, o1, o2⟩ := (KO.out.grown hSw HN.out.2.2.1).cells); (have cz := cell_grown KZ.out hSw HN.out.2.2.2.2.1); go_simp) ?_
      refine tcH (i := 16) (v := .pointer (some ⟨gu, m2 + x, none⟩)) rfl (by intro w' hSw; (try dsimp only at hSw); (obtain ⟨a0, a1, a2⟩ := (KA.out.grown hSw HN.out.1).cells); (obtain ⟨b0, b1, b2⟩ := (KB.out.grown hSw HN.out.2.1).cells); (obtain ⟨o0, o1, o2⟩ := (KO.out.grown hSw HN.out.2.2.1).cells); (have cz := cell_grown KZ.out hSw HN.out.2.2.2.2.1); go_simp) ?_
      refine tcH (i := 17) (v := .int .i64 z) rfl (by intro w' hSw; (try dsimp only at hSw); (obtain ⟨a0, a1, a2⟩ := (KA.out.grown hSw HN.out.1).cells); (obtain ⟨b0, b1, b2⟩ := (KB.out.grown hSw HN.out.2.1).cells); (obtain ⟨o0, o1, o2⟩ := (KO.out.grown hSw HN.out.2.2.1).cells); (have cz := cell_grown KZ.out hSw HN.out.2.2.2.2.1); go_simp) ?_
      refine tcH (i := 18) (v := .pointer (some ⟨gq, m + x, none⟩)) rfl (by intro w' hSw; (try dsimp only at hSw); (obtain ⟨a0, a1, a2⟩ := (KA.out.grown hSw HN.out.1).cells); (obtain ⟨b0, b1, b2⟩ := (KB.out.grown hSw HN.out.2.1).cells); (obtain ⟨o0, o1, o2⟩ := (KO.out.grown hSw HN.out.2.2.1).cells); (have cz := cell_grown KZ.out hSw HN.out.2.2.2.2.1); go_simp) ?_
      (try simp only [Act.put]); (try simp only [zPa]); (try simp only [zPb, zPc])
      refine wpAnyH_ready (rs := [19]) (by kernel_rfl) (by simp) ?_
      refine (AllReadyH.cons rfl (fun K hK => ?_) AllReadyH.nil)
      ·rw [if_pos (by kernel_rfl)]
       (try simp only [zGa]); (try simp only [zGb]); (try simp only [zGc])
       go_simp
       refine hK.out _ _ (hS.trans (grown_setI _ gq (m + x) _)) (fun hS => ?_)
       clear hK
       (try simp only [Act.put]); (try simp only [zPa]); (try simp only [zPb, zPc])
       refine wpAnyH_done (by kernel_rfl) ?_ _
       go_wp2_with fail
       go_roundg (M2 - (x + 1))
       case measure => omega
       case rel =>
        refine ⟨x + 1, _, rfl, by omega, rfl, by go_num, ?_, Lib.hid (Hgr.out.trans hS)⟩
        have h := (ownI_put (show wx.drew.ownsRow lo 3 1 (.slice (some ⟨gq, 0, none⟩) L.length cq) L.length (intCells (tabI L.length (copyS W W2 L F (gridOf R) y x))) from Hown.out) (m + x) z).1
        have hz : F.getD (m2 + x) 0 = z := by rw [List.getD_eq_getElem?_getD, HZ.out]; rfl
        rw [tabI_set] at h
        rw [← tabI_congr L.length (fun k _ => copyS_set W W2 L F (gridOf R) y x k (by omega) (by omega) Hp.out.symm), ← Hm1.out, ← Hm2'.out, hz]
        exact h
    ·obtain rfl : x = M2 := by omega
     have hxi : ¬ (x : Int) < min (W : Int) (W2 : Int) := by have := HM2.out; omega
     go_wp2_with fail
     go_roundg (M - (y + 1))
     case measure => omega
     case rel =>
      refine ⟨y + 1, by omega, rfl, by go_num, ?_, Hgr⟩
      rw [← tabI_congr L.length (fun k _ => copyS_row W W2 x L F (gridOf R) y k HM2.out (by omega))]
      exact Hown
  ·obtain rfl : y = M := by omega
   have hyi : ¬ (y : Int) < min (H : Int) (H2 : Int) := by have := HM.out; omega
   obtain ⟨d0, d1, d2⟩ := (HS.out.d.grown Hgr.out HN.out.2.2.2.2.2).cells
   obtain ⟨o0, o1, o2⟩ := (HO.out.grown Hgr.out HN.out.2.2.1).cells
   have f0 := (HS.out.d.grown Hgr.out HN.out.2.2.2.2.2).frozen 0
   have f1 := (HS.out.d.grown Hgr.out HN.out.2.2.2.2.2).frozen 1
   have f2 := (HS.out.d.grown Hgr.out HN.out.2.2.2.2.2).frozen 2
   go_wp2_with fail
   have j := (HS.out.d.grown Hgr.out HN.out.2.2.2.2.2).set3 W H (.slice (some ⟨gq, 0, none⟩) L.length cq)
   obtain ⟨x0, x1, x2⟩ := j.cells
   refine bodyPost_ret (v := .agg #[.int .i64 W, .int .i64 H, .slice (some ⟨gq, 0, none⟩) L.length cq]) (by simp [results, Tryz.results101, go_sem, x0, x1, x2]) rfl ?_
   unfold AnsIm
   rw [HA.out]
   refine ans_set (lo := lo) (b := w.heap.size + 3) (n := L.length) ?_ (tabI_length _ _) (by omega) (by omega) (HS.out.bw.grown Hgr.out HS.out.bw.size (fun k hk => by injection hk with hk; omega))
   rw [← tabI_congr L.length (fun k hk => copyS_end W H W2 H2 L F (gridOf R) y k HM.out (by rw [← HL.out]; exact hk))]
   exact Hown.out
theorem copyS_any (X Y : Int) (v : Value) (L : List Int) (X2 Y2 : Int) (u : Value) (F : List Int) (vr : Value) (R : List Rc) (w : World) (hm : L.length ≤ 2097152) (hv : RdI w v L) (hu : RdI w u F) (hr : RdR w vr R) :
  Calls Tryz.prog 101 #[.agg #[.int .i64 X, .int .i64 Y, v], .agg #[.int .i64 X2, .int .i64 Y2, u], .agg #[vr]] w (AnsIm (copyIm X Y L X2 Y2 F R) w) := by
 by_cases h1 : imOk X Y L
 ·by_cases h2 : imOk X2 Y2 F
  ·rcases h3 : okL R with _ | _
   ·exact copyS_bad3 X Y v L X2 Y2 u F vr R w hm hv hu hr h1 h2 h3
   ·exact copyS_ok X Y v L X2 Y2 u F vr R w hm hv hu hr h1 h2 h3
  ·exact copyS_bad2 X Y v L X2 Y2 u F vr R w hm hv hu hr h1 h2
 ·exact copyS_bad1 X Y v L X2 Y2 u F vr R w hm hv hu hr h1
end Go.Proofs.YtdgagooldlnpeaaGreat
