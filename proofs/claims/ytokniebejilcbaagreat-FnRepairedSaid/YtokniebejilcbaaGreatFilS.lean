/- The contract of the model's FillRect. No statement is proved here. -/
import Derived.Test.YtokniebejilcbaaGreatMA
import Derived.Test.YtokniebejilcbaaGreatMB
import Derived.Test.YtokniebejilcbaaGreatMC
import Derived.Test.YtokniebejilcbaaGreatCpyI
import Derived.Test.YtokniebejilcbaaGreatCpyJ
import Derived.Test.YtokniebejilcbaaGreatFilB
import Derived.Test.YtokniebejilcbaaGreatProg
import Derived.WalkKit
import Derived.ProofKit
import Derived.OpenShut
import Derived.WalkLawsBesides
import Derived.WalkSpells
import Derived.ShutString
import Derived.ChangeOld
import Derived.Below
import Derived.Lib.Hide
import Derived.BigQuiet
import Derived.Deep.QuietTactic
import Derived.Maps.AppendAt
import Derived.Deep.OwnRows
import Derived.Handy
import Derived.Deep.Draws
import Derived.OwnWalk
import Derived.Deep.AppendLies
import Derived.Deep.LoopGhost
import Derived.Deep.Onto
import Derived.Laws.BitsAllLaws
import Derived.Lib.QuoteBits
import Derived.Test.YtokniebejilcbaaGreatShelf
import Derived.Laws.CopyOwn
import Derived.Deep.RegionLaw
import Derived.Deep.RegionHeld3
import Derived.Deep.DeepCutAuto
import Derived.Great.BuildSlice
import Derived.Deep.MidRow
import Derived.Deep.WholeRow
import Derived.Laws.AppendOwn
namespace Go.Proofs.YtokniebejilcbaaGreat
open Go.RowKit
theorem partS (r : Rc) (M2 M : Nat) (a1 : 1 ≤ M2) (a2 : M2 ≤ 16) (b1 : 1 ≤ M) (b2 : M ≤ 16) (w : World) :
  Calls Tryz.prog 125 #[.agg #[.int .i64 r.x, .int .i64 r.y, .int .i64 r.w, .int .i64 r.h], .agg #[.int .i64 0, .int .i64 0, .int .i64 M2, .int .i64 M]] w
   fun e w' => (∃ X Y n h : Nat, e = .returned (.agg #[.int .i64 X, .int .i64 Y, .int .i64 n, .int .i64 h]) ∧ X + n ≤ M2 ∧ Y + h ≤ M ∧ (h = 0 ∨ 1 ≤ n) ∧ Hid (∀ p q : Nat, ((X ≤ p ∧ p < X + n ∧ Y ≤ q ∧ q < Y + h) ↔ (hasB r p q = true ∧ p < M2 ∧ q < M)))) ∧ Below w.heap.size w w' := by
 refine (isectS_any r ⟨0, 0, M2, M⟩ w).mono ?_
 rintro e w' ⟨rfl, hb⟩
 obtain ⟨X, Y, n, h, he, h1, h2, h3, h4⟩ := part_nat r M2 M a1 a2 b1 b2
 exact ⟨⟨X, Y, n, h, by rw [he], h1, h2, h3, h4⟩, hb⟩
set_option maxHeartbeats 1000000 in
set_option maxRecDepth 10000 in
theorem fillS_bad1 (X Y : Int) (v : Value) (L : List Int) (r : Rc) (p : Int) (w : World) (hm : L.length ≤ 2097152) (hv : RdI w v L) (h1 : ¬ imOk X Y L) :
  Calls Tryz.prog 187 #[.agg #[.int .i64 X, .int .i64 Y, v], .agg #[.int .i64 r.x, .int .i64 r.y, .int .i64 r.w, .int .i64 r.h], .int .i64 p] w (AnsIm (fillIm X Y L r p) w) := by
 have HA : Hid (fillIm X Y L r p = ⟨X, Y, L⟩) := Lib.hid (fill_no fun h => h1 h.1)
 have Ho := Lib.hid h1
 clear h1
 have Hm := Lib.hid hm
 obtain ⟨A, c, rfl⟩ := hv.form
 have hS := FlA.born w X Y (.slice A L.length c) r
 have hd := fl_res w X Y (.slice A L.length c) r
 have hv0 := (((hv.alloc (.cells #[.int .i64 X, .int .i64 Y, .slice A L.length c] 55)).alloc (.cells #[.int .i64 r.x, .int .i64 r.y, .int .i64 r.w, .int .i64 r.h] 111)).alloc (.cells #[.int .i64 0, .int .i64 0, .slice none 0 0] 55))
 clear hm hv
 obtain ⟨a0, a1, a2⟩ := hS.a.cells
 go_enter Tryz.func187, Tryz.ntmps187
 go_wp2_with fail
 refine (l05Copy_any X Y _ L _ Hm.out hv0).mono ?_
 rintro e w1 ⟨vo, rfl, hown, hb⟩
 obtain ⟨Ao, co, hvo⟩ := ownI_shape hown
 subst hvo
 have hv1 := hv0.call hb
 have hS1 := hS.call hb
 have hd1 := hd.call hb
 have hO := ImV.born (X := X) (Y := Y) hb hown
 have hl : w.heap.size + 3 ≤ (((w.alloc (.cells #[.int .i64 X, .int .i64 Y, .slice A L.length c] 55)).alloc (.cells #[.int .i64 r.x, .int .i64 r.y, .int .i64 r.w, .int .i64 r.h] 111)).alloc (.cells #[.int .i64 0, .int .i64 0, .slice none 0 0] 55)).heap.size := by simp
 obtain ⟨lo, hlo⟩ : ∃ lo, lo = (((w.alloc (.cells #[.int .i64 X, .int .i64 Y, .slice A L.length c] 55)).alloc (.cells #[.int .i64 r.x, .int .i64 r.y, .int .i64 r.w, .int .i64 r.h] 111)).alloc (.cells #[.int .i64 0, .int .i64 0, .slice none 0 0] 55)).heap.size := ⟨_, rfl⟩
 rw [← hlo] at hO hl
 replace hS := hS1.call (belI_box w1 (.cells #[.int .i64 X, .int .i64 Y, .slice Ao L.length co] 55))
 replace hd := hd1.call (belI_box w1 (.cells #[.int .i64 X, .int .i64 Y, .slice Ao L.length co] 55))
 have hv := hv1.call (belI_box w1 (.cells #[.int .i64 X, .int .i64 Y, .slice Ao L.length co] 55))
 clear hown hb hS1 hd1 hv1 hv0 a0 a1 a2 hlo
 obtain ⟨a0, a1, a2⟩ := hS.a.cells
 go_wp2_with fail
 refine (imS X Y _ L _ hv).mono ?_
 rintro e w2 ⟨rfl, hb⟩
 replace hS := hS.call hb
 replace hd := hd.call hb
 replace hO := hO.call hb
 clear hb hv a0 a1 a2
 rw [imB_no Ho.out]
 obtain ⟨d0, d1, d2⟩ := hd.cells
 obtain ⟨o0, o1, o2⟩ := hO.cells
 have f0 := hd.frozen 0
 have f1 := hd.frozen 1
 have f2 := hd.frozen 2
 go_wp2_with fail
 have j := hd.set3 X Y (.slice Ao L.length co)
 obtain ⟨x0, x1, x2⟩ := j.cells
 refine bodyPost_ret (v := .agg #[.int .i64 X, .int .i64 Y, .slice Ao L.length co]) (by simp [results, Tryz.results187, go_sem, x0, x1, x2]) rfl ?_
 unfold AnsIm
 rw [HA.out]
 exact ans_set hO.own rfl (by omega) (by omega) hS.bw
set_option maxHeartbeats 1000000 in
set_option maxRecDepth 10000 in
theorem fillS_bad2 (X Y : Int) (v : Value) (L : List Int) (r : Rc) (p : Int) (w : World) (hm : L.length ≤ 2097152) (hv : RdI w v L) (h1 : imOk X Y L) (h2 : ¬ r.ok) :
  Calls Tryz.prog 187 #[.agg #[.int .i64 X, .int .i64 Y, v], .agg #[.int .i64 r.x, .int .i64 r.y, .int .i64 r.w, .int .i64 r.h], .int .i64 p] w (AnsIm (fillIm X Y L r p) w) := by
 have HA : Hid (fillIm X Y L r p = ⟨X, Y, L⟩) := Lib.hid (fill_no fun h => h2 h.2.1)
 have Ho := Lib.hid h1
 have Hr := Lib.hid h2
 clear h1 h2
 have Hm := Lib.hid hm
 obtain ⟨A, c, rfl⟩ := hv.form
 have hS := FlA.born w X Y (.slice A L.length c) r
 have hd := fl_res w X Y (.slice A L.length c) r
 have hv0 := (((hv.alloc (.cells #[.int .i64 X, .int .i64 Y, .slice A L.length c] 55)).alloc (.cells #[.int .i64 r.x, .int .i64 r.y, .int .i64 r.w, .int .i64 r.h] 111)).alloc (.cells #[.int .i64 0, .int .i64 0, .slice none 0 0] 55))
 clear hm hv
 obtain ⟨a0, a1, a2⟩ := hS.a.cells
 go_enter Tryz.func187, Tryz.ntmps187
 go_wp2_with fail
 refine (l05Copy_any X Y _ L _ Hm.out hv0).mono ?_
 rintro e w1 ⟨vo, rfl, hown, hb⟩
 obtain ⟨Ao, co, hvo⟩ := ownI_shape hown
 subst hvo
 have hv1 := hv0.call hb
 have hS1 := hS.call hb
 have hd1 := hd.call hb
 have hO := ImV.born (X := X) (Y := Y) hb hown
 have hl : w.heap.size + 3 ≤ (((w.alloc (.cells #[.int .i64 X, .int .i64 Y, .slice A L.length c] 55)).alloc (.cells #[.int .i64 r.x, .int .i64 r.y, .int .i64 r.w, .int .i64 r.h] 111)).alloc (.cells #[.int .i64 0, .int .i64 0, .slice none 0 0] 55)).heap.size := by simp
 obtain ⟨lo, hlo⟩ : ∃ lo, lo = (((w.alloc (.cells #[.int .i64 X, .int .i64 Y, .slice A L.length c] 55)).alloc (.cells #[.int .i64 r.x, .int .i64 r.y, .int .i64 r.w, .int .i64 r.h] 111)).alloc (.cells #[.int .i64 0, .int .i64 0, .slice none 0 0] 55)).heap.size := ⟨_, rfl⟩
 rw [← hlo] at hO hl
 replace hS := hS1.call (belI_box w1 (.cells #[.int .i64 X, .int .i64 Y, .slice Ao L.length co] 55))
 replace hd := hd1.call (belI_box w1 (.cells #[.int .i64 X, .int .i64 Y, .slice Ao L.length co] 55))
 have hv := hv1.call (belI_box w1 (.cells #[.int .i64 X, .int .i64 Y, .slice Ao L.length co] 55))
 clear hown hb hS1 hd1 hv1 hv0 a0 a1 a2 hlo
 obtain ⟨a0, a1, a2⟩ := hS.a.cells
 go_wp2_with fail
 refine (imS X Y _ L _ hv).mono ?_
 rintro e w2 ⟨rfl, hb⟩
 replace hS := hS.call hb
 replace hd := hd.call hb
 replace hO := hO.call hb
 clear hb hv a0 a1 a2
 rw [imB_yes Ho.out]
 obtain ⟨b0, b1, b2, b3⟩ := hS.b.cells
 go_wp2_with fail
 refine (rectOkS_no r Hr.out _).mono ?_
 rintro e w3 ⟨rfl, hb⟩
 replace hS := hS.call hb
 replace hd := hd.call hb
 replace hO := hO.call hb
 clear hb b0 b1 b2 b3
 obtain ⟨d0, d1, d2⟩ := hd.cells
 obtain ⟨o0, o1, o2⟩ := hO.cells
 have f0 := hd.frozen 0
 have f1 := hd.frozen 1
 have f2 := hd.frozen 2
 go_wp2_with fail
 have j := hd.set3 X Y (.slice Ao L.length co)
 obtain ⟨x0, x1, x2⟩ := j.cells
 refine bodyPost_ret (v := .agg #[.int .i64 X, .int .i64 Y, .slice Ao L.length co]) (by simp [results, Tryz.results187, go_sem, x0, x1, x2]) rfl ?_
 unfold AnsIm
 rw [HA.out]
 exact ans_set hO.own rfl (by omega) (by omega) hS.bw
set_option maxHeartbeats 1000000 in
set_option maxRecDepth 10000 in
theorem fillS_bad3 (X Y : Int) (v : Value) (L : List Int) (r : Rc) (p : Int) (w : World) (hm : L.length ≤ 2097152) (hv : RdI w v L) (h1 : imOk X Y L) (h2 : r.ok) (h3 : ¬ pixOk p) :
  Calls Tryz.prog 187 #[.agg #[.int .i64 X, .int .i64 Y, v], .agg #[.int .i64 r.x, .int .i64 r.y, .int .i64 r.w, .int .i64 r.h], .int .i64 p] w (AnsIm (fillIm X Y L r p) w) := by
 have HA : Hid (fillIm X Y L r p = ⟨X, Y, L⟩) := Lib.hid (fill_no fun h => h3 h.2.2)
 have Ho := Lib.hid h1
 have Hr := Lib.hid h2
 have Hp := Lib.hid h3
 clear h1 h2 h3
 have Hm := Lib.hid hm
 obtain ⟨A, c, rfl⟩ := hv.form
 have hS := FlA.born w X Y (.slice A L.length c) r
 have hd := fl_res w X Y (.slice A L.length c) r
 have hv0 := (((hv.alloc (.cells #[.int .i64 X, .int .i64 Y, .slice A L.length c] 55)).alloc (.cells #[.int .i64 r.x, .int .i64 r.y, .int .i64 r.w, .int .i64 r.h] 111)).alloc (.cells #[.int .i64 0, .int .i64 0, .slice none 0 0] 55))
 clear hm hv
 obtain ⟨a0, a1, a2⟩ := hS.a.cells
 go_enter Tryz.func187, Tryz.ntmps187
 go_wp2_with fail
 refine (l05Copy_any X Y _ L _ Hm.out hv0).mono ?_
 rintro e w1 ⟨vo, rfl, hown, hb⟩
 obtain ⟨Ao, co, hvo⟩ := ownI_shape hown
 subst hvo
 have hv1 := hv0.call hb
 have hS1 := hS.call hb
 have hd1 := hd.call hb
 have hO := ImV.born (X := X) (Y := Y) hb hown
 have hl : w.heap.size + 3 ≤ (((w.alloc (.cells #[.int .i64 X, .int .i64 Y, .slice A L.length c] 55)).alloc (.cells #[.int .i64 r.x, .int .i64 r.y, .int .i64 r.w, .int .i64 r.h] 111)).alloc (.cells #[.int .i64 0, .int .i64 0, .slice none 0 0] 55)).heap.size := by simp
 obtain ⟨lo, hlo⟩ : ∃ lo, lo = (((w.alloc (.cells #[.int .i64 X, .int .i64 Y, .slice A L.length c] 55)).alloc (.cells #[.int .i64 r.x, .int .i64 r.y, .int .i64 r.w, .int .i64 r.h] 111)).alloc (.cells #[.int .i64 0, .int .i64 0, .slice none 0 0] 55)).heap.size := ⟨_, rfl⟩
 rw [← hlo] at hO hl
 replace hS := hS1.call (belI_box w1 (.cells #[.int .i64 X, .int .i64 Y, .slice Ao L.length co] 55))
 replace hd := hd1.call (belI_box w1 (.cells #[.int .i64 X, .int .i64 Y, .slice Ao L.length co] 55))
 have hv := hv1.call (belI_box w1 (.cells #[.int .i64 X, .int .i64 Y, .slice Ao L.length co] 55))
 clear hown hb hS1 hd1 hv1 hv0 a0 a1 a2 hlo
 obtain ⟨a0, a1, a2⟩ := hS.a.cells
 go_wp2_with fail
 refine (imS X Y _ L _ hv).mono ?_
 rintro e w2 ⟨rfl, hb⟩
 replace hS := hS.call hb
 replace hd := hd.call hb
 replace hO := hO.call hb
 clear hb hv a0 a1 a2
 rw [imB_yes Ho.out]
 obtain ⟨b0, b1, b2, b3⟩ := hS.b.cells
 go_wp2_with fail
 refine (rectOkS_yes r Hr.out _).mono ?_
 rintro e w3 ⟨rfl, hb⟩
 replace hS := hS.call hb
 replace hd := hd.call hb
 replace hO := hO.call hb
 clear hb b0 b1 b2 b3
 go_wp2_with fail
 refine (pixS_no p Hp.out _).mono ?_
 rintro e w4 ⟨rfl, rfl⟩
 obtain ⟨d0, d1, d2⟩ := hd.cells
 obtain ⟨o0, o1, o2⟩ := hO.cells
 have f0 := hd.frozen 0
 have f1 := hd.frozen 1
 have f2 := hd.frozen 2
 go_wp2_with fail
 have j := hd.set3 X Y (.slice Ao L.length co)
 obtain ⟨x0, x1, x2⟩ := j.cells
 refine bodyPost_ret (v := .agg #[.int .i64 X, .int .i64 Y, .slice Ao L.length co]) (by simp [results, Tryz.results187, go_sem, x0, x1, x2]) rfl ?_
 unfold AnsIm
 rw [HA.out]
 exact ans_set hO.own rfl (by omega) (by omega) hS.bw
set_option maxHeartbeats 1000000 in
set_option maxRecDepth 10000 in
theorem fillS_ok (X Y : Int) (v : Value) (L : List Int) (r : Rc) (p : Int) (w : World) (hm : L.length ≤ 2097152) (hv : RdI w v L) (h1 : imOk X Y L) (h2 : r.ok) (h3 : pixOk p) :
  Calls Tryz.prog 187 #[.agg #[.int .i64 X, .int .i64 Y, v], .agg #[.int .i64 r.x, .int .i64 r.y, .int .i64 r.w, .int .i64 r.h], .int .i64 p] w (AnsIm (fillIm X Y L r p) w) := by
 obtain ⟨W, H, rfl, rfl, wl, wh, hl1, hl2, hL⟩ := im_nat h1
 have HA : Hid (fillIm W H L r p = ⟨W, H, tabI L.length (rectF W L r p)⟩) := Lib.hid (fill_val W H L r p h1 h3 hL wh hl2)
 have hL0 : 0 < L.length := by rw [hL]; exact Nat.mul_pos wl hl1
 have hL256 : L.length ≤ 256 := by rw [hL]; exact mul_256 wh hl2
 have HL := Lib.hid hL
 have Ho := Lib.hid h1
 have Hr := Lib.hid h2
 have Hp := Lib.hid h3
 clear h1 h2 h3 hL
 have Hm := Lib.hid hm
 obtain ⟨A, c, rfl⟩ := hv.form
 have hS := FlA.born w W H (.slice A L.length c) r
 have hd := fl_res w W H (.slice A L.length c) r
 have hv0 := (((hv.alloc (.cells #[.int .i64 W, .int .i64 H, .slice A L.length c] 55)).alloc (.cells #[.int .i64 r.x, .int .i64 r.y, .int .i64 r.w, .int .i64 r.h] 111)).alloc (.cells #[.int .i64 0, .int .i64 0, .slice none 0 0] 55))
 clear hm hv
 obtain ⟨a0, a1, a2⟩ := hS.a.cells
 go_enter Tryz.func187, Tryz.ntmps187
 go_wp2_with fail
 refine (l05Copy_any W H _ L _ Hm.out hv0).mono ?_
 rintro e w1 ⟨vo, rfl, hown, hb⟩
 obtain ⟨gq, cq, hvq, hgq, _⟩ := hown.form hL0
 subst hvq
 have hv1 := hv0.call hb
 have hS1 := hS.call hb
 have hd1 := hd.call hb
 have hO := ImV.born (X := W) (Y := H) hb hown
 have hl : w.heap.size + 3 ≤ (((w.alloc (.cells #[.int .i64 W, .int .i64 H, .slice A L.length c] 55)).alloc (.cells #[.int .i64 r.x, .int .i64 r.y, .int .i64 r.w, .int .i64 r.h] 111)).alloc (.cells #[.int .i64 0, .int .i64 0, .slice none 0 0] 55)).heap.size := by simp
 obtain ⟨lo, hlo⟩ : ∃ lo, lo = (((w.alloc (.cells #[.int .i64 W, .int .i64 H, .slice A L.length c] 55)).alloc (.cells #[.int .i64 r.x, .int .i64 r.y, .int .i64 r.w, .int .i64 r.h] 111)).alloc (.cells #[.int .i64 0, .int .i64 0, .slice none 0 0] 55)).heap.size := ⟨_, rfl⟩
 rw [← hlo] at hO hl hgq
 replace hS := hS1.call (belI_box w1 (.cells #[.int .i64 W, .int .i64 H, .slice (some ⟨gq, 0, none⟩) L.length cq] 55))
 replace hd := hd1.call (belI_box w1 (.cells #[.int .i64 W, .int .i64 H, .slice (some ⟨gq, 0, none⟩) L.length cq] 55))
 have hv := hv1.call (belI_box w1 (.cells #[.int .i64 W, .int .i64 H, .slice (some ⟨gq, 0, none⟩) L.length cq] 55))
 clear hown hb hS1 hd1 hv1 hv0 a0 a1 a2 hlo
 obtain ⟨a0, a1, a2⟩ := hS.a.cells
 go_wp2_with fail
 refine (imS W H _ L _ hv).mono ?_
 rintro e w2 ⟨rfl, hb⟩
 replace hS := hS.call hb
 replace hd := hd.call hb
 replace hO := hO.call hb
 clear hb hv a0 a1 a2
 rw [imB_yes Ho.out]
 obtain ⟨b0, b1, b2, b3⟩ := hS.b.cells
 go_wp2_with fail
 refine (rectOkS_yes r Hr.out _).mono ?_
 rintro e w3 ⟨rfl, hb⟩
 replace hS := hS.call hb
 replace hd := hd.call hb
 replace hO := hO.call hb
 clear hb b0 b1 b2 b3
 go_wp2_with fail
 refine (pixS_yes p Hp.out _).mono ?_
 rintro e w4 ⟨rfl, rfl⟩
 obtain ⟨a0, a1, a2⟩ := hS.a.cells
 obtain ⟨b0, b1, b2, b3⟩ := hS.b.cells
 go_wp2_with fail
 refine (partS r W H wl wh hl1 hl2 _).mono ?_
 rintro e W1 ⟨⟨X, Y, n, h, rfl, hXn, hYh, hn1, HI⟩, hb⟩
 replace hS := hS.call hb
 replace hd := hd.call hb
 replace hO := hO.call hb
 clear hb a0 a1 a2 b0 b1 b2 b3
 have hgb := (hO.hk gq rfl).1
 have hgb2 := (hO.hk gq rfl).2
 have hhs := hO.hs
 obtain ⟨bt, hbt⟩ : ∃ bt, bt = W1.heap.size := ⟨_, rfl⟩
 have hS2 := hS.call (belI_box W1 (.cells #[.int .i64 X, .int .i64 Y, .int .i64 n, .int .i64 h] 111))
 have hd2 := hd.call (belI_box W1 (.cells #[.int .i64 X, .int .i64 Y, .int .i64 n, .int .i64 h] 111))
 have hO2 := hO.call (belI_box W1 (.cells #[.int .i64 X, .int .i64 Y, .int .i64 n, .int .i64 h] 111))
 have hT := RcAt.newAt (w := W1) hbt.symm ⟨X, Y, n, h⟩
 dsimp only at hT
 obtain ⟨V0, hV0⟩ : ∃ V0, V0 = W1.alloc (.cells #[.int .i64 X, .int .i64 Y, .int .i64 n, .int .i64 h] 111) := ⟨_, rfl⟩
 rw [← hV0] at hS2 hd2 hO2 hT
 have HV := Lib.hid hV0
 have HB := Lib.hid hbt
 have HN : Hid (some w.heap.size ≠ some gq ∧ some (w.heap.size + 1) ≠ some gq ∧ some (w.heap.size + 2) ≠ some gq ∧ some w1.heap.size ≠ some gq ∧ some bt ≠ some gq) := Lib.hid ⟨by simp; omega, by simp; omega, by simp; omega, by simp; omega, by simp; omega⟩
 have Hown : Hid (V0.ownsRow lo 3 1 (.slice (some ⟨gq, 0, none⟩) L.length cq) L.length (intCells (tabI L.length (rectS W p (fun k => L.getD k 0) X Y n Y X)))) := Lib.hid (by
  have h := hO2.own
  rw [tabI_congr L.length (fun k _ => rectS_start W p (fun k => L.getD k 0) X Y n k), ← tabI_self]
  exact h)
 have Hgr : Hid (V0.grownBy V0 (some gq)) := Lib.hid (World.grownBy.refl _ _)
 have HS := Lib.hid hS2
 have HO := Lib.hid hO2.at_
 have HD := Lib.hid hd2
 have HT := Lib.hid hT
 obtain ⟨t0, t1, t2, t3⟩ := hT.cells
 rw [hV0, hbt] at t0 t1 t2 t3
 clear hS hd hO hS2 hd2 hO2 hT hV0 hbt
 go_wp2_with fail
 rw [← HV.out, ← HB.out]
 clear t0 t1 t2 t3
 go_loopg [9] h (fun g9 s9 wr => ∃ (y : Nat) (V : World), V = wr ∧ Y ≤ y ∧ y ≤ Y + h ∧ g9 = Y + h - y ∧ s9 = .int .i64 y ∧ Hid (V.ownsRow lo 3 1 (.slice (some ⟨gq, 0, none⟩) L.length cq) L.length (intCells (tabI L.length (rectS W p (fun k => L.getD k 0) X Y n y X)))) ∧ Hid (V0.grownBy V (some gq)))
 case atStart => exact ⟨Y, _, rfl, Nat.le_refl _, by omega, by omega, rfl, Hown, Hgr⟩
 case round =>
  clear Hown Hgr
  obtain ⟨y, wy, hV, hy1, hy2, rfl, rfl, Hown, Hgr⟩ := hrel
  subst hV
  obtain ⟨t0, t1, t2, t3⟩ := (show RcAt wy bt ⟨X, Y, n, h⟩ from (Hgr.out.block _ HT.out.lt HN.out.2.2.2.2).trans HT.out).cells
  dsimp only at t0 t1 t2 t3
  by_cases hyl : y < Y + h
  ·have hyi : (y : Int) < (Y : Int) + (h : Int) := by omega
   go_wp2_with fail
   go_loopg [10] n (fun g10 s10 wz => ∃ (x : Nat) (V : World), V = wz ∧ X ≤ x ∧ x ≤ X + n ∧ g10 = X + n - x ∧ s10 = .int .i64 x ∧ Hid (V.ownsRow lo 3 1 (.slice (some ⟨gq, 0, none⟩) L.length cq) L.length (intCells (tabI L.length (rectS W p (fun k => L.getD k 0) X Y n y x)))) ∧ Hid (V0.grownBy V (some gq)))
   case atStart => exact ⟨X, _, rfl, Nat.le_refl _, by omega, by omega, rfl, Hown, Hgr⟩
   case round =>
    clear Hown Hgr t0 t1 t2 t3
    obtain ⟨x, wx, hV, hx1, hx2, rfl, rfl, Hown, Hgr⟩ := hrel
    subst hV
    obtain ⟨t0, t1, t2, t3⟩ := (show RcAt wx bt ⟨X, Y, n, h⟩ from (Hgr.out.block _ HT.out.lt HN.out.2.2.2.2).trans HT.out).cells
    dsimp only at t0 t1 t2 t3
    by_cases hxl : x < X + n
    ·have hxi : (x : Int) < (X : Int) + (n : Int) := by omega
     obtain ⟨m, hm⟩ : ∃ m, m = y * W := ⟨_, rfl⟩
     have e1 : (y : Int) * (W : Int) = (m : Int) := by rw [hm]; simp
     have l1 : m + x < L.length := by rw [hm, HL.out]; exact plc_lt (by omega) (by omega)
     have l3 : (m : Int) + (x : Int) < (L.length : Int) := by omega
     obtain ⟨a0, a1, a2⟩ := (HS.out.a.grown Hgr.out HN.out.1).cells
     obtain ⟨o0, o1, o2⟩ := (HO.out.grown Hgr.out HN.out.2.2.2.1).cells
     have cS : wx.cell? ⟨gq, m + x, none⟩ = some (.int .i64 (rectS W p (fun k => L.getD k 0) X Y n y x (m + x))) := by
      have h := Hown.out.cellAt (m + x) (by omega)
      rw [intCells_get, tabI_get _ _ _ l1] at h
      exact h
     have fS : wx.frozen? ⟨gq, m + x, none⟩ = false := Hown.out.frozenAt (m + x)
     have Hm1 := Lib.hid hm
     clear hm
     go_wp2_with fail
     go_roundg (X + n - (x + 1))
     case measure => omega
     case rel =>
      refine ⟨x + 1, _, rfl, by omega, by omega, rfl, by go_num, ?_, Lib.hid (Hgr.out.trans (grown_setI _ gq (m + x) _))⟩
      have h := (ownI_put Hown.out (m + x) p).1
      rw [tabI_set] at h
      rw [← tabI_congr L.length (fun k _ => rectS_set W p (fun k => L.getD k 0) X Y n y x k (by omega) hx1 hxl hy1), ← Hm1.out]
      exact Lib.hid h
    ·obtain rfl : x = X + n := by omega
     have hxi : ¬ ((X + n : Nat) : Int) < (X : Int) + (n : Int) := by omega
     go_wp2_with fail
     go_roundg (Y + h - (y + 1))
     case measure => omega
     case rel =>
      refine ⟨y + 1, _, rfl, by omega, by omega, rfl, by go_num, ?_, Hgr⟩
      rw [← tabI_congr L.length (fun k _ => rectS_row W p (fun k => L.getD k 0) X Y n y k)]
      exact Hown
  ·obtain rfl : y = Y + h := by omega
   have hyi : ¬ ((Y + h : Nat) : Int) < (Y : Int) + (h : Int) := by omega
   have hdd := HD.out.grown Hgr.out HN.out.2.2.1
   obtain ⟨d0, d1, d2⟩ := hdd.cells
   obtain ⟨o0, o1, o2⟩ := (HO.out.grown Hgr.out HN.out.2.2.2.1).cells
   have f0 := hdd.frozen 0
   have f1 := hdd.frozen 1
   have f2 := hdd.frozen 2
   go_wp2_with fail
   have j := hdd.set3 W H (.slice (some ⟨gq, 0, none⟩) L.length cq)
   obtain ⟨x0, x1, x2⟩ := j.cells
   refine bodyPost_ret (v := .agg #[.int .i64 W, .int .i64 H, .slice (some ⟨gq, 0, none⟩) L.length cq]) (by simp [results, Tryz.results187, go_sem, x0, x1, x2]) rfl ?_
   unfold AnsIm
   rw [HA.out]
   refine ans_set (lo := lo) (b := w.heap.size + 2) (n := L.length) ?_ (tabI_length _ _) (by omega) (by omega) (HS.out.bw.grown Hgr.out HS.out.bw.size (fun k hk => by injection hk with hk; omega))
   rw [← tabI_congr L.length (fun k hk => rectS_end W H p L r X Y n h k (by rw [← HL.out]; exact hk) HI.out)]
   exact Hown.out
theorem fillS_any (X Y : Int) (v : Value) (L : List Int) (r : Rc) (p : Int) (w : World) (hm : L.length ≤ 2097152) (hv : RdI w v L) :
  Calls Tryz.prog 187 #[.agg #[.int .i64 X, .int .i64 Y, v], .agg #[.int .i64 r.x, .int .i64 r.y, .int .i64 r.w, .int .i64 r.h], .int .i64 p] w (AnsIm (fillIm X Y L r p) w) := by
 by_cases h1 : imOk X Y L
 ·by_cases h2 : r.ok
  ·by_cases h3 : pixOk p
   ·exact fillS_ok X Y v L r p w hm hv h1 h2 h3
   ·exact fillS_bad3 X Y v L r p w hm hv h1 h2 h3
  ·exact fillS_bad2 X Y v L r p w hm hv h1 h2
 ·exact fillS_bad1 X Y v L r p w hm hv h1
end Go.Proofs.YtokniebejilcbaaGreat
