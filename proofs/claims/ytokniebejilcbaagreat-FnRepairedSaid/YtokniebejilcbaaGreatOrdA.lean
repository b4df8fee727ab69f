/- The contracts of Oriented at every image and number. No statement is proved here. -/
import Derived.Test.YtokniebejilcbaaGreatMA
import Derived.Test.YtokniebejilcbaaGreatMB
import Derived.Test.YtokniebejilcbaaGreatMC
import Derived.Test.YtokniebejilcbaaGreatCpyI
import Derived.Test.YtokniebejilcbaaGreatFilB
import Derived.Test.YtokniebejilcbaaGreatOrdB
import Derived.Test.YtokniebejilcbaaGreatOrdS
import Derived.Test.YtokniebejilcbaaGreatOrdI
import Derived.Test.YtokniebejilcbaaGreatProg
import Derived.WalkKit
import Derived.ProofKit
import Derived.OpenShut
import Derived.WalkLawsBesides
import Derived.WalkSpells
import Derived.ShutString
import Derived.ChangeOld
import Derived.Below
import Derived.Lib.Hide
import Derived.Deep.MidRow
import Derived.Deep.WholeRow
import Derived.Maps.AppendAt
import Derived.BigQuiet
import Derived.Deep.QuietTactic
import Derived.Deep.OwnRows
import Derived.Handy
import Derived.Deep.Draws
import Derived.OwnWalk
import Derived.Deep.AppendLies
import Derived.Deep.LoopGhost
import Derived.Deep.Onto
import Derived.Laws.BitsAllLaws
import Derived.Lib.QuoteBits
import Derived.Deep.RegionHeld3
import Derived.Deep.DeepCutAuto
import Derived.Test.YtokniebejilcbaaGreatShelf
import Derived.Laws.CopyOwn
import Derived.Deep.RegionLaw
import Derived.Great.BuildSlice
import Derived.Laws.AppendOwn
namespace Go.Proofs.YtokniebejilcbaaGreat
open Go.RowKit
theorem OrA.born (w : World) (X Y : Int) {v : Value} {L : List Int} (hv : RdI w v L) : OrA w X Y v L ((w.alloc (.cells #[.int .i64 X, .int .i64 Y, v] 55)).alloc (.cells #[.int .i64 0, .int .i64 0, .slice none 0 0] 55)) :=
 ⟨(ImAt.new _ _ _ _ _).alloc _, ImAt.newAt (by simp) _ _ _ _, (hv.alloc _).alloc _, belI_call (belI_box _ _) (belI_box _ _)⟩
theorem or_zero {w W : World} {X Y : Int} {v : Value} {L : List Int} (h : OrA w X Y v L W) : AnsIm zeroIm w (.returned (.agg #[.int .i64 0, .int .i64 0, .slice none 0 0])) (((W.setCell ⟨w.heap.size + 1, 0, none⟩ (.int .i64 0)).setCell ⟨w.heap.size + 1, 1, none⟩ (.int .i64 0)).setCell ⟨w.heap.size + 1, 2, none⟩ (.slice none 0 0)) :=
 zeroIm_ans (((h.bw.setCell (by simp) _).setCell (by simp) _).setCell (by simp) _)
set_option maxHeartbeats 600000 in
theorem ordS_bad1 (X Y : Int) (v : Value) (L : List Int) (o : Int) (w : World) (hv : RdI w v L) (h1 : ¬ imOk X Y L) :
  Calls Tryz.prog 200 #[.agg #[.int .i64 X, .int .i64 Y, v], .int .i64 o] w (AnsIm (orIm X Y L o) w) := by
 have HA := Lib.hid (orIm_no (o := o) fun h => h1 h.1)
 have hS := OrA.born w X Y hv
 have H1 := Lib.hid h1
 obtain ⟨A, c, rfl⟩ := hv.form
 clear hv h1
 obtain ⟨a0, a1, a2⟩ := hS.a.cells
 go_enter Tryz.func200, Tryz.ntmps200
 go_wp2_with fail
 refine (imS X Y _ L _ hS.rd).mono ?_
 rintro e w2 ⟨rfl, hb⟩
 replace hS := hS.call hb
 clear hb a0 a1 a2
 rw [imB_no H1.out]
 have hr := hS.r
 obtain ⟨r0, r1, r2⟩ := hr.cells
 have f0 := hr.frozen 0
 have f1 := hr.frozen 1
 have f2 := hr.frozen 2
 have HJ := Lib.hid (hr.set3 0 0 (.slice none 0 0))
 have HS := Lib.hid hS
 clear hr hS
 go_wp2_with fail
 obtain ⟨s0, s1, s2⟩ := HJ.out.cells
 exact bodyPost_ret (v := .agg #[.int .i64 0, .int .i64 0, .slice none 0 0]) (by simp [results, Tryz.results200, go_sem, s0, s1, s2]) rfl (by rw [HA.out]; exact or_zero HS.out)
set_option maxHeartbeats 600000 in
theorem ordS_bad2 (X Y : Int) (v : Value) (L : List Int) (o : Int) (w : World) (hv : RdI w v L) (h1 : imOk X Y L) (ho : ¬ orOk o) :
  Calls Tryz.prog 200 #[.agg #[.int .i64 X, .int .i64 Y, v], .int .i64 o] w (AnsIm (orIm X Y L o) w) := by
 have HA := Lib.hid (orIm_no (X := X) (Y := Y) (L := L) fun h => ho h.2)
 have hS := OrA.born w X Y hv
 have H1 := Lib.hid h1
 have Ho := Lib.hid ho
 have H7 := Lib.hid (or_no ho)
 obtain ⟨A, c, rfl⟩ := hv.form
 clear hv h1 ho
 obtain ⟨a0, a1, a2⟩ := hS.a.cells
 go_enter Tryz.func200, Tryz.ntmps200
 go_wp2_with fail
 refine (imS X Y _ L _ hS.rd).mono ?_
 rintro e w2 ⟨rfl, hb⟩
 replace hS := hS.call hb
 clear hb a0 a1 a2
 rw [imB_yes H1.out]
 go_wp2_with fail
 refine (inS_no o 0 7 _ H7.out).mono ?_
 rintro e w' ⟨rfl, rfl⟩
 have hr := hS.r
 obtain ⟨r0, r1, r2⟩ := hr.cells
 have f0 := hr.frozen 0
 have f1 := hr.frozen 1
 have f2 := hr.frozen 2
 have HJ := Lib.hid (hr.set3 0 0 (.slice none 0 0))
 have HS := Lib.hid hS
 clear hr hS
 go_wp2_with fail
 obtain ⟨s0, s1, s2⟩ := HJ.out.cells
 exact bodyPost_ret (v := .agg #[.int .i64 0, .int .i64 0, .slice none 0 0]) (by simp [results, Tryz.results200, go_sem, s0, s1, s2]) rfl (by rw [HA.out]; exact or_zero HS.out)
theorem ordS_any (X Y : Int) (v : Value) (L : List Int) (o : Int) (w : World) (hv : RdI w v L) :
  Calls Tryz.prog 200 #[.agg #[.int .i64 X, .int .i64 Y, v], .int .i64 o] w (AnsIm (orIm X Y L o) w) := by
 by_cases h1 : imOk X Y L
 ·by_cases ho : orOk o
  ·obtain ⟨W, H, rfl, rfl, _⟩ := im_nat h1
   exact ordS_ok W H v L o w h1 ho hv
  ·exact ordS_bad2 X Y v L o w hv h1 ho
 ·exact ordS_bad1 X Y v L o w hv h1
set_option maxHeartbeats 600000 in
theorem ordI_bad1 (X Y : Int) (v : Value) (L : List Int) (o : Int) (w : World) (hv : RdI w v L) (h1 : ¬ imOk X Y L) :
  Calls Tryz.prog 222 #[.agg #[.int .i64 X, .int .i64 Y, v], .int .i64 o] w (AnsIm (orIm X Y L o) w) := by
 have HA := Lib.hid (orIm_no (o := o) fun h => h1 h.1)
 have hS := OrA.born w X Y hv
 have H1 := Lib.hid h1
 obtain ⟨A, c, rfl⟩ := hv.form
 clear hv h1
 obtain ⟨a0, a1, a2⟩ := hS.a.cells
 go_enter Tryz.func222, Tryz.ntmps222
 go_wp2_with fail
 refine (imI X Y _ L _ hS.rd).mono ?_
 rintro e w2 ⟨rfl, hb⟩
 replace hS := hS.call hb
 clear hb a0 a1 a2
 rw [imB_no H1.out]
 have hr := hS.r
 obtain ⟨r0, r1, r2⟩ := hr.cells
 have f0 := hr.frozen 0
 have f1 := hr.frozen 1
 have f2 := hr.frozen 2
 have HJ := Lib.hid (hr.set3 0 0 (.slice none 0 0))
 have HS := Lib.hid hS
 clear hr hS
 go_wp2_with fail
 obtain ⟨s0, s1, s2⟩ := HJ.out.cells
 exact bodyPost_ret (v := .agg #[.int .i64 0, .int .i64 0, .slice none 0 0]) (by simp [results, Tryz.results222, go_sem, s0, s1, s2]) rfl (by rw [HA.out]; exact or_zero HS.out)
set_option maxHeartbeats 600000 in
theorem ordI_bad2 (X Y : Int) (v : Value) (L : List Int) (o : Int) (w : World) (hv : RdI w v L) (h1 : imOk X Y L) (ho : ¬ orOk o) :
  Calls Tryz.prog 222 #[.agg #[.int .i64 X, .int .i64 Y, v], .int .i64 o] w (AnsIm (orIm X Y L o) w) := by
 have HA := Lib.hid (orIm_no (X := X) (Y := Y) (L := L) fun h => ho h.2)
 have hS := OrA.born w X Y hv
 have H1 := Lib.hid h1
 have Ho := Lib.hid ho
 have H7 := Lib.hid (or_no ho)
 obtain ⟨A, c, rfl⟩ := hv.form
 clear hv h1 ho
 obtain ⟨a0, a1, a2⟩ := hS.a.cells
 go_enter Tryz.func222, Tryz.ntmps222
 go_wp2_with fail
 refine (imI X Y _ L _ hS.rd).mono ?_
 rintro e w2 ⟨rfl, hb⟩
 replace hS := hS.call hb
 clear hb a0 a1 a2
 rw [imB_yes H1.out]
 go_wp2_with fail
 refine (isOrI_no o Ho.out _).mono ?_
 rintro e w' ⟨rfl, rfl⟩
 have hr := hS.r
 obtain ⟨r0, r1, r2⟩ := hr.cells
 have f0 := hr.frozen 0
 have f1 := hr.frozen 1
 have f2 := hr.frozen 2
 have HJ := Lib.hid (hr.set3 0 0 (.slice none 0 0))
 have HS := Lib.hid hS
 clear hr hS
 go_wp2_with fail
 obtain ⟨s0, s1, s2⟩ := HJ.out.cells
 exact bodyPost_ret (v := .agg #[.int .i64 0, .int .i64 0, .slice none 0 0]) (by simp [results, Tryz.results222, go_sem, s0, s1, s2]) rfl (by rw [HA.out]; exact or_zero HS.out)
theorem ordI_any (X Y : Int) (v : Value) (L : List Int) (o : Int) (w : World) (hv : RdI w v L) :
  Calls Tryz.prog 222 #[.agg #[.int .i64 X, .int .i64 Y, v], .int .i64 o] w (AnsIm (orIm X Y L o) w) := by
 by_cases h1 : imOk X Y L
 ·by_cases ho : orOk o
  ·obtain ⟨W, H, rfl, rfl, _⟩ := im_nat h1
   exact ordI_ok W H v L o w h1 ho hv
  ·exact ordI_bad2 X Y v L o w hv h1 ho
 ·exact ordI_bad1 X Y v L o w hv h1
end Go.Proofs.YtokniebejilcbaaGreat
