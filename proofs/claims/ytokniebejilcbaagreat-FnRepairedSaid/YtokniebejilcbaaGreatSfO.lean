/- The contracts of SurfaceOk, of the program and of its model. No statement is proved here. -/
import Derived.Test.YtokniebejilcbaaGreatMA
import Derived.Test.YtokniebejilcbaaGreatMC
import Derived.Test.YtokniebejilcbaaGreatProg
import Derived.WalkKit
import Derived.ProofKit
import Derived.OpenShut
import Derived.WalkLawsBesides
import Derived.WalkSpells
import Derived.ShutString
import Derived.ChangeOld
import Derived.Below
import Derived.Lib.Hide
import Derived.BigQuiet
import Derived.Deep.QuietTactic
import Derived.Maps.AppendAt
import Derived.Deep.OwnRows
import Derived.Handy
import Derived.Deep.Draws
import Derived.OwnWalk
import Derived.Deep.AppendLies
import Derived.Deep.LoopGhost
import Derived.Deep.Onto
import Derived.Deep.MidRow
import Derived.Deep.WholeRow
import Derived.Laws.BitsAllLaws
import Derived.Lib.QuoteBits
import Derived.Deep.RegionHeld3
import Derived.Deep.DeepCutAuto
namespace Go.Proofs.YtokniebejilcbaaGreat
open Go.RowKit
def SfOkAns (f : Sf) (w : World) (e : Ending) (w' : World) : Prop := e = .returned (.bool (sfB f)) ∧ Below w.heap.size w w'
theorem sf_wh {w w' : World} {c0 c1 c2 c3 c4 c5 c6 c7 c8 c9 c10 : Value} {t : TypeId} (h : BkAt (w.alloc (.cells #[c0, c1, c2, c3, c4, c5, c6, c7, c8, c9, c10] t)) w.heap.size t #[c0, c1, c2, c3, c4, c5, c6, c7, c8, c9, c10]) (hb : Below (w.alloc (.cells #[c0, c1, c2, c3, c4, c5, c6, c7, c8, c9, c10] t)).heap.size (w.alloc (.cells #[c0, c1, c2, c3, c4, c5, c6, c7, c8, c9, c10] t)) w') : w'.cell? ⟨w.heap.size, 3, none⟩ = some c3 ∧ w'.cell? ⟨w.heap.size, 4, none⟩ = some c4 :=
 ⟨(h.call hb).cell 3 rfl, (h.call hb).cell 4 rfl⟩
theorem sfB_im {f : Sf} (h0 : 1 ≤ f.id ∧ f.id ≤ 99) (h1 : -32 ≤ f.x ∧ f.x ≤ 32) (h2 : -32 ≤ f.y ∧ f.y ≤ 32) (h3 : (f.w = 0 ∧ f.h = 0) ∨ szOk f.w f.h) (h4 : 0 ≤ f.alpha ∧ f.alpha ≤ 255) (h5 : orOk f.orient) : sfB f = imB f.bw f.bh f.data := by
 by_cases h : imOk f.bw f.bh f.data
 ·rw [sfB_yes ⟨h0, h1, h2, h3, h4, h5, h⟩, imB_yes h]
 ·rw [sfB_no fun e => h e.2.2.2.2.2.2, imB_no h]
set_option maxHeartbeats 2000000 in
set_option maxRecDepth 10000 in
theorem sfI (f : Sf) (d : Value) (w : World) (hv : RdI w d f.data) : Calls Tryz.prog 140 #[Value.agg #[.int .i64 f.id, .int .i64 f.x, .int .i64 f.y, .int .i64 f.w, .int .i64 f.h, .int .i64 f.alpha, .int .i64 f.orient, .bool f.vis, .int .i64 f.bw, .int .i64 f.bh, d]] w (SfOkAns f w) := by
 have HV := Lib.hid (hv.alloc (.cells #[.int .i64 f.id, .int .i64 f.x, .int .i64 f.y, .int .i64 f.w, .int .i64 f.h, .int .i64 f.alpha, .int .i64 f.orient, .bool f.vis, .int .i64 f.bw, .int .i64 f.bh, d] 153))
 have HB := Lib.hid (belI_box w (.cells #[.int .i64 f.id, .int .i64 f.x, .int .i64 f.y, .int .i64 f.w, .int .i64 f.h, .int .i64 f.alpha, .int .i64 f.orient, .bool f.vis, .int .i64 f.bw, .int .i64 f.bh, d] 153))
 obtain ⟨A, c, rfl⟩ := hv.form
 clear hv
 obtain ⟨fi, fx, fy, fw, fh, fa, fo, fv, fbw, fbh, fd⟩ := f
 dsimp only at HV HB ⊢
 by_cases h0 : 1 ≤ fi ∧ fi ≤ 99
 ·skip
  by_cases h1 : -32 ≤ fx ∧ fx ≤ 32
  ·skip
   by_cases h2 : -32 ≤ fy ∧ fy ≤ 32
   ·skip
    by_cases h3 : (fw = 0 ∧ fh = 0) ∨ szOk fw fh
    ·skip
     have H3 := Lib.hid h3
     clear h3
     by_cases h4 : 0 ≤ fa ∧ fa ≤ 255
     ·skip
      by_cases h5 : orOk fo
      ·skip
       have HO := Lib.hid h5
       clear h5
       have Hq := Lib.hid (sfB_im (f := ⟨fi, fx, fy, fw, fh, fa, fo, fv, fbw, fbh, fd⟩) h0 h1 h2 H3.out h4 HO.out)
       by_cases g0 : fw = 0
       ·subst g0
        by_cases g1 : fh = 0
        ·subst g1
         go_enter Tryz.func140, Tryz.ntmps140
         go_wp2_with (first | (go_at_call 109; (with_reducible refine (inI_yes _ _ _ _ (by omega) (by omega)).mono ?_); rintro e w' ⟨rfl, rfl⟩) | (go_at_call 109; (with_reducible refine (inI_no _ _ _ _ (by omega)).mono ?_); rintro e w' ⟨rfl, rfl⟩) | (go_at_call 138; (with_reducible refine (szI_yes _ _ HZ.out _).mono ?_); rintro e w' ⟨rfl, rfl⟩) | (go_at_call 138; (with_reducible refine (szI_no _ _ HN.out _).mono ?_); rintro e w' ⟨rfl, rfl⟩) | (go_at_call 190; (with_reducible refine (isOrI_yes _ HO.out _).mono ?_); rintro e w' ⟨rfl, rfl⟩) | (go_at_call 190; (with_reducible refine (isOrI_no _ HM.out _).mono ?_); rintro e w' ⟨rfl, rfl⟩) | (go_at_call 69; (with_reducible refine (imI _ _ _ _ _ HV.out).mono ?_); rintro e w' ⟨rfl, hb⟩) | fail)
         go_ret
         exact ⟨ret_bool Hq.out.symm, belI_call HB.out hb⟩
        ·exact absurd (H3.out.resolve_left fun e => g1 e.2).1 (by omega)
       ·have HZ := Lib.hid (show szOk fw fh from H3.out.resolve_left fun e => g0 e.1)
        go_enter Tryz.func140, Tryz.ntmps140
        go_wp2_with (first | (go_at_call 109; (with_reducible refine (inI_yes _ _ _ _ (by omega) (by omega)).mono ?_); rintro e w' ⟨rfl, rfl⟩) | (go_at_call 109; (with_reducible refine (inI_no _ _ _ _ (by omega)).mono ?_); rintro e w' ⟨rfl, rfl⟩) | (go_at_call 138; (with_reducible refine (szI_yes _ _ HZ.out _).mono ?_); rintro e w' ⟨rfl, rfl⟩) | (go_at_call 138; (with_reducible refine (szI_no _ _ HN.out _).mono ?_); rintro e w' ⟨rfl, rfl⟩) | (go_at_call 190; (with_reducible refine (isOrI_yes _ HO.out _).mono ?_); rintro e w' ⟨rfl, rfl⟩) | (go_at_call 190; (with_reducible refine (isOrI_no _ HM.out _).mono ?_); rintro e w' ⟨rfl, rfl⟩) | (go_at_call 69; (with_reducible refine (imI _ _ _ _ _ HV.out).mono ?_); rintro e w' ⟨rfl, hb⟩) | fail)
        go_ret
        exact ⟨ret_bool Hq.out.symm, belI_call HB.out hb⟩
      ·have Hno := Lib.hid (sfB_no fun h : sfOk ⟨fi, fx, fy, fw, fh, fa, fo, fv, fbw, fbh, fd⟩ => h5 h.2.2.2.2.2.1)
       have HM := Lib.hid h5
       clear h5
       by_cases g0 : fw = 0
       ·subst g0
        by_cases g1 : fh = 0
        ·subst g1
         go_enter Tryz.func140, Tryz.ntmps140
         go_wp2_with (first | (go_at_call 109; (with_reducible refine (inI_yes _ _ _ _ (by omega) (by omega)).mono ?_); rintro e w' ⟨rfl, rfl⟩) | (go_at_call 109; (with_reducible refine (inI_no _ _ _ _ (by omega)).mono ?_); rintro e w' ⟨rfl, rfl⟩) | (go_at_call 138; (with_reducible refine (szI_yes _ _ HZ.out _).mono ?_); rintro e w' ⟨rfl, rfl⟩) | (go_at_call 138; (with_reducible refine (szI_no _ _ HN.out _).mono ?_); rintro e w' ⟨rfl, rfl⟩) | (go_at_call 190; (with_reducible refine (isOrI_yes _ HO.out _).mono ?_); rintro e w' ⟨rfl, rfl⟩) | (go_at_call 190; (with_reducible refine (isOrI_no _ HM.out _).mono ?_); rintro e w' ⟨rfl, rfl⟩) | (go_at_call 69; (with_reducible refine (imI _ _ _ _ _ HV.out).mono ?_); rintro e w' ⟨rfl, hb⟩) | fail)
         go_ret
         exact ⟨ret_bool Hno.out.symm, HB.out⟩
        ·exact absurd (H3.out.resolve_left fun e => g1 e.2).1 (by omega)
       ·have HZ := Lib.hid (show szOk fw fh from H3.out.resolve_left fun e => g0 e.1)
        go_enter Tryz.func140, Tryz.ntmps140
        go_wp2_with (first | (go_at_call 109; (with_reducible refine (inI_yes _ _ _ _ (by omega) (by omega)).mono ?_); rintro e w' ⟨rfl, rfl⟩) | (go_at_call 109; (with_reducible refine (inI_no _ _ _ _ (by omega)).mono ?_); rintro e w' ⟨rfl, rfl⟩) | (go_at_call 138; (with_reducible refine (szI_yes _ _ HZ.out _).mono ?_); rintro e w' ⟨rfl, rfl⟩) | (go_at_call 138; (with_reducible refine (szI_no _ _ HN.out _).mono ?_); rintro e w' ⟨rfl, rfl⟩) | (go_at_call 190; (with_reducible refine (isOrI_yes _ HO.out _).mono ?_); rintro e w' ⟨rfl, rfl⟩) | (go_at_call 190; (with_reducible refine (isOrI_no _ HM.out _).mono ?_); rintro e w' ⟨rfl, rfl⟩) | (go_at_call 69; (with_reducible refine (imI _ _ _ _ _ HV.out).mono ?_); rintro e w' ⟨rfl, hb⟩) | fail)
        go_ret
        exact ⟨ret_bool Hno.out.symm, HB.out⟩
     ·have Hno := Lib.hid (sfB_no fun h : sfOk ⟨fi, fx, fy, fw, fh, fa, fo, fv, fbw, fbh, fd⟩ => h4 h.2.2.2.2.1)
      by_cases g0 : fw = 0
      ·subst g0
       by_cases g1 : fh = 0
       ·subst g1
        go_enter Tryz.func140, Tryz.ntmps140
        go_wp2_with (first | (go_at_call 109; (with_reducible refine (inI_yes _ _ _ _ (by omega) (by omega)).mono ?_); rintro e w' ⟨rfl, rfl⟩) | (go_at_call 109; (with_reducible refine (inI_no _ _ _ _ (by omega)).mono ?_); rintro e w' ⟨rfl, rfl⟩) | (go_at_call 138; (with_reducible refine (szI_yes _ _ HZ.out _).mono ?_); rintro e w' ⟨rfl, rfl⟩) | (go_at_call 138; (with_reducible refine (szI_no _ _ HN.out _).mono ?_); rintro e w' ⟨rfl, rfl⟩) | (go_at_call 190; (with_reducible refine (isOrI_yes _ HO.out _).mono ?_); rintro e w' ⟨rfl, rfl⟩) | (go_at_call 190; (with_reducible refine (isOrI_no _ HM.out _).mono ?_); rintro e w' ⟨rfl, rfl⟩) | (go_at_call 69; (with_reducible refine (imI _ _ _ _ _ HV.out).mono ?_); rintro e w' ⟨rfl, hb⟩) | fail)
        go_ret
        exact ⟨ret_bool Hno.out.symm, HB.out⟩
       ·exact absurd (H3.out.resolve_left fun e => g1 e.2).1 (by omega)
      ·have HZ := Lib.hid (show szOk fw fh from H3.out.resolve_left fun e => g0 e.1)
       go_enter Tryz.func140, Tryz.ntmps140
       go_wp2_with (first | (go_at_call 109; (with_reducible refine (inI_yes _ _ _ _ (by omega) (by omega)).mono ?_); rintro e w' ⟨rfl, rfl⟩) | (go_at_call 109; (with_reducible refine (inI_no _ _ _ _ (by omega)).mono ?_); rintro e w' ⟨rfl, rfl⟩) | (go_at_call 138; (with_reducible refine (szI_yes _ _ HZ.out _).mono ?_); rintro e w' ⟨rfl, rfl⟩) | (go_at_call 138; (with_reducible refine (szI_no _ _ HN.out _).mono ?_); rintro e w' ⟨rfl, rfl⟩) | (go_at_call 190; (with_reducible refine (isOrI_yes _ HO.out _).mono ?_); rintro e w' ⟨rfl, rfl⟩) | (go_at_call 190; (with_reducible refine (isOrI_no _ HM.out _).mono ?_); rintro e w' ⟨rfl, rfl⟩) | (go_at_call 69; (with_reducible refine (imI _ _ _ _ _ HV.out).mono ?_); rintro e w' ⟨rfl, hb⟩) | fail)
       go_ret
       exact ⟨ret_bool Hno.out.symm, HB.out⟩
    ·have Hno := Lib.hid (sfB_no fun h : sfOk ⟨fi, fx, fy, fw, fh, fa, fo, fv, fbw, fbh, fd⟩ => h3 h.2.2.2.1)
     have HN := Lib.hid (show ¬ szOk fw fh from fun e => h3 (.inr e))
     by_cases g0 : fw = 0
     ·subst g0
      have g1 : ¬ fh = 0 := fun e => h3 (.inl ⟨rfl, e⟩)
      clear h3
      go_enter Tryz.func140, Tryz.ntmps140
      go_wp2_with (first | (go_at_call 109; (with_reducible refine (inI_yes _ _ _ _ (by omega) (by omega)).mono ?_); rintro e w' ⟨rfl, rfl⟩) | (go_at_call 109; (with_reducible refine (inI_no _ _ _ _ (by omega)).mono ?_); rintro e w' ⟨rfl, rfl⟩) | (go_at_call 138; (with_reducible refine (szI_yes _ _ HZ.out _).mono ?_); rintro e w' ⟨rfl, rfl⟩) | (go_at_call 138; (with_reducible refine (szI_no _ _ HN.out _).mono ?_); rintro e w' ⟨rfl, rfl⟩) | (go_at_call 190; (with_reducible refine (isOrI_yes _ HO.out _).mono ?_); rintro e w' ⟨rfl, rfl⟩) | (go_at_call 190; (with_reducible refine (isOrI_no _ HM.out _).mono ?_); rintro e w' ⟨rfl, rfl⟩) | (go_at_call 69; (with_reducible refine (imI _ _ _ _ _ HV.out).mono ?_); rintro e w' ⟨rfl, hb⟩) | fail)
      go_ret
      exact ⟨ret_bool Hno.out.symm, HB.out⟩
     ·clear h3
      go_enter Tryz.func140, Tryz.ntmps140
      go_wp2_with (first | (go_at_call 109; (with_reducible refine (inI_yes _ _ _ _ (by omega) (by omega)).mono ?_); rintro e w' ⟨rfl, rfl⟩) | (go_at_call 109; (with_reducible refine (inI_no _ _ _ _ (by omega)).mono ?_); rintro e w' ⟨rfl, rfl⟩) | (go_at_call 138; (with_reducible refine (szI_yes _ _ HZ.out _).mono ?_); rintro e w' ⟨rfl, rfl⟩) | (go_at_call 138; (with_reducible refine (szI_no _ _ HN.out _).mono ?_); rintro e w' ⟨rfl, rfl⟩) | (go_at_call 190; (with_reducible refine (isOrI_yes _ HO.out _).mono ?_); rintro e w' ⟨rfl, rfl⟩) | (go_at_call 190; (with_reducible refine (isOrI_no _ HM.out _).mono ?_); rintro e w' ⟨rfl, rfl⟩) | (go_at_call 69; (with_reducible refine (imI _ _ _ _ _ HV.out).mono ?_); rintro e w' ⟨rfl, hb⟩) | fail)
      go_ret
      exact ⟨ret_bool Hno.out.symm, HB.out⟩
   ·have Hno := Lib.hid (sfB_no fun h : sfOk ⟨fi, fx, fy, fw, fh, fa, fo, fv, fbw, fbh, fd⟩ => h2 h.2.2.1)
    go_enter Tryz.func140, Tryz.ntmps140
    go_wp2_with (first | (go_at_call 109; (with_reducible refine (inI_yes _ _ _ _ (by omega) (by omega)).mono ?_); rintro e w' ⟨rfl, rfl⟩) | (go_at_call 109; (with_reducible refine (inI_no _ _ _ _ (by omega)).mono ?_); rintro e w' ⟨rfl, rfl⟩) | (go_at_call 138; (with_reducible refine (szI_yes _ _ HZ.out _).mono ?_); rintro e w' ⟨rfl, rfl⟩) | (go_at_call 138; (with_reducible refine (szI_no _ _ HN.out _).mono ?_); rintro e w' ⟨rfl, rfl⟩) | (go_at_call 190; (with_reducible refine (isOrI_yes _ HO.out _).mono ?_); rintro e w' ⟨rfl, rfl⟩) | (go_at_call 190; (with_reducible refine (isOrI_no _ HM.out _).mono ?_); rintro e w' ⟨rfl, rfl⟩) | (go_at_call 69; (with_reducible refine (imI _ _ _ _ _ HV.out).mono ?_); rintro e w' ⟨rfl, hb⟩) | fail)
    go_ret
    exact ⟨ret_bool Hno.out.symm, HB.out⟩
  ·have Hno := Lib.hid (sfB_no fun h : sfOk ⟨fi, fx, fy, fw, fh, fa, fo, fv, fbw, fbh, fd⟩ => h1 h.2.1)
   go_enter Tryz.func140, Tryz.ntmps140
   go_wp2_with (first | (go_at_call 109; (with_reducible refine (inI_yes _ _ _ _ (by omega) (by omega)).mono ?_); rintro e w' ⟨rfl, rfl⟩) | (go_at_call 109; (with_reducible refine (inI_no _ _ _ _ (by omega)).mono ?_); rintro e w' ⟨rfl, rfl⟩) | (go_at_call 138; (with_reducible refine (szI_yes _ _ HZ.out _).mono ?_); rintro e w' ⟨rfl, rfl⟩) | (go_at_call 138; (with_reducible refine (szI_no _ _ HN.out _).mono ?_); rintro e w' ⟨rfl, rfl⟩) | (go_at_call 190; (with_reducible refine (isOrI_yes _ HO.out _).mono ?_); rintro e w' ⟨rfl, rfl⟩) | (go_at_call 190; (with_reducible refine (isOrI_no _ HM.out _).mono ?_); rintro e w' ⟨rfl, rfl⟩) | (go_at_call 69; (with_reducible refine (imI _ _ _ _ _ HV.out).mono ?_); rintro e w' ⟨rfl, hb⟩) | fail)
   go_ret
   exact ⟨ret_bool Hno.out.symm, HB.out⟩
 ·have Hno := Lib.hid (sfB_no fun h : sfOk ⟨fi, fx, fy, fw, fh, fa, fo, fv, fbw, fbh, fd⟩ => h0 h.1)
  go_enter Tryz.func140, Tryz.ntmps140
  go_wp2_with (first | (go_at_call 109; (with_reducible refine (inI_yes _ _ _ _ (by omega) (by omega)).mono ?_); rintro e w' ⟨rfl, rfl⟩) | (go_at_call 109; (with_reducible refine (inI_no _ _ _ _ (by omega)).mono ?_); rintro e w' ⟨rfl, rfl⟩) | (go_at_call 138; (with_reducible refine (szI_yes _ _ HZ.out _).mono ?_); rintro e w' ⟨rfl, rfl⟩) | (go_at_call 138; (with_reducible refine (szI_no _ _ HN.out _).mono ?_); rintro e w' ⟨rfl, rfl⟩) | (go_at_call 190; (with_reducible refine (isOrI_yes _ HO.out _).mono ?_); rintro e w' ⟨rfl, rfl⟩) | (go_at_call 190; (with_reducible refine (isOrI_no _ HM.out _).mono ?_); rintro e w' ⟨rfl, rfl⟩) | (go_at_call 69; (with_reducible refine (imI _ _ _ _ _ HV.out).mono ?_); rintro e w' ⟨rfl, hb⟩) | fail)
  go_ret
  exact ⟨ret_bool Hno.out.symm, HB.out⟩
set_option maxHeartbeats 2000000 in
set_option maxRecDepth 10000 in
theorem sfS (f : Sf) (d : Value) (w : World) (hv : RdI w d f.data) : Calls Tryz.prog 152 #[Value.agg #[.int .i64 f.id, .int .i64 f.x, .int .i64 f.y, .int .i64 f.w, .int .i64 f.h, .int .i64 f.alpha, .int .i64 f.orient, .bool f.vis, .int .i64 f.bw, .int .i64 f.bh, d]] w (SfOkAns f w) := by
 have HV := Lib.hid (hv.alloc (.cells #[.int .i64 f.id, .int .i64 f.x, .int .i64 f.y, .int .i64 f.w, .int .i64 f.h, .int .i64 f.alpha, .int .i64 f.orient, .bool f.vis, .int .i64 f.bw, .int .i64 f.bh, d] 153))
 have HB := Lib.hid (belI_box w (.cells #[.int .i64 f.id, .int .i64 f.x, .int .i64 f.y, .int .i64 f.w, .int .i64 f.h, .int .i64 f.alpha, .int .i64 f.orient, .bool f.vis, .int .i64 f.bw, .int .i64 f.bh, d] 153))
 have HX := Lib.hid (BkAt.new w 153 #[.int .i64 f.id, .int .i64 f.x, .int .i64 f.y, .int .i64 f.w, .int .i64 f.h, .int .i64 f.alpha, .int .i64 f.orient, .bool f.vis, .int .i64 f.bw, .int .i64 f.bh, d])
 obtain ⟨A, c, rfl⟩ := hv.form
 clear hv
 obtain ⟨fi, fx, fy, fw, fh, fa, fo, fv, fbw, fbh, fd⟩ := f
 dsimp only at HV HB HX ⊢
 by_cases h0 : 1 ≤ fi ∧ fi ≤ 99
 ·skip
  by_cases h1 : -32 ≤ fx ∧ fx ≤ 32
  ·skip
   by_cases h2 : -32 ≤ fy ∧ fy ≤ 32
   ·skip
    by_cases h3 : 0 ≤ fa ∧ fa ≤ 255
    ·skip
     by_cases h4 : 0 ≤ fo ∧ fo ≤ 7
     ·skip
      by_cases h5 : imOk fbw fbh fd
      ·skip
       have Hi := Lib.hid (imB_yes h5)
       have HC := Lib.hid (imS fbw fbh _ fd _ HV.out)
       unfold ImOkAns at HC
       rw [Hi.out] at HC
       have H5 := Lib.hid h5
       clear h5
       by_cases g0 : fw = 0
       ·subst g0
        by_cases g1 : fh = 0
        ·subst g1
         have Hq := Lib.hid (sfB_yes (show sfOk ⟨fi, fx, fy, (0 : Int), (0 : Int), fa, fo, fv, fbw, fbh, fd⟩ from ⟨h0, h1, h2, .inl ⟨rfl, rfl⟩, h3, h4, H5.out⟩))
         go_enter Tryz.func152, Tryz.ntmps152
         go_wp2_with (first | (go_at_call 136; (with_reducible refine (inS_yes _ _ _ _ (by omega) (by omega)).mono ?_); rintro e w' ⟨rfl, rfl⟩) | (go_at_call 136; (with_reducible refine (inS_no _ _ _ _ (by omega)).mono ?_); rintro e w' ⟨rfl, rfl⟩) | (go_at_call 161; (with_reducible refine HC.out.mono ?_); rintro e w' ⟨rfl, hb⟩; obtain ⟨c3, c4⟩ := sf_wh HX.out hb) | fail)
         go_ret
         exact ⟨ret_bool (by first | exact Hq.out.symm | (rw [Hq.out]; simp [g1])), belI_call HB.out hb⟩
        ·skip
         have Hq := Lib.hid (sfB_no fun h : sfOk ⟨fi, fx, fy, (0 : Int), fh, fa, fo, fv, fbw, fbh, fd⟩ => (show ¬ (((0 : Int) = 0 ∧ fh = 0) ∨ szOk (0 : Int) fh) from fun e => e.elim (fun e => g1 e.2) fun e => by have := e.1; omega) h.2.2.2.1)
         go_enter Tryz.func152, Tryz.ntmps152
         go_wp2_with (first | (go_at_call 136; (with_reducible refine (inS_yes _ _ _ _ (by omega) (by omega)).mono ?_); rintro e w' ⟨rfl, rfl⟩) | (go_at_call 136; (with_reducible refine (inS_no _ _ _ _ (by omega)).mono ?_); rintro e w' ⟨rfl, rfl⟩) | (go_at_call 161; (with_reducible refine HC.out.mono ?_); rintro e w' ⟨rfl, hb⟩; obtain ⟨c3, c4⟩ := sf_wh HX.out hb) | fail)
         go_ret
         exact ⟨ret_bool (by first | exact Hq.out.symm | (rw [Hq.out]; simp [g1])), belI_call HB.out hb⟩
       ·by_cases g1 : 1 ≤ fw ∧ fw ≤ 16
        ·by_cases g2 : 1 ≤ fh ∧ fh ≤ 16
         ·skip
          have Hq := Lib.hid (sfB_yes (show sfOk ⟨fi, fx, fy, fw, fh, fa, fo, fv, fbw, fbh, fd⟩ from ⟨h0, h1, h2, .inr ⟨g1.1, g1.2, g2.1, g2.2⟩, h3, h4, H5.out⟩))
          go_enter Tryz.func152, Tryz.ntmps152
          go_wp2_with (first | (go_at_call 136; (with_reducible refine (inS_yes _ _ _ _ (by omega) (by omega)).mono ?_); rintro e w' ⟨rfl, rfl⟩) | (go_at_call 136; (with_reducible refine (inS_no _ _ _ _ (by omega)).mono ?_); rintro e w' ⟨rfl, rfl⟩) | (go_at_call 161; (with_reducible refine HC.out.mono ?_); rintro e w' ⟨rfl, hb⟩; obtain ⟨c3, c4⟩ := sf_wh HX.out hb) | fail)
          go_ret
          exact ⟨ret_bool (by first | exact Hq.out.symm | (rw [Hq.out]; simp [g1])), belI_call HB.out hb⟩
         ·skip
          have Hq := Lib.hid (sfB_no fun h : sfOk ⟨fi, fx, fy, fw, fh, fa, fo, fv, fbw, fbh, fd⟩ => (show ¬ ((fw = 0 ∧ fh = 0) ∨ szOk fw fh) from fun e => e.elim (fun e => g0 e.1) fun e => g2 ⟨e.2.2.1, e.2.2.2⟩) h.2.2.2.1)
          go_enter Tryz.func152, Tryz.ntmps152
          go_wp2_with (first | (go_at_call 136; (with_reducible refine (inS_yes _ _ _ _ (by omega) (by omega)).mono ?_); rintro e w' ⟨rfl, rfl⟩) | (go_at_call 136; (with_reducible refine (inS_no _ _ _ _ (by omega)).mono ?_); rintro e w' ⟨rfl, rfl⟩) | (go_at_call 161; (with_reducible refine HC.out.mono ?_); rintro e w' ⟨rfl, hb⟩; obtain ⟨c3, c4⟩ := sf_wh HX.out hb) | fail)
          go_ret
          exact ⟨ret_bool (by first | exact Hq.out.symm | (rw [Hq.out]; simp [g1])), belI_call HB.out hb⟩
        ·skip
         have Hq := Lib.hid (sfB_no fun h : sfOk ⟨fi, fx, fy, fw, fh, fa, fo, fv, fbw, fbh, fd⟩ => (show ¬ ((fw = 0 ∧ fh = 0) ∨ szOk fw fh) from fun e => e.elim (fun e => g0 e.1) fun e => g1 ⟨e.1, e.2.1⟩) h.2.2.2.1)
         go_enter Tryz.func152, Tryz.ntmps152
         go_wp2_with (first | (go_at_call 136; (with_reducible refine (inS_yes _ _ _ _ (by omega) (by omega)).mono ?_); rintro e w' ⟨rfl, rfl⟩) | (go_at_call 136; (with_reducible refine (inS_no _ _ _ _ (by omega)).mono ?_); rintro e w' ⟨rfl, rfl⟩) | (go_at_call 161; (with_reducible refine HC.out.mono ?_); rintro e w' ⟨rfl, hb⟩; obtain ⟨c3, c4⟩ := sf_wh HX.out hb) | fail)
         go_ret
         exact ⟨ret_bool (by first | exact Hq.out.symm | (rw [Hq.out]; simp [g1])), belI_call HB.out hb⟩
      ·have Hno := Lib.hid (sfB_no fun h : sfOk ⟨fi, fx, fy, fw, fh, fa, fo, fv, fbw, fbh, fd⟩ => h5 h.2.2.2.2.2.2)
       have Hi := Lib.hid (imB_no h5)
       clear h5
       have HC := Lib.hid (imS fbw fbh _ fd _ HV.out)
       unfold ImOkAns at HC
       rw [Hi.out] at HC
       go_enter Tryz.func152, Tryz.ntmps152
       go_wp2_with (first | (go_at_call 136; (with_reducible refine (inS_yes _ _ _ _ (by omega) (by omega)).mono ?_); rintro e w' ⟨rfl, rfl⟩) | (go_at_call 136; (with_reducible refine (inS_no _ _ _ _ (by omega)).mono ?_); rintro e w' ⟨rfl, rfl⟩) | (go_at_call 161; (with_reducible refine HC.out.mono ?_); rintro e w' ⟨rfl, hb⟩) | fail)
       go_ret
       exact ⟨ret_bool Hno.out.symm, belI_call HB.out hb⟩
     ·have Hno := Lib.hid (sfB_no fun h : sfOk ⟨fi, fx, fy, fw, fh, fa, fo, fv, fbw, fbh, fd⟩ => h4 h.2.2.2.2.2.1)
      go_enter Tryz.func152, Tryz.ntmps152
      go_wp2_with (first | (go_at_call 136; (with_reducible refine (inS_yes _ _ _ _ (by omega) (by omega)).mono ?_); rintro e w' ⟨rfl, rfl⟩) | (go_at_call 136; (with_reducible refine (inS_no _ _ _ _ (by omega)).mono ?_); rintro e w' ⟨rfl, rfl⟩) | (go_at_call 161; (with_reducible refine (imS _ _ _ _ _ HV.out).mono ?_); rintro e w' ⟨rfl, hb⟩) | fail)
      go_ret
      exact ⟨ret_bool Hno.out.symm, HB.out⟩
    ·have Hno := Lib.hid (sfB_no fun h : sfOk ⟨fi, fx, fy, fw, fh, fa, fo, fv, fbw, fbh, fd⟩ => h3 h.2.2.2.2.1)
     go_enter Tryz.func152, Tryz.ntmps152
     go_wp2_with (first | (go_at_call 136; (with_reducible refine (inS_yes _ _ _ _ (by omega) (by omega)).mono ?_); rintro e w' ⟨rfl, rfl⟩) | (go_at_call 136; (with_reducible refine (inS_no _ _ _ _ (by omega)).mono ?_); rintro e w' ⟨rfl, rfl⟩) | (go_at_call 161; (with_reducible refine (imS _ _ _ _ _ HV.out).mono ?_); rintro e w' ⟨rfl, hb⟩) | fail)
     go_ret
     exact ⟨ret_bool Hno.out.symm, HB.out⟩
   ·have Hno := Lib.hid (sfB_no fun h : sfOk ⟨fi, fx, fy, fw, fh, fa, fo, fv, fbw, fbh, fd⟩ => h2 h.2.2.1)
    go_enter Tryz.func152, Tryz.ntmps152
    go_wp2_with (first | (go_at_call 136; (with_reducible refine (inS_yes _ _ _ _ (by omega) (by omega)).mono ?_); rintro e w' ⟨rfl, rfl⟩) | (go_at_call 136; (with_reducible refine (inS_no _ _ _ _ (by omega)).mono ?_); rintro e w' ⟨rfl, rfl⟩) | (go_at_call 161; (with_reducible refine (imS _ _ _ _ _ HV.out).mono ?_); rintro e w' ⟨rfl, hb⟩) | fail)
    go_ret
    exact ⟨ret_bool Hno.out.symm, HB.out⟩
  ·have Hno := Lib.hid (sfB_no fun h : sfOk ⟨fi, fx, fy, fw, fh, fa, fo, fv, fbw, fbh, fd⟩ => h1 h.2.1)
   go_enter Tryz.func152, Tryz.ntmps152
   go_wp2_with (first | (go_at_call 136; (with_reducible refine (inS_yes _ _ _ _ (by omega) (by omega)).mono ?_); rintro e w' ⟨rfl, rfl⟩) | (go_at_call 136; (with_reducible refine (inS_no _ _ _ _ (by omega)).mono ?_); rintro e w' ⟨rfl, rfl⟩) | (go_at_call 161; (with_reducible refine (imS _ _ _ _ _ HV.out).mono ?_); rintro e w' ⟨rfl, hb⟩) | fail)
   go_ret
   exact ⟨ret_bool Hno.out.symm, HB.out⟩
 ·have Hno := Lib.hid (sfB_no fun h : sfOk ⟨fi, fx, fy, fw, fh, fa, fo, fv, fbw, fbh, fd⟩ => h0 h.1)
  go_enter Tryz.func152, Tryz.ntmps152
  go_wp2_with (first | (go_at_call 136; (with_reducible refine (inS_yes _ _ _ _ (by omega) (by omega)).mono ?_); rintro e w' ⟨rfl, rfl⟩) | (go_at_call 136; (with_reducible refine (inS_no _ _ _ _ (by omega)).mono ?_); rintro e w' ⟨rfl, rfl⟩) | (go_at_call 161; (with_reducible refine (imS _ _ _ _ _ HV.out).mono ?_); rintro e w' ⟨rfl, hb⟩) | fail)
  go_ret
  exact ⟨ret_bool Hno.out.symm, HB.out⟩
end Go.Proofs.YtokniebejilcbaaGreat
