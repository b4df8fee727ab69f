/- The laws' helpers over surfaces: sizes, copies, comparisons, marks. No statement is proved here. -/
import Derived.Test.YtokniebejilcbaaMAv23
import Derived.Test.YtokniebejilcbaaMAv3
import Derived.Test.YtokniebejilcbaaMAv123
import Derived.Test.YtokniebejilcbaaProg
import Derived.WalkKit
import Derived.ProofKit
import Derived.OpenShut
import Derived.WalkLawsBesides
import Derived.WalkSpells
import Derived.ShutString
import Derived.ChangeOld
import Derived.Below
import Derived.Lib.Hide
import Derived.BigQuiet
import Derived.Deep.QuietTactic
import Derived.Maps.AppendAt
import Derived.Deep.OwnRows
import Derived.Handy
import Derived.Deep.Draws
import Derived.OwnWalk
import Derived.Deep.AppendLies
import Derived.Deep.LoopGhost
import Derived.Deep.Onto
import Derived.Deep.MidRow
import Derived.Deep.WholeRow
import Derived.Laws.BitsAllLaws
import Derived.Lib.QuoteBits
import Derived.Deep.RegionHeld3
import Derived.Deep.DeepCutAuto
namespace Go.Proofs.Ytokniebejilcbaa
open Go.RowKit
theorem szSf_yes (f : Sf) (n : Nat) (A : Option Addr) (c : Nat) (l : Int) (h : (n : Int) ≤ l) (hl : l ≤ 2097152) (w : World) :
  Calls Try.prog 119 #[.agg #[.int .i64 f.id, .int .i64 f.x, .int .i64 f.y, .int .i64 f.w, .int .i64 f.h, .int .i64 f.alpha, .int .i64 f.orient, .bool f.vis, .int .i64 f.bw, .int .i64 f.bh, .slice A n c], .int .i64 l] w fun e w' => e = .returned (.int .i64 (l - n)) ∧ Below w.heap.size w w' := by
 have h1 : ¬ (l - (n : Int) < 0) := by omega
 have HB := Lib.hid (belI_box w (.cells #[.int .i64 f.id, .int .i64 f.x, .int .i64 f.y, .int .i64 f.w, .int .i64 f.h, .int .i64 f.alpha, .int .i64 f.orient, .bool f.vis, .int .i64 f.bw, .int .i64 f.bh, .slice A n c] 141))
 go_enter Try.func119, Try.ntmps119
 go_wp2_with fail
 refine (szIm_yes f.bw f.bh n A c l h hl _).mono ?_
 rintro e w1 ⟨rfl, hb⟩
 go_wp2_with fail
 go_ret
 exact ⟨rfl, belI_call HB.out hb⟩
theorem szSf_no (f : Sf) (n : Nat) (A : Option Addr) (c : Nat) (hn : n ≤ maxLen) (l : Int) (h0 : 0 ≤ l) (h : l < (n : Int)) (w : World) :
  Calls Try.prog 119 #[.agg #[.int .i64 f.id, .int .i64 f.x, .int .i64 f.y, .int .i64 f.w, .int .i64 f.h, .int .i64 f.alpha, .int .i64 f.orient, .bool f.vis, .int .i64 f.bw, .int .i64 f.bh, .slice A n c], .int .i64 l] w fun e w' => e = .returned (.int .i64 (-1)) ∧ Below w.heap.size w w' := by
 have HB := Lib.hid (belI_box w (.cells #[.int .i64 f.id, .int .i64 f.x, .int .i64 f.y, .int .i64 f.w, .int .i64 f.h, .int .i64 f.alpha, .int .i64 f.orient, .bool f.vis, .int .i64 f.bw, .int .i64 f.bh, .slice A n c] 141))
 have Hn := Lib.hid hn
 clear hn
 go_enter Try.func119, Try.ntmps119
 go_wp2_with fail
 refine (szIm_no f.bw f.bh n A c Hn.out l h0 h _).mono ?_
 rintro e w1 ⟨rfl, hb⟩
 go_wp2_with fail
 go_ret
 exact ⟨rfl, belI_call HB.out hb⟩
def SfAns (f : Sf) (w : World) (e : Ending) (w' : World) : Prop := ∃ d, e = .returned (.agg #[.int .i64 f.id, .int .i64 f.x, .int .i64 f.y, .int .i64 f.w, .int .i64 f.h, .int .i64 f.alpha, .int .i64 f.orient, .bool f.vis, .int .i64 f.bw, .int .i64 f.bh, d]) ∧ w'.ownsRow w.heap.size 3 1 d f.data.length (intCells f.data) ∧ Below w.heap.size w w'
set_option maxHeartbeats 2000000 in
set_option maxRecDepth 10000 in
theorem toSf (f : Sf) (d : Value) (w : World) (hm : f.data.length ≤ 1048576) (h : Rd w d f.data.length (intCells f.data)) :
  Calls Try.prog 123 #[.agg #[.int .i64 f.id, .int .i64 f.x, .int .i64 f.y, .int .i64 f.w, .int .i64 f.h, .int .i64 f.alpha, .int .i64 f.orient, .bool f.vis, .int .i64 f.bw, .int .i64 f.bh, d]] w (SfAns f w) := by
 have hB : Below w.heap.size w (((w.alloc (.cells #[.int .i64 f.id, .int .i64 f.x, .int .i64 f.y, .int .i64 f.w, .int .i64 f.h, .int .i64 f.alpha, .int .i64 f.orient, .bool f.vis, .int .i64 f.bw, .int .i64 f.bh, d] 141)).alloc (.cells #[.int .i64 0, .int .i64 0, .int .i64 0, .int .i64 0, .int .i64 0, .int .i64 0, .int .i64 0, .bool false, .int .i64 0, .int .i64 0, .slice none 0 0] 81)).alloc (.cells #[.int .i64 f.id, .int .i64 f.x, .int .i64 f.y, .int .i64 f.w, .int .i64 f.h, .int .i64 f.alpha, .int .i64 f.orient, .bool f.vis, .int .i64 0, .int .i64 0, .slice none 0 0] 81)) := by repeat (first | exact Below.refl _ _ | refine Below.alloc ?_ (by simp; try omega) _)
 have hI : BkAt (((w.alloc (.cells #[.int .i64 f.id, .int .i64 f.x, .int .i64 f.y, .int .i64 f.w, .int .i64 f.h, .int .i64 f.alpha, .int .i64 f.orient, .bool f.vis, .int .i64 f.bw, .int .i64 f.bh, d] 141)).alloc (.cells #[.int .i64 0, .int .i64 0, .int .i64 0, .int .i64 0, .int .i64 0, .int .i64 0, .int .i64 0, .bool false, .int .i64 0, .int .i64 0, .slice none 0 0] 81)).alloc (.cells #[.int .i64 f.id, .int .i64 f.x, .int .i64 f.y, .int .i64 f.w, .int .i64 f.h, .int .i64 f.alpha, .int .i64 f.orient, .bool f.vis, .int .i64 0, .int .i64 0, .slice none 0 0] 81)) (w.heap.size + 1 + 1) 81 #[.int .i64 f.id, .int .i64 f.x, .int .i64 f.y, .int .i64 f.w, .int .i64 f.h, .int .i64 f.alpha, .int .i64 f.orient, .bool f.vis, .int .i64 0, .int .i64 0, .slice none 0 0] := BkAt.newAt (by simp) _ _
 have hZ : BkAt (((w.alloc (.cells #[.int .i64 f.id, .int .i64 f.x, .int .i64 f.y, .int .i64 f.w, .int .i64 f.h, .int .i64 f.alpha, .int .i64 f.orient, .bool f.vis, .int .i64 f.bw, .int .i64 f.bh, d] 141)).alloc (.cells #[.int .i64 0, .int .i64 0, .int .i64 0, .int .i64 0, .int .i64 0, .int .i64 0, .int .i64 0, .bool false, .int .i64 0, .int .i64 0, .slice none 0 0] 81)).alloc (.cells #[.int .i64 f.id, .int .i64 f.x, .int .i64 f.y, .int .i64 f.w, .int .i64 f.h, .int .i64 f.alpha, .int .i64 f.orient, .bool f.vis, .int .i64 0, .int .i64 0, .slice none 0 0] 81)) (w.heap.size + 1) 81 #[.int .i64 0, .int .i64 0, .int .i64 0, .int .i64 0, .int .i64 0, .int .i64 0, .int .i64 0, .bool false, .int .i64 0, .int .i64 0, .slice none 0 0] := BkAt.alloc (BkAt.newAt (by simp) _ _) _
 obtain ⟨W0, hW0⟩ : ∃ W, W = (((w.alloc (.cells #[.int .i64 f.id, .int .i64 f.x, .int .i64 f.y, .int .i64 f.w, .int .i64 f.h, .int .i64 f.alpha, .int .i64 f.orient, .bool f.vis, .int .i64 f.bw, .int .i64 f.bh, d] 141)).alloc (.cells #[.int .i64 0, .int .i64 0, .int .i64 0, .int .i64 0, .int .i64 0, .int .i64 0, .int .i64 0, .bool false, .int .i64 0, .int .i64 0, .slice none 0 0] 81)).alloc (.cells #[.int .i64 f.id, .int .i64 f.x, .int .i64 f.y, .int .i64 f.w, .int .i64 f.h, .int .i64 f.alpha, .int .i64 f.orient, .bool f.vis, .int .i64 0, .int .i64 0, .slice none 0 0] 81)) := ⟨_, rfl⟩
 rw [← hW0] at hB hI hZ
 have HW := Lib.hid hW0
 clear hW0
 have hR := h.call hB
 have HI := Lib.hid hI
 have HZ := Lib.hid hZ
 have HB := Lib.hid hB
 have HR := Lib.hid hR
 have Hm := Lib.hid hm
 obtain ⟨A0, c0, rfl⟩ := h.form
 clear hm h hI hZ hB hR
 go_enter Try.func123, Try.ntmps123
 go_wp2_with fail
 rw [← HW.out]
 refine (toIm f.bw f.bh _ f.data _ Hm.out HR.out).mono ?_
 rintro e w1 ⟨u, rfl, hown, hb1⟩
 have hI := HI.out.call hb1
 have hZ := HZ.out.call hb1
 have hB := belI_call HB.out hb1
 have hlo := HI.out.lt
 obtain ⟨A, c, hu⟩ := ownI_shape hown
 subst hu
 have hown := hown.mono (show w.heap.size + 3 ≤ _ by omega)
 have Hown := Lib.hid hown
 clear hown hb1 hlo HI HZ HR HB
 have a0 := hI.cell 0 rfl
 have a1 := hI.cell 1 rfl
 have a2 := hI.cell 2 rfl
 have a3 := hI.cell 3 rfl
 have a4 := hI.cell 4 rfl
 have a5 := hI.cell 5 rfl
 have a6 := hI.cell 6 rfl
 have a7 := hI.cell 7 rfl
 have a8 := hI.cell 8 rfl
 have a9 := hI.cell 9 rfl
 have a10 := hI.cell 10 rfl
 have fa8 := hI.frozen 8
 have fa9 := hI.frozen 9
 have fa10 := hI.frozen 10
 have b0 := hZ.cell 0 rfl
 have fb0 := hZ.frozen 0
 have b1 := hZ.cell 1 rfl
 have fb1 := hZ.frozen 1
 have b2 := hZ.cell 2 rfl
 have fb2 := hZ.frozen 2
 have b3 := hZ.cell 3 rfl
 have fb3 := hZ.frozen 3
 have b4 := hZ.cell 4 rfl
 have fb4 := hZ.frozen 4
 have b5 := hZ.cell 5 rfl
 have fb5 := hZ.frozen 5
 have b6 := hZ.cell 6 rfl
 have fb6 := hZ.frozen 6
 have b7 := hZ.cell 7 rfl
 have fb7 := hZ.frozen 7
 have b8 := hZ.cell 8 rfl
 have fb8 := hZ.frozen 8
 have b9 := hZ.cell 9 rfl
 have fb9 := hZ.frozen 9
 have b10 := hZ.cell 10 rfl
 have fb10 := hZ.frozen 10
 have HI := Lib.hid hI
 have HZ := Lib.hid hZ
 have HB := Lib.hid hB
 clear hI hZ hB
 go_wp2_with fail
 have hJ0 := HZ.out
 have hC0 : Chg w1 w1 [w.heap.size + 1, w.heap.size + 1 + 1] := Chg.refl _ _
 have hJ1 : BkAt (w1.setCell ⟨w.heap.size + 1 + 1, 8, none⟩ (.int .i64 f.bw)) (w.heap.size + 1) 81 #[.int .i64 0, .int .i64 0, .int .i64 0, .int .i64 0, .int .i64 0, .int .i64 0, .int .i64 0, .bool false, .int .i64 0, .int .i64 0, .slice none 0 0] := BkAt.far hJ0 (by dsimp only; omega) _
 have hC1 : Chg w1 (w1.setCell ⟨w.heap.size + 1 + 1, 8, none⟩ (.int .i64 f.bw)) [w.heap.size + 1, w.heap.size + 1 + 1] := hC0.trans (Chg.setB _ _ _ _ _ (by simp))
 clear hJ0 hC0
 have hJ2 : BkAt ((w1.setCell ⟨w.heap.size + 1 + 1, 8, none⟩ (.int .i64 f.bw)).setCell ⟨w.heap.size + 1 + 1, 9, none⟩ (.int .i64 f.bh)) (w.heap.size + 1) 81 #[.int .i64 0, .int .i64 0, .int .i64 0, .int .i64 0, .int .i64 0, .int .i64 0, .int .i64 0, .bool false, .int .i64 0, .int .i64 0, .slice none 0 0] := BkAt.far hJ1 (by dsimp only; omega) _
 have hC2 : Chg w1 ((w1.setCell ⟨w.heap.size + 1 + 1, 8, none⟩ (.int .i64 f.bw)).setCell ⟨w.heap.size + 1 + 1, 9, none⟩ (.int .i64 f.bh)) [w.heap.size + 1, w.heap.size + 1 + 1] := hC1.trans (Chg.setB _ _ _ _ _ (by simp))
 clear hJ1 hC1
 have hJ3 : BkAt (((w1.setCell ⟨w.heap.size + 1 + 1, 8, none⟩ (.int .i64 f.bw)).setCell ⟨w.heap.size + 1 + 1, 9, none⟩ (.int .i64 f.bh)).setCell ⟨w.heap.size + 1 + 1, 10, none⟩ (.slice A f.data.length c)) (w.heap.size + 1) 81 #[.int .i64 0, .int .i64 0, .int .i64 0, .int .i64 0, .int .i64 0, .int .i64 0, .int .i64 0, .bool false, .int .i64 0, .int .i64 0, .slice none 0 0] := BkAt.far hJ2 (by dsimp only; omega) _
 have hC3 : Chg w1 (((w1.setCell ⟨w.heap.size + 1 + 1, 8, none⟩ (.int .i64 f.bw)).setCell ⟨w.heap.size + 1 + 1, 9, none⟩ (.int .i64 f.bh)).setCell ⟨w.heap.size + 1 + 1, 10, none⟩ (.slice A f.data.length c)) [w.heap.size + 1, w.heap.size + 1 + 1] := hC2.trans (Chg.setB _ _ _ _ _ (by simp))
 clear hJ2 hC2
 have hJ4 : BkAt ((((w1.setCell ⟨w.heap.size + 1 + 1, 8, none⟩ (.int .i64 f.bw)).setCell ⟨w.heap.size + 1 + 1, 9, none⟩ (.int .i64 f.bh)).setCell ⟨w.heap.size + 1 + 1, 10, none⟩ (.slice A f.data.length c)).setCell ⟨w.heap.size + 1, 0, none⟩ (.int .i64 f.id)) (w.heap.size + 1) 81 #[.int .i64 f.id, .int .i64 0, .int .i64 0, .int .i64 0, .int .i64 0, .int .i64 0, .int .i64 0, .bool false, .int .i64 0, .int .i64 0, .slice none 0 0] := BkAt.put hJ3 0 _ (by simp only [List.setIfInBounds_toArray, List.set_cons_zero])
 have hC4 : Chg w1 ((((w1.setCell ⟨w.heap.size + 1 + 1, 8, none⟩ (.int .i64 f.bw)).setCell ⟨w.heap.size + 1 + 1, 9, none⟩ (.int .i64 f.bh)).setCell ⟨w.heap.size + 1 + 1, 10, none⟩ (.slice A f.data.length c)).setCell ⟨w.heap.size + 1, 0, none⟩ (.int .i64 f.id)) [w.heap.size + 1, w.heap.size + 1 + 1] := hC3.trans (Chg.setB _ _ _ _ _ (by simp))
 clear hJ3 hC3
 have hJ5 : BkAt (((((w1.setCell ⟨w.heap.size + 1 + 1, 8, none⟩ (.int .i64 f.bw)).setCell ⟨w.heap.size + 1 + 1, 9, none⟩ (.int .i64 f.bh)).setCell ⟨w.heap.size + 1 + 1, 10, none⟩ (.slice A f.data.length c)).setCell ⟨w.heap.size + 1, 0, none⟩ (.int .i64 f.id)).setCell ⟨w.heap.size + 1, 1, none⟩ (.int .i64 f.x)) (w.heap.size + 1) 81 #[.int .i64 f.id, .int .i64 f.x, .int .i64 0, .int .i64 0, .int .i64 0, .int .i64 0, .int .i64 0, .bool false, .int .i64 0, .int .i64 0, .slice none 0 0] := BkAt.put hJ4 1 _ (by simp only [List.setIfInBounds_toArray, List.set_cons_zero, List.set_cons_succ])
 have hC5 : Chg w1 (((((w1.setCell ⟨w.heap.size + 1 + 1, 8, none⟩ (.int .i64 f.bw)).setCell ⟨w.heap.size + 1 + 1, 9, none⟩ (.int .i64 f.bh)).setCell ⟨w.heap.size + 1 + 1, 10, none⟩ (.slice A f.data.length c)).setCell ⟨w.heap.size + 1, 0, none⟩ (.int .i64 f.id)).setCell ⟨w.heap.size + 1, 1, none⟩ (.int .i64 f.x)) [w.heap.size + 1, w.heap.size + 1 + 1] := hC4.trans (Chg.setB _ _ _ _ _ (by simp))
 clear hJ4 hC4
 have hJ6 : BkAt ((((((w1.setCell ⟨w.heap.size + 1 + 1, 8, none⟩ (.int .i64 f.bw)).setCell ⟨w.heap.size + 1 + 1, 9, none⟩ (.int .i64 f.bh)).setCell ⟨w.heap.size + 1 + 1, 10, none⟩ (.slice A f.data.length c)).setCell ⟨w.heap.size + 1, 0, none⟩ (.int .i64 f.id)).setCell ⟨w.heap.size + 1, 1, none⟩ (.int .i64 f.x)).setCell ⟨w.heap.size + 1, 2, none⟩ (.int .i64 f.y)) (w.heap.size + 1) 81 #[.int .i64 f.id, .int .i64 f.x, .int .i64 f.y, .int .i64 0, .int .i64 0, .int .i64 0, .int .i64 0, .bool false, .int .i64 0, .int .i64 0, .slice none 0 0] := BkAt.put hJ5 2 _ (by simp only [List.setIfInBounds_toArray, List.set_cons_zero, List.set_cons_succ])
 have hC6 : Chg w1 ((((((w1.setCell ⟨w.heap.size + 1 + 1, 8, none⟩ (.int .i64 f.bw)).setCell ⟨w.heap.size + 1 + 1, 9, none⟩ (.int .i64 f.bh)).setCell ⟨w.heap.size + 1 + 1, 10, none⟩ (.slice A f.data.length c)).setCell ⟨w.heap.size + 1, 0, none⟩ (.int .i64 f.id)).setCell ⟨w.heap.size + 1, 1, none⟩ (.int .i64 f.x)).setCell ⟨w.heap.size + 1, 2, none⟩ (.int .i64 f.y)) [w.heap.size + 1, w.heap.size + 1 + 1] := hC5.trans (Chg.setB _ _ _ _ _ (by simp))
 clear hJ5 hC5
 have hJ7 : BkAt (((((((w1.setCell ⟨w.heap.size + 1 + 1, 8, none⟩ (.int .i64 f.bw)).setCell ⟨w.heap.size + 1 + 1, 9, none⟩ (.int .i64 f.bh)).setCell ⟨w.heap.size + 1 + 1, 10, none⟩ (.slice A f.data.length c)).setCell ⟨w.heap.size + 1, 0, none⟩ (.int .i64 f.id)).setCell ⟨w.heap.size + 1, 1, none⟩ (.int .i64 f.x)).setCell ⟨w.heap.size + 1, 2, none⟩ (.int .i64 f.y)).setCell ⟨w.heap.size + 1, 3, none⟩ (.int .i64 f.w)) (w.heap.size + 1) 81 #[.int .i64 f.id, .int .i64 f.x, .int .i64 f.y, .int .i64 f.w, .int .i64 0, .int .i64 0, .int .i64 0, .bool false, .int .i64 0, .int .i64 0, .slice none 0 0] := BkAt.put hJ6 3 _ (by simp only [List.setIfInBounds_toArray, List.set_cons_zero, List.set_cons_succ])
 have hC7 : Chg w1 (((((((w1.setCell ⟨w.heap.size + 1 + 1, 8, none⟩ (.int .i64 f.bw)).setCell ⟨w.heap.size + 1 + 1, 9, none⟩ (.int .i64 f.bh)).setCell ⟨w.heap.size + 1 + 1, 10, none⟩ (.slice A f.data.length c)).setCell ⟨w.heap.size + 1, 0, none⟩ (.int .i64 f.id)).setCell ⟨w.heap.size + 1, 1, none⟩ (.int .i64 f.x)).setCell ⟨w.heap.size + 1, 2, none⟩ (.int .i64 f.y)).setCell ⟨w.heap.size + 1, 3, none⟩ (.int .i64 f.w)) [w.heap.size + 1, w.heap.size + 1 + 1] := hC6.trans (Chg.setB _ _ _ _ _ (by simp))
 clear hJ6 hC6
 have hJ8 : BkAt ((((((((w1.setCell ⟨w.heap.size + 1 + 1, 8, none⟩ (.int .i64 f.bw)).setCell ⟨w.heap.size + 1 + 1, 9, none⟩ (.int .i64 f.bh)).setCell ⟨w.heap.size + 1 + 1, 10, none⟩ (.slice A f.data.length c)).setCell ⟨w.heap.size + 1, 0, none⟩ (.int .i64 f.id)).setCell ⟨w.heap.size + 1, 1, none⟩ (.int .i64 f.x)).setCell ⟨w.heap.size + 1, 2, none⟩ (.int .i64 f.y)).setCell ⟨w.heap.size + 1, 3, none⟩ (.int .i64 f.w)).setCell ⟨w.heap.size + 1, 4, none⟩ (.int .i64 f.h)) (w.heap.size + 1) 81 #[.int .i64 f.id, .int .i64 f.x, .int .i64 f.y, .int .i64 f.w, .int .i64 f.h, .int .i64 0, .int .i64 0, .bool false, .int .i64 0, .int .i64 0, .slice none 0 0] := BkAt.put hJ7 4 _ (by simp only [List.setIfInBounds_toArray, List.set_cons_zero, List.set_cons_succ])
 have hC8 : Chg w1 ((((((((w1.setCell ⟨w.heap.size + 1 + 1, 8, none⟩ (.int .i64 f.bw)).setCell ⟨w.heap.size + 1 + 1, 9, none⟩ (.int .i64 f.bh)).setCell ⟨w.heap.size + 1 + 1, 10, none⟩ (.slice A f.data.length c)).setCell ⟨w.heap.size + 1, 0, none⟩ (.int .i64 f.id)).setCell ⟨w.heap.size + 1, 1, none⟩ (.int .i64 f.x)).setCell ⟨w.heap.size + 1, 2, none⟩ (.int .i64 f.y)).setCell ⟨w.heap.size + 1, 3, none⟩ (.int .i64 f.w)).setCell ⟨w.heap.size + 1, 4, none⟩ (.int .i64 f.h)) [w.heap.size + 1, w.heap.size + 1 + 1] := hC7.trans (Chg.setB _ _ _ _ _ (by simp))
 clear hJ7 hC7
 have hJ9 : BkAt (((((((((w1.setCell ⟨w.heap.size + 1 + 1, 8, none⟩ (.int .i64 f.bw)).setCell ⟨w.heap.size + 1 + 1, 9, none⟩ (.int .i64 f.bh)).setCell ⟨w.heap.size + 1 + 1, 10, none⟩ (.slice A f.data.length c)).setCell ⟨w.heap.size + 1, 0, none⟩ (.int .i64 f.id)).setCell ⟨w.heap.size + 1, 1, none⟩ (.int .i64 f.x)).setCell ⟨w.heap.size + 1, 2, none⟩ (.int .i64 f.y)).setCell ⟨w.heap.size + 1, 3, none⟩ (.int .i64 f.w)).setCell ⟨w.heap.size + 1, 4, none⟩ (.int .i64 f.h)).setCell ⟨w.heap.size + 1, 5, none⟩ (.int .i64 f.alpha)) (w.heap.size + 1) 81 #[.int .i64 f.id, .int .i64 f.x, .int .i64 f.y, .int .i64 f.w, .int .i64 f.h, .int .i64 f.alpha, .int .i64 0, .bool false, .int .i64 0, .int .i64 0, .slice none 0 0] := BkAt.put hJ8 5 _ (by simp only [List.setIfInBounds_toArray, List.set_cons_zero, List.set_cons_succ])
 have hC9 : Chg w1 (((((((((w1.setCell ⟨w.heap.size + 1 + 1, 8, none⟩ (.int .i64 f.bw)).setCell ⟨w.heap.size + 1 + 1, 9, none⟩ (.int .i64 f.bh)).setCell ⟨w.heap.size + 1 + 1, 10, none⟩ (.slice A f.data.length c)).setCell ⟨w.heap.size + 1, 0, none⟩ (.int .i64 f.id)).setCell ⟨w.heap.size + 1, 1, none⟩ (.int .i64 f.x)).setCell ⟨w.heap.size + 1, 2, none⟩ (.int .i64 f.y)).setCell ⟨w.heap.size + 1, 3, none⟩ (.int .i64 f.w)).setCell ⟨w.heap.size + 1, 4, none⟩ (.int .i64 f.h)).setCell ⟨w.heap.size + 1, 5, none⟩ (.int .i64 f.alpha)) [w.heap.size + 1, w.heap.size + 1 + 1] := hC8.trans (Chg.setB _ _ _ _ _ (by simp))
 clear hJ8 hC8
 have hJ10 : BkAt ((((((((((w1.setCell ⟨w.heap.size + 1 + 1, 8, none⟩ (.int .i64 f.bw)).setCell ⟨w.heap.size + 1 + 1, 9, none⟩ (.int .i64 f.bh)).setCell ⟨w.heap.size + 1 + 1, 10, none⟩ (.slice A f.data.length c)).setCell ⟨w.heap.size + 1, 0, none⟩ (.int .i64 f.id)).setCell ⟨w.heap.size + 1, 1, none⟩ (.int .i64 f.x)).setCell ⟨w.heap.size + 1, 2, none⟩ (.int .i64 f.y)).setCell ⟨w.heap.size + 1, 3, none⟩ (.int .i64 f.w)).setCell ⟨w.heap.size + 1, 4, none⟩ (.int .i64 f.h)).setCell ⟨w.heap.size + 1, 5, none⟩ (.int .i64 f.alpha)).setCell ⟨w.heap.size + 1, 6, none⟩ (.int .i64 f.orient)) (w.heap.size + 1) 81 #[.int .i64 f.id, .int .i64 f.x, .int .i64 f.y, .int .i64 f.w, .int .i64 f.h, .int .i64 f.alpha, .int .i64 f.orient, .bool false, .int .i64 0, .int .i64 0, .slice none 0 0] := BkAt.put hJ9 6 _ (by simp only [List.setIfInBounds_toArray, List.set_cons_zero, List.set_cons_succ])
 have hC10 : Chg w1 ((((((((((w1.setCell ⟨w.heap.size + 1 + 1, 8, none⟩ (.int .i64 f.bw)).setCell ⟨w.heap.size + 1 + 1, 9, none⟩ (.int .i64 f.bh)).setCell ⟨w.heap.size + 1 + 1, 10, none⟩ (.slice A f.data.length c)).setCell ⟨w.heap.size + 1, 0, none⟩ (.int .i64 f.id)).setCell ⟨w.heap.size + 1, 1, none⟩ (.int .i64 f.x)).setCell ⟨w.heap.size + 1, 2, none⟩ (.int .i64 f.y)).setCell ⟨w.heap.size + 1, 3, none⟩ (.int .i64 f.w)).setCell ⟨w.heap.size + 1, 4, none⟩ (.int .i64 f.h)).setCell ⟨w.heap.size + 1, 5, none⟩ (.int .i64 f.alpha)).setCell ⟨w.heap.size + 1, 6, none⟩ (.int .i64 f.orient)) [w.heap.size + 1, w.heap.size + 1 + 1] := hC9.trans (Chg.setB _ _ _ _ _ (by simp))
 clear hJ9 hC9
 have hJ11 : BkAt (((((((((((w1.setCell ⟨w.heap.size + 1 + 1, 8, none⟩ (.int .i64 f.bw)).setCell ⟨w.heap.size + 1 + 1, 9, none⟩ (.int .i64 f.bh)).setCell ⟨w.heap.size + 1 + 1, 10, none⟩ (.slice A f.data.length c)).setCell ⟨w.heap.size + 1, 0, none⟩ (.int .i64 f.id)).setCell ⟨w.heap.size + 1, 1, none⟩ (.int .i64 f.x)).setCell ⟨w.heap.size + 1, 2, none⟩ (.int .i64 f.y)).setCell ⟨w.heap.size + 1, 3, none⟩ (.int .i64 f.w)).setCell ⟨w.heap.size + 1, 4, none⟩ (.int .i64 f.h)).setCell ⟨w.heap.size + 1, 5, none⟩ (.int .i64 f.alpha)).setCell ⟨w.heap.size + 1, 6, none⟩ (.int .i64 f.orient)).setCell ⟨w.heap.size + 1, 7, none⟩ (.bool f.vis)) (w.heap.size + 1) 81 #[.int .i64 f.id, .int .i64 f.x, .int .i64 f.y, .int .i64 f.w, .int .i64 f.h, .int .i64 f.alpha, .int .i64 f.orient, .bool f.vis, .int .i64 0, .int .i64 0, .slice none 0 0] := BkAt.put hJ10 7 _ (by simp only [List.setIfInBounds_toArray, List.set_cons_zero, List.set_cons_succ])
 have hC11 : Chg w1 (((((((((((w1.setCell ⟨w.heap.size + 1 + 1, 8, none⟩ (.int .i64 f.bw)).setCell ⟨w.heap.size + 1 + 1, 9, none⟩ (.int .i64 f.bh)).setCell ⟨w.heap.size + 1 + 1, 10, none⟩ (.slice A f.data.length c)).setCell ⟨w.heap.size + 1, 0, none⟩ (.int .i64 f.id)).setCell ⟨w.heap.size + 1, 1, none⟩ (.int .i64 f.x)).setCell ⟨w.heap.size + 1, 2, none⟩ (.int .i64 f.y)).setCell ⟨w.heap.size + 1, 3, none⟩ (.int .i64 f.w)).setCell ⟨w.heap.size + 1, 4, none⟩ (.int .i64 f.h)).setCell ⟨w.heap.size + 1, 5, none⟩ (.int .i64 f.alpha)).setCell ⟨w.heap.size + 1, 6, none⟩ (.int .i64 f.orient)).setCell ⟨w.heap.size + 1, 7, none⟩ (.bool f.vis)) [w.heap.size + 1, w.heap.size + 1 + 1] := hC10.trans (Chg.setB _ _ _ _ _ (by simp))
 clear hJ10 hC10
 have hJ12 : BkAt ((((((((((((w1.setCell ⟨w.heap.size + 1 + 1, 8, none⟩ (.int .i64 f.bw)).setCell ⟨w.heap.size + 1 + 1, 9, none⟩ (.int .i64 f.bh)).setCell ⟨w.heap.size + 1 + 1, 10, none⟩ (.slice A f.data.length c)).setCell ⟨w.heap.size + 1, 0, none⟩ (.int .i64 f.id)).setCell ⟨w.heap.size + 1, 1, none⟩ (.int .i64 f.x)).setCell ⟨w.heap.size + 1, 2, none⟩ (.int .i64 f.y)).setCell ⟨w.heap.size + 1, 3, none⟩ (.int .i64 f.w)).setCell ⟨w.heap.size + 1, 4, none⟩ (.int .i64 f.h)).setCell ⟨w.heap.size + 1, 5, none⟩ (.int .i64 f.alpha)).setCell ⟨w.heap.size + 1, 6, none⟩ (.int .i64 f.orient)).setCell ⟨w.heap.size + 1, 7, none⟩ (.bool f.vis)).setCell ⟨w.heap.size + 1, 8, none⟩ (.int .i64 f.bw)) (w.heap.size + 1) 81 #[.int .i64 f.id, .int .i64 f.x, .int .i64 f.y, .int .i64 f.w, .int .i64 f.h, .int .i64 f.alpha, .int .i64 f.orient, .bool f.vis, .int .i64 f.bw, .int .i64 0, .slice none 0 0] := BkAt.put hJ11 8 _ (by simp only [List.setIfInBounds_toArray, List.set_cons_zero, List.set_cons_succ])
 have hC12 : Chg w1 ((((((((((((w1.setCell ⟨w.heap.size + 1 + 1, 8, none⟩ (.int .i64 f.bw)).setCell ⟨w.heap.size + 1 + 1, 9, none⟩ (.int .i64 f.bh)).setCell ⟨w.heap.size + 1 + 1, 10, none⟩ (.slice A f.data.length c)).setCell ⟨w.heap.size + 1, 0, none⟩ (.int .i64 f.id)).setCell ⟨w.heap.size + 1, 1, none⟩ (.int .i64 f.x)).setCell ⟨w.heap.size + 1, 2, none⟩ (.int .i64 f.y)).setCell ⟨w.heap.size + 1, 3, none⟩ (.int .i64 f.w)).setCell ⟨w.heap.size + 1, 4, none⟩ (.int .i64 f.h)).setCell ⟨w.heap.size + 1, 5, none⟩ (.int .i64 f.alpha)).setCell ⟨w.heap.size + 1, 6, none⟩ (.int .i64 f.orient)).setCell ⟨w.heap.size + 1, 7, none⟩ (.bool f.vis)).setCell ⟨w.heap.size + 1, 8, none⟩ (.int .i64 f.bw)) [w.heap.size + 1, w.heap.size + 1 + 1] := hC11.trans (Chg.setB _ _ _ _ _ (by simp))
 clear hJ11 hC11
 have hJ13 : BkAt (((((((((((((w1.setCell ⟨w.heap.size + 1 + 1, 8, none⟩ (.int .i64 f.bw)).setCell ⟨w.heap.size + 1 + 1, 9, none⟩ (.int .i64 f.bh)).setCell ⟨w.heap.size + 1 + 1, 10, none⟩ (.slice A f.data.length c)).setCell ⟨w.heap.size + 1, 0, none⟩ (.int .i64 f.id)).setCell ⟨w.heap.size + 1, 1, none⟩ (.int .i64 f.x)).setCell ⟨w.heap.size + 1, 2, none⟩ (.int .i64 f.y)).setCell ⟨w.heap.size + 1, 3, none⟩ (.int .i64 f.w)).setCell ⟨w.heap.size + 1, 4, none⟩ (.int .i64 f.h)).setCell ⟨w.heap.size + 1, 5, none⟩ (.int .i64 f.alpha)).setCell ⟨w.heap.size + 1, 6, none⟩ (.int .i64 f.orient)).setCell ⟨w.heap.size + 1, 7, none⟩ (.bool f.vis)).setCell ⟨w.heap.size + 1, 8, none⟩ (.int .i64 f.bw)).setCell ⟨w.heap.size + 1, 9, none⟩ (.int .i64 f.bh)) (w.heap.size + 1) 81 #[.int .i64 f.id, .int .i64 f.x, .int .i64 f.y, .int .i64 f.w, .int .i64 f.h, .int .i64 f.alpha, .int .i64 f.orient, .bool f.vis, .int .i64 f.bw, .int .i64 f.bh, .slice none 0 0] := BkAt.put hJ12 9 _ (by simp only [List.setIfInBounds_toArray, List.set_cons_zero, List.set_cons_succ])
 have hC13 : Chg w1 (((((((((((((w1.setCell ⟨w.heap.size + 1 + 1, 8, none⟩ (.int .i64 f.bw)).setCell ⟨w.heap.size + 1 + 1, 9, none⟩ (.int .i64 f.bh)).setCell ⟨w.heap.size + 1 + 1, 10, none⟩ (.slice A f.data.length c)).setCell ⟨w.heap.size + 1, 0, none⟩ (.int .i64 f.id)).setCell ⟨w.heap.size + 1, 1, none⟩ (.int .i64 f.x)).setCell ⟨w.heap.size + 1, 2, none⟩ (.int .i64 f.y)).setCell ⟨w.heap.size + 1, 3, none⟩ (.int .i64 f.w)).setCell ⟨w.heap.size + 1, 4, none⟩ (.int .i64 f.h)).setCell ⟨w.heap.size + 1, 5, none⟩ (.int .i64 f.alpha)).setCell ⟨w.heap.size + 1, 6, none⟩ (.int .i64 f.orient)).setCell ⟨w.heap.size + 1, 7, none⟩ (.bool f.vis)).setCell ⟨w.heap.size + 1, 8, none⟩ (.int .i64 f.bw)).setCell ⟨w.heap.size + 1, 9, none⟩ (.int .i64 f.bh)) [w.heap.size + 1, w.heap.size + 1 + 1] := hC12.trans (Chg.setB _ _ _ _ _ (by simp))
 clear hJ12 hC12
 have hJ14 : BkAt ((((((((((((((w1.setCell ⟨w.heap.size + 1 + 1, 8, none⟩ (.int .i64 f.bw)).setCell ⟨w.heap.size + 1 + 1, 9, none⟩ (.int .i64 f.bh)).setCell ⟨w.heap.size + 1 + 1, 10, none⟩ (.slice A f.data.length c)).setCell ⟨w.heap.size + 1, 0, none⟩ (.int .i64 f.id)).setCell ⟨w.heap.size + 1, 1, none⟩ (.int .i64 f.x)).setCell ⟨w.heap.size + 1, 2, none⟩ (.int .i64 f.y)).setCell ⟨w.heap.size + 1, 3, none⟩ (.int .i64 f.w)).setCell ⟨w.heap.size + 1, 4, none⟩ (.int .i64 f.h)).setCell ⟨w.heap.size + 1, 5, none⟩ (.int .i64 f.alpha)).setCell ⟨w.heap.size + 1, 6, none⟩ (.int .i64 f.orient)).setCell ⟨w.heap.size + 1, 7, none⟩ (.bool f.vis)).setCell ⟨w.heap.size + 1, 8, none⟩ (.int .i64 f.bw)).setCell ⟨w.heap.size + 1, 9, none⟩ (.int .i64 f.bh)).setCell ⟨w.heap.size + 1, 10, none⟩ (.slice A f.data.length c)) (w.heap.size + 1) 81 #[.int .i64 f.id, .int .i64 f.x, .int .i64 f.y, .int .i64 f.w, .int .i64 f.h, .int .i64 f.alpha, .int .i64 f.orient, .bool f.vis, .int .i64 f.bw, .int .i64 f.bh, .slice A f.data.length c] := BkAt.put hJ13 10 _ (by simp only [List.setIfInBounds_toArray, List.set_cons_zero, List.set_cons_succ])
 have hC14 : Chg w1 ((((((((((((((w1.setCell ⟨w.heap.size + 1 + 1, 8, none⟩ (.int .i64 f.bw)).setCell ⟨w.heap.size + 1 + 1, 9, none⟩ (.int .i64 f.bh)).setCell ⟨w.heap.size + 1 + 1, 10, none⟩ (.slice A f.data.length c)).setCell ⟨w.heap.size + 1, 0, none⟩ (.int .i64 f.id)).setCell ⟨w.heap.size + 1, 1, none⟩ (.int .i64 f.x)).setCell ⟨w.heap.size + 1, 2, none⟩ (.int .i64 f.y)).setCell ⟨w.heap.size + 1, 3, none⟩ (.int .i64 f.w)).setCell ⟨w.heap.size + 1, 4, none⟩ (.int .i64 f.h)).setCell ⟨w.heap.size + 1, 5, none⟩ (.int .i64 f.alpha)).setCell ⟨w.heap.size + 1, 6, none⟩ (.int .i64 f.orient)).setCell ⟨w.heap.size + 1, 7, none⟩ (.bool f.vis)).setCell ⟨w.heap.size + 1, 8, none⟩ (.int .i64 f.bw)).setCell ⟨w.heap.size + 1, 9, none⟩ (.int .i64 f.bh)).setCell ⟨w.heap.size + 1, 10, none⟩ (.slice A f.data.length c)) [w.heap.size + 1, w.heap.size + 1 + 1] := hC13.trans (Chg.setB _ _ _ _ _ (by simp))
 clear hJ13 hC13
 have x0 := hJ14.cell 0 rfl
 have x1 := hJ14.cell 1 rfl
 have x2 := hJ14.cell 2 rfl
 have x3 := hJ14.cell 3 rfl
 have x4 := hJ14.cell 4 rfl
 have x5 := hJ14.cell 5 rfl
 have x6 := hJ14.cell 6 rfl
 have x7 := hJ14.cell 7 rfl
 have x8 := hJ14.cell 8 rfl
 have x9 := hJ14.cell 9 rfl
 have x10 := hJ14.cell 10 rfl
 have hown := own_chg Hown.out hC14 (fun b hb => by rcases mem2 hb with rfl | rfl <;> omega)
 have hbel := hC14.below HB.out HB.out.size (fun b hb => by rcases mem2 hb with rfl | rfl <;> omega)
 exact bodyPost_ret (v := .agg #[.int .i64 f.id, .int .i64 f.x, .int .i64 f.y, .int .i64 f.w, .int .i64 f.h, .int .i64 f.alpha, .int .i64 f.orient, .bool f.vis, .int .i64 f.bw, .int .i64 f.bh, .slice A f.data.length c]) (by simp [results, Try.results123, go_sem, x0, x1, x2, x3, x4, x5, x6, x7, x8, x9, x10]) rfl ⟨_, rfl, hown.mono (by omega), hbel⟩
set_option maxHeartbeats 1000000 in
set_option maxRecDepth 10000 in
theorem eqSf_same (f : Sf) (d e : Value) (w : World) (hd : RdI w d f.data) (he : RdI w e f.data) :
  Calls Try.prog 127 #[.agg #[.int .i64 f.id, .int .i64 f.x, .int .i64 f.y, .int .i64 f.w, .int .i64 f.h, .int .i64 f.alpha, .int .i64 f.orient, .bool f.vis, .int .i64 f.bw, .int .i64 f.bh, d], .agg #[.int .i64 f.id, .int .i64 f.x, .int .i64 f.y, .int .i64 f.w, .int .i64 f.h, .int .i64 f.alpha, .int .i64 f.orient, .bool f.vis, .int .i64 f.bw, .int .i64 f.bh, e]] w fun e w' => e = .returned (.bool true) ∧ Below w.heap.size w w' := by
 have HB := Lib.hid (belI_call (belI_box w (.cells #[.int .i64 f.id, .int .i64 f.x, .int .i64 f.y, .int .i64 f.w, .int .i64 f.h, .int .i64 f.alpha, .int .i64 f.orient, .bool f.vis, .int .i64 f.bw, .int .i64 f.bh, d] 81)) (belI_box _ (.cells #[.int .i64 f.id, .int .i64 f.x, .int .i64 f.y, .int .i64 f.w, .int .i64 f.h, .int .i64 f.alpha, .int .i64 f.orient, .bool f.vis, .int .i64 f.bw, .int .i64 f.bh, e] 81)))
 have H1 := Lib.hid (hd.call HB.out)
 have H2 := Lib.hid (he.call HB.out)
 obtain ⟨A, c, rfl⟩ := hd.form
 obtain ⟨A', c', rfl⟩ := he.form
 clear hd he
 go_enter Try.func127, Try.ntmps127
 go_wp2_with fail
 refine (eqIm_same f.bw f.bh _ _ f.data _ H1.out H2.out).mono ?_
 rintro e w1 ⟨rfl, hb⟩
 go_wp2_with fail
 go_ret
 exact ⟨rfl, belI_call HB.out hb⟩
end Go.Proofs.Ytokniebejilcbaa
