/- The walk of the law FnExactPixelOf: it returns true for every image and every place. -/
import Derived.Test.YtaggldhlnjbnhaaRd
import Derived.Test.YtaggldhlnjbnhaaIntR
import Derived.Test.YtaggldhlnjbnhaaImR
import Derived.Test.YtaggldhlnjbnhaaPixM
import Derived.Test.YtaggldhlnjbnhaaImL
import Derived.Test.YtaggldhlnjbnhaaImV
import Derived.Test.YtaggldhlnjbnhaaBlk4
import Derived.Test.YtaggldhlnjbnhaaHasC
import Derived.Test.YtaggldhlnjbnhaaImP
import Derived.Test.YtaggldhlnjbnhaaProg
import Derived.WalkKit
import Derived.ProofKit
import Derived.OpenShut
import Derived.WalkLawsBesides
import Derived.WalkSpells
import Derived.ShutString
import Derived.ChangeOld
import Derived.Below
import Derived.Lib.Hide
import Derived.BigQuiet
import Derived.Deep.QuietTactic
import Derived.Maps.AppendAt
import Derived.Deep.OwnRows
import Derived.Handy
import Derived.Deep.Draws
import Derived.OwnWalk
import Derived.Deep.AppendLies
import Derived.Deep.LoopGhost
import Derived.Deep.Onto
import Derived.Deep.RegionHeld3
import Derived.Deep.DeepCutAuto
import Derived.Laws.BitsAllLaws
import Derived.Lib.QuoteBits
namespace Go.Proofs.Ytaggldhlnjbnhaa
open Go.RowKit
set_option maxHeartbeats 600000 in
set_option maxRecDepth 10000 in
theorem walk_FnExactPixelOf (X Y : Int) (v : Value) (L : List Int) (x : Int) (_ : (Lit.int .i64 x).wf = true) (y : Int) (_ : (Lit.int .i64 y).wf = true) (w : World) (h : Rd w v L.length (intCells L)) :
    Calls Try.prog 13 #[.agg #[.int .i64 X, .int .i64 Y, v], .int .i64 x, .int .i64 y] w fun e w' => e = .returned (.bool true) ∧ Below w.heap.size w w' := by
  have hA := ImA.born (X := X) (Y := Y) h
  have K := belI_box w (.cells #[.int .i64 X, .int .i64 Y, v] 35)
  obtain ⟨A, c, rfl⟩ := h.form
  have hnm := h.len.2
  obtain ⟨q, hq⟩ : ∃ q, q = pxOf X Y L x y := ⟨_, rfl⟩
  obtain ⟨n, hn⟩ : ∃ n, n = L.length := ⟨_, rfl⟩
  rw [← hn] at hA K hnm ⊢
  clear h
  obtain ⟨a0, a1, a2⟩ := hA.cells
  by_cases hbig : n ≤ 1048576
  · have hn1 : L.length ≤ 1048576 := by rw [← hn]; exact hbig
    have c1 : ¬ ((1048576 : Int) - (n : Int) < 0) := by omega
    have Hn1 := Lib.hid hn1
    have PS := fun v W hv => pxS X Y x y v L W hv
    have PI := fun v W hv => pxI X Y x y v L W hv
    unfold PxAns at PS PI
    rw [← hq] at PS PI
    have HS := Lib.hid PS
    have HI := Lib.hid PI
    clear hn hn1 hq PS PI
    go_enter Try.func13, Try.ntmps13
    go_wp2_with fail
    refine (szIm_yes X Y n A c 1048576 (by omega) (by omega) _).mono ?_
    rintro e w1 ⟨rfl, hb⟩
    have hA := hA.call hb
    have K := belI_call K hb
    clear hb a0 a1 a2
    obtain ⟨a0, a1, a2⟩ := hA.cells
    go_wp2_with fail
    refine (toIm X Y _ L _ Hn1.out hA.rd).mono ?_
    rintro e w2 ⟨v2, rfl, hown, hb⟩
    have hA := hA.call hb
    have K := belI_call K hb
    clear hb a0 a1 a2
    obtain ⟨a0, a1, a2⟩ := hA.cells
    go_wp2_with fail
    refine (HS.out _ _ (RdI.of_own hown)).mono ?_
    rintro e w3 ⟨rfl, hb⟩
    have hA := hA.call hb
    have K := belI_call K hb
    clear hb a0 a1 a2 hown
    obtain ⟨a0, a1, a2⟩ := hA.cells
    go_wp2_with fail
    refine (toIm X Y _ L _ Hn1.out hA.rd).mono ?_
    rintro e w4 ⟨vx, rfl, hown, hb⟩
    obtain ⟨Ax, cx, hvx⟩ := ownI_shape hown
    subst hvx
    have hX := ImV.born (X := X) (Y := Y) hb hown
    have hb := belI_call hb (belI_box w4 (.cells #[.int .i64 X, .int .i64 Y, .slice Ax L.length cx] 28))
    have hA := hA.call hb
    have K := belI_call K hb
    clear hb a0 a1 a2 hown
    obtain ⟨x0, x1, x2⟩ := hX.cells
    go_wp2_with fail
    refine (HI.out _ _ hX.rd).mono ?_
    rintro e w5 ⟨rfl, hb⟩
    have hA := hA.call hb
    have K := belI_call K hb
    have hX := hX.call hb
    clear hb x0 x1 x2
    obtain ⟨x0, x1, x2⟩ := hX.cells
    obtain ⟨a0, a1, a2⟩ := hA.cells
    go_wp2_with fail
    go_region_held3 (fun w' => (w'.cell? ⟨w.heap.size, 0, none⟩ = some (.int .i64 X) ∧ w'.cell? ⟨w.heap.size, 1, none⟩ = some (.int .i64 Y) ∧ w'.cell? ⟨w.heap.size, 2, none⟩ = some (.slice A n c)) ∧
        (w'.cell? ⟨w4.heap.size, 0, none⟩ = some (.int .i64 X) ∧ w'.cell? ⟨w4.heap.size, 1, none⟩ = some (.int .i64 Y) ∧ w'.cell? ⟨w4.heap.size, 2, none⟩ = some (.slice Ax L.length cx)))
      (with_reducible first | exact ⟨hA.cells, hX.cells⟩ | exact ⟨(hA.call (belI_drew _)).cells, (hX.call (belI_drew _)).cells⟩ | fail)
      (first | (go_at_call 30; (with_reducible first | refine (toIm X Y _ L _ Hn1.out hA.rd).mono ?_ | refine (toIm X Y _ L _ Hn1.out (hA.call (belI_drew _)).rd).mono ?_); rintro e wk ⟨v6, rfl, hown6, hb6⟩; (with_reducible first | have K := belI_call K hb6 | have K := belI_call K.drew hb6); (with_reducible first | have hX := hX.call hb6 | have hX := (hX.call (belI_drew _)).call hb6); (with_reducible first | have hA := hA.call hb6 | have hA := (hA.call (belI_drew _)).call hb6)) | (go_at_call 32; (with_reducible refine (eqIm_same X Y _ v6 L _ hX.rd (RdI.of_own hown6)).mono ?_); rintro e wk2 ⟨rfl, hb6⟩; have K := belI_call K hb6; have hX := hX.call hb6; have hA := hA.call hb6))
    go_wp2_with fail
    go_ret
    exact ⟨rfl, K⟩
  · have q1 : (1048576 : Int) < (n : Int) := by omega
    have q0 : (0 : Int) ≤ 1048576 := by omega
    have Hq := Lib.hid q1
    have Hm := Lib.hid hnm
    clear hn hbig q1 hnm hq
    go_enter Try.func13, Try.ntmps13
    go_wp2_with fail
    with_reducible refine (szIm_no X Y n A c Hm.out 1048576 q0 Hq.out _).mono ?_
    rintro e w1 ⟨rfl, hb⟩
    have K := belI_call K hb
    go_wp2_with fail
    go_ret
    exact ⟨rfl, K⟩
end Go.Proofs.Ytaggldhlnjbnhaa
