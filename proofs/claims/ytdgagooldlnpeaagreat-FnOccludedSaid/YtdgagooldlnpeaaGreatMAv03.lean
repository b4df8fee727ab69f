/- Texts of mine in one file: RegM, AreaR, ComP, RegS. No statement is proved here. -/
import Derived.Test.YtdgagooldlnpeaaGreatMA
import Derived.Test.YtdgagooldlnpeaaGreatMAv013
import Derived.Test.YtdgagooldlnpeaaGreatMAv023
import Derived.Test.YtdgagooldlnpeaaGreatProg
import Derived.WalkKit
import Derived.ProofKit
import Derived.OpenShut
import Derived.WalkLawsBesides
import Derived.WalkSpells
import Derived.ShutString
import Derived.ChangeOld
import Derived.Below
import Derived.Lib.Hide
import Derived.BigQuiet
import Derived.Deep.QuietTactic
import Derived.Maps.AppendAt
import Derived.Deep.Draws
import Derived.Deep.MidRow
import Derived.Deep.WholeRow
import Derived.Deep.OwnRows
import Derived.Deep.RegionHeld3
import Derived.Deep.DeepCutAuto
import Derived.Deep.LoopGhost
import Derived.OwnWalk
import Derived.Deep.AppendLies
import Derived.Deep.Onto
import Derived.Laws.AppendOwn
import Derived.Deep.RegionWith
import Derived.Handy
namespace Go.Proofs.YtdgagooldlnpeaaGreat
theorem rowCnt_two (a b : Nat → Bool) (y x : Nat) : rowCnt (fun k => a k || b k) y x + rowCnt (fun k => a k && b k) y x = rowCnt a y x + rowCnt b y x := by
  fun_induction rowCnt a y x with
  | case1 x hx ih =>
    rw [rowCnt.eq_def (fun k => a k || b k), rowCnt.eq_def (fun k => a k && b k), rowCnt.eq_def b, if_pos hx, if_pos hx, if_pos hx]
    rcases ha : a (y * 16 + x) <;> rcases hb : b (y * 16 + x) <;> simp <;> omega
  | case2 x hx =>
    rw [rowCnt.eq_def (fun k => a k || b k), rowCnt.eq_def (fun k => a k && b k), rowCnt.eq_def b, if_neg hx, if_neg hx, if_neg hx]
theorem rowCnt_less (a b : Nat → Bool) (y x : Nat) : rowCnt (fun k => a k && !b k) y x + rowCnt (fun k => a k && b k) y x = rowCnt a y x := by
  fun_induction rowCnt a y x with
  | case1 x hx ih =>
    rw [rowCnt.eq_def (fun k => a k && !b k), rowCnt.eq_def (fun k => a k && b k), if_pos hx, if_pos hx]
    rcases ha : a (y * 16 + x) <;> rcases hb : b (y * 16 + x) <;> simp <;> omega
  | case2 x hx =>
    rw [rowCnt.eq_def (fun k => a k && !b k), rowCnt.eq_def (fun k => a k && b k), if_neg hx, if_neg hx]; rfl
theorem cnt_two (a b : Nat → Bool) (y : Nat) : cntRows (fun k => a k || b k) y + cntRows (fun k => a k && b k) y = cntRows a y + cntRows b y := by
  fun_induction cntRows a y with
  | case1 y hy ih =>
    have := rowCnt_two a b y 0
    rw [cntRows.eq_def (fun k => a k || b k), cntRows.eq_def (fun k => a k && b k), cntRows.eq_def b, if_pos hy, if_pos hy, if_pos hy]; omega
  | case2 y hy =>
    rw [cntRows.eq_def (fun k => a k || b k), cntRows.eq_def (fun k => a k && b k), cntRows.eq_def b, if_neg hy, if_neg hy, if_neg hy]
theorem cnt_less (a b : Nat → Bool) (y : Nat) : cntRows (fun k => a k && !b k) y + cntRows (fun k => a k && b k) y = cntRows a y := by
  fun_induction cntRows a y with
  | case1 y hy ih =>
    have := rowCnt_less a b y 0
    rw [cntRows.eq_def (fun k => a k && !b k), cntRows.eq_def (fun k => a k && b k), if_pos hy, if_pos hy]; omega
  | case2 y hy =>
    rw [cntRows.eq_def (fun k => a k && !b k), cntRows.eq_def (fun k => a k && b k), if_neg hy, if_neg hy]; rfl
end Go.Proofs.YtdgagooldlnpeaaGreat
namespace Go.Proofs.YtdgagooldlnpeaaGreat
open Go.RowKit
set_option maxHeartbeats 1000000 in
set_option maxRecDepth 10000 in
theorem areaS (v : Value) (L : List Rc) (w : World) (h : RdR w v L) :
  Calls Tryz.prog 55 #[.agg #[v]] w fun e w' => e = .returned (.int .i64 (areaR L)) ∧ Below w.heap.size w w' := by
 obtain ⟨A, c, rfl⟩ := h.form
 have hm : L.length ≤ 9223372036854775807 := by have := h.len; unfold maxLen at this; omega
 obtain ⟨n, hn⟩ : ∃ n, n = L.length := ⟨_, rfl⟩
 rw [← hn] at hm h ⊢
 have Hn := Lib.hid hn
 have K := (Below.refl w.heap.size w).alloc (Nat.le_refl _) (.cells #[.slice A n c] 30)
 have hc := new_cell w (.slice A n c) 30
 have H0 := Lib.hid h
 clear h hn
 rcases hk : okL L with _ | _
 ·have Hi : Hid (areaR L = 0) := Lib.hid (by unfold areaR; rw [if_neg (by rw [hk]; simp)])
  have R := fun W hv => rokS (.slice A n c) L W hv
  unfold RokAns at R
  rw [hk] at R
  have HR := Lib.hid R
  clear hk R
  go_enter Tryz.func55, Tryz.ntmps55
  go_wp2_with fail
  go_loopw [3, 4] (fun s i wr => s = .int .i64 0 ∧ i = .int .i64 0 ∧ Below w.heap.size w wr ∧ wr.cell? ⟨w.heap.size, 0, none⟩ = some (.slice A n c)) (fun _ _ _ => 0)
  case atStart => exact ⟨rfl, rfl, K, hc⟩
  case round =>
   clear K hc
   obtain ⟨rfl, rfl, K, hc⟩ := hrel
   by_cases hlt : 0 < n
   ·have hlti : (0 : Int) < (n : Int) := by omega
    go_wp2_with fail
    refine (HR.out _ (H0.out.call K)).mono ?_
    rintro e w1 ⟨rfl, hb⟩
    replace K := below_call K hb
    clear hb hc
    go_wp2_with fail
    go_ret
    exact ⟨ret_int Hi.out.symm, K⟩
   ·have hlti : ¬ (0 : Int) < (n : Int) := by omega
    go_wp2_with fail
    go_ret
    exact ⟨ret_int Hi.out.symm, K⟩
 ·have Hk := Lib.hid hk
  have Hi : Hid (areaR L = areaL L) := Lib.hid (if_pos hk)
  have R := fun W hv => rokS (.slice A n c) L W hv
  unfold RokAns at R
  rw [hk] at R
  have HR := Lib.hid R
  clear hk R
  go_enter Tryz.func55, Tryz.ntmps55
  go_wp2_with fail
  go_loopw [3, 4] (fun s i wr => ∃ (k : Nat) (a : Int), k ≤ n ∧ i = .int .i64 k ∧ s = .int .i64 a ∧ Hid (a = areaL (L.take k)) ∧ Below w.heap.size w wr ∧ wr.cell? ⟨w.heap.size, 0, none⟩ = some (.slice A n c)) (fun _ i _ => n - (intOf i).toNat)
  case atStart => exact ⟨0, 0, Nat.zero_le _, rfl, rfl, Lib.hid (by simp [areaL]), K, hc⟩
  case round =>
   clear K hc
   obtain ⟨k, a, hk, rfl, rfl, Ha, K, hc⟩ := hrel
   by_cases hlt : k < n
   ·have k1 : (k : Int) < (n : Int) := by omega
    go_wp2_with fail
    refine (HR.out _ (H0.out.call K)).mono ?_
    rintro e w1 ⟨rfl, hb⟩
    replace K := below_call K hb
    replace hc := cell_call hb hc
    clear hb
    obtain ⟨g, r, rfl, hr, hC⟩ := (H0.out.call K).at_ (k := k) (by rw [← Hn.out]; exact hlt)
    have Hr := Lib.hid hr
    obtain ⟨c0, c1, c2, c3⟩ := hC.cells
    have k0 : (0 : Int) ≤ (k : Int) := by omega
    have ha := areaL_take (ok_on Hk.out) k
    rw [← Ha.out] at ha
    have hA := ok_area Hk.out
    have a0 : 0 ≤ a := ha.1
    have a1 : a ≤ 256 := by omega
    obtain ⟨m0, m1⟩ := area_one (ok_on Hk.out r (List.mem_of_getElem? hr))
    clear hr hC ha hA
    go_wp2_with fail
    go_quiet (fail)
    go_wp2_with fail
    rename_i nq
    go_roundw
    case rel => exact ⟨k + 1, _, by omega, by go_num, rfl, Lib.hid (by rw [area_next Hr.out, Ha.out]), below_drewN K _, cell_drewN hc _⟩
    case measure => simp [intOf]; omega
   ·have k1 : ¬ (k : Int) < (n : Int) := by omega
    obtain rfl : k = n := by omega
    have Hj : Hid (a = areaR L) := Lib.hid (by rw [Hi.out, Ha.out, List.take_of_length_le (by rw [← Hn.out]; exact Nat.le_refl _)])
    go_wp2_with fail
    go_ret
    exact ⟨ret_int Hj.out, K⟩
end Go.Proofs.YtdgagooldlnpeaaGreat
namespace Go.Proofs.YtdgagooldlnpeaaGreat
open Go.RowKit
theorem joinL_len (f : Bool → Bool → Bool) (A B : List Rc) : (joinL f A B).length ≤ 256 := by
 by_cases h : okL A = true ∧ okL B = true
 ·rw [joinL_yes h]; exact canon_len _
 ·rw [joinL_no h]; simp
end Go.Proofs.YtdgagooldlnpeaaGreat
namespace Go.Proofs.YtdgagooldlnpeaaGreat
open Go.RowKit
theorem join_ok {f : Bool → Bool → Bool} {A B : List Rc} (hA : okL A = true) (hB : okL B = true) : okL (joinL f A B) = true := by
 rw [joinL_yes ⟨hA, hB⟩]; exact ok_canon _
theorem join_area {f : Bool → Bool → Bool} {A B : List Rc} (hA : okL A = true) (hB : okL B = true) : areaR (joinL f A B) = cntRows (joinG f (gridOf A) (gridOf B)) 0 := by
 unfold areaR
 rw [if_pos (join_ok hA hB), joinL_yes ⟨hA, hB⟩, canon_area]
theorem sets_area {A B : List Rc} (hA : okL A = true) (hB : okL B = true) :
  areaR (joinL (fun p q => p || q) A B) + areaR (joinL (fun p q => p && q) A B) = areaR A + areaR B ∧
  areaR (joinL (fun p q => p && !q) A B) + areaR (joinL (fun p q => p && q) A B) = areaR A := by
 rw [join_area hA hB, join_area hA hB, join_area hA hB, ok_cnt hA, ok_cnt hB]
 exact ⟨cnt_two (gridOf A) (gridOf B) 0, cnt_less (gridOf A) (gridOf B) 0⟩
end Go.Proofs.YtdgagooldlnpeaaGreat
