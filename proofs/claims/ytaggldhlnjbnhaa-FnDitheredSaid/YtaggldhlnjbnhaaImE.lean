/- The contracts of canvas.span and l05Copy. No statement is proved here. -/
import Derived.Test.YtaggldhlnjbnhaaRd
import Derived.Test.YtaggldhlnjbnhaaIntR
import Derived.Test.YtaggldhlnjbnhaaImR
import Derived.Test.YtaggldhlnjbnhaaRectC
import Derived.Test.YtaggldhlnjbnhaaPixM
import Derived.Test.YtaggldhlnjbnhaaImL
import Derived.Test.YtaggldhlnjbnhaaImD
import Derived.Test.YtaggldhlnjbnhaaBlk4
import Derived.Test.YtaggldhlnjbnhaaIsectI
import Derived.Test.YtaggldhlnjbnhaaProg
import Derived.WalkKit
import Derived.ProofKit
import Derived.OpenShut
import Derived.WalkLawsBesides
import Derived.WalkSpells
import Derived.ShutString
import Derived.ChangeOld
import Derived.Below
import Derived.Lib.Hide
import Derived.BigQuiet
import Derived.Deep.QuietTactic
import Derived.Maps.AppendAt
import Derived.Deep.OwnRows
import Derived.Handy
import Derived.Deep.Draws
import Derived.OwnWalk
import Derived.Deep.AppendLies
import Derived.Deep.LoopGhost
import Derived.Deep.Onto
import Derived.Laws.BitsAllLaws
import Derived.Lib.QuoteBits
import Derived.Test.YtaggldhlnjbnhaaShelf
import Derived.Laws.CopyOwn
import Derived.Deep.RegionLaw
import Derived.Deep.RegionHeld3
import Derived.Deep.DeepCutAuto
import Derived.Great.BuildSlice
import Derived.Deep.MidRow
import Derived.Deep.WholeRow
namespace Go.Proofs.Ytaggldhlnjbnhaa
open Go.RowKit
theorem ownI_ne {v : Value} {b : Nat} (h : ∀ g, v.ownBlock = some g → g ≠ b) : v.ownBlock = none ∨ v.ownBlock ≠ some b := by
  by_cases hv : v.ownBlock = none
  · exact .inl hv
  · exact .inr fun e => h b e rfl
theorem l05_end {w W : World} {X Y : Int} {A : Option Addr} {c B : Nat} {L : List Int} (h : W.ownsRow B 3 1 (.slice A (0 + L.length) c) (0 + L.length) ([] ++ intCells L)) (hB : w.heap.size ≤ B) (K : Below w.heap.size w W) :
    ImAns X Y L w (.returned (.agg #[.int .i64 X, .int .i64 Y, .slice A (0 + L.length) c])) W := by
  rw [Nat.zero_add, List.nil_append] at h
  rw [Nat.zero_add]
  exact ⟨_, rfl, h.mono hB, K⟩
set_option maxHeartbeats 600000 in
set_option maxRecDepth 10000 in
theorem l05Copy_any (X Y : Int) (v : Value) (L : List Int) (w : World) (hm : L.length ≤ 2097152) (hv : RdI w v L) :
    Calls Try.prog 101 #[.agg #[.int .i64 X, .int .i64 Y, v]] w (ImAns X Y L w) := by
  obtain ⟨A, c, rfl⟩ := hv.form
  have Hm := Lib.hid hm
  obtain ⟨w0, hw0⟩ : ∃ w0, w0 = w.alloc (.cells #[.int .i64 X, .int .i64 Y, .slice A L.length c] 28) := ⟨_, rfl⟩
  have hz : w0.heap.size = w.heap.size + 1 := by rw [hw0]; simp
  have hb0 : Below w.heap.size w w0 := by rw [hw0]; exact belI_box _ _
  have hv2 : RdI w0 (.slice A L.length c) L := by rw [hw0]; exact hv.alloc _
  have hC : ImAt w0 w.heap.size 28 X Y (.slice A L.length c) := by rw [hw0]; exact ImAt.new _ _ _ _ _
  have hR : ImAt (w0.alloc (.cells #[.int .i64 0, .int .i64 0, .slice none 0 0] 28)).drew (w.heap.size + 1) 28 0 0 (.slice none 0 0) := ImAt.newAt hz _ _ _ _
  have hst : Below w0.heap.size w0 (w0.alloc (.cells #[.int .i64 0, .int .i64 0, .slice none 0 0] 28)).drew := (belI_box _ _).drew
  rw [hw0] at hst hR
  clear hm hv
  go_enter Try.func101, Try.ntmps101
  go_upto_region 1 with fail
  rw [← hw0] at *
  refine wp_region_held_drew (S := fun W => Below w0.heap.size w0 W) (by kernel_rfl) hst (fun hS => ?_)
  refine wpAnyH_take (i := 0) (v := .pointer (some ⟨w.heap.size, 0, none⟩)) rfl (by kernel_rfl) (by kernel_rfl) (by kernel_rfl) (fun _ _ _ h => h) (Or.inl ⟨by kernel_rfl, by intro w' hSw; (try dsimp only at hSw); (obtain ⟨c0, c1, c2⟩ := (hC.call hSw).cells); go_simp⟩) (by assumption) ?_
  refine wpAnyH_take (i := 1) (v := .int .i64 X) rfl (by kernel_rfl) (by kernel_rfl) (by kernel_rfl) (fun _ _ _ h => h) (Or.inl ⟨by kernel_rfl, by intro w' hSw; (try dsimp only at hSw); (obtain ⟨c0, c1, c2⟩ := (hC.call hSw).cells); go_simp⟩) (by assumption) ?_
  refine wpAnyH_take (i := 2) (v := .pointer (some ⟨w.heap.size, 1, none⟩)) rfl (by kernel_rfl) (by kernel_rfl) (by kernel_rfl) (fun _ _ _ h => h) (Or.inl ⟨by kernel_rfl, by intro w' hSw; (try dsimp only at hSw); (obtain ⟨c0, c1, c2⟩ := (hC.call hSw).cells); go_simp⟩) (by assumption) ?_
  refine wpAnyH_take (i := 3) (v := .int .i64 Y) rfl (by kernel_rfl) (by kernel_rfl) (by kernel_rfl) (fun _ _ _ h => h) (Or.inl ⟨by kernel_rfl, by intro w' hSw; (try dsimp only at hSw); (obtain ⟨c0, c1, c2⟩ := (hC.call hSw).cells); go_simp⟩) (by assumption) ?_
  refine wpAnyH_take (i := 5) (v := .pointer (some ⟨w.heap.size, 2, none⟩)) rfl (by kernel_rfl) (by kernel_rfl) (by kernel_rfl) (fun _ _ _ h => h) (Or.inl ⟨by kernel_rfl, by intro w' hSw; (try dsimp only at hSw); (obtain ⟨c0, c1, c2⟩ := (hC.call hSw).cells); go_simp⟩) (by assumption) ?_
  refine wpAnyH_take (i := 6) (v := .slice A L.length c) rfl (by kernel_rfl) (by kernel_rfl) (by kernel_rfl) (fun _ _ _ h => h) (Or.inl ⟨by kernel_rfl, by intro w' hSw; (try dsimp only at hSw); (obtain ⟨c0, c1, c2⟩ := (hC.call hSw).cells); go_simp⟩) (by assumption) ?_
  (try simp only [Act.put]); (try simp only [List.setIfInBounds_toArray]); (try simp only [List.set_cons_zero, List.set_cons_succ])
  refine wpAnyH_ready (rs := [4]) (by kernel_rfl) (by simp) ?_
  refine (AllReadyH.cons rfl (fun K hK => ?_) AllReadyH.nil)
  · rw [if_pos (by kernel_rfl)]
    (try simp only [List.getElem_toArray]); (try simp only [List.getElem_cons_succ]); (try simp only [List.getElem_cons_zero])
    have hRl := hR.lt
    refine wp_build0I 7 rfl rfl ?_
    intro v0 W' hb own0
    have hR := hR.call hb
    refine hK.out _ _ (belI_call hS hb) (fun hS => ?_)
    clear hK
    (try simp only [Act.put]); (try simp only [List.setIfInBounds_toArray]); (try simp only [List.set_cons_zero, List.set_cons_succ])
    refine wpAnyH_ready (rs := [7]) (by kernel_rfl) (by simp) ?_
    refine (AllReadyH.cons rfl (fun K hK => ?_) AllReadyH.nil)
    · rw [if_pos (by kernel_rfl)]
      (try simp only [List.getElem_toArray]); (try simp only [List.getElem_cons_succ]); (try simp only [List.getElem_cons_zero])
      refine wp_appendI (.tmp 7) (.tmp 9) rfl _ v0 0 [] rfl own0 (.slice A L.length c) L rfl (hv2.call hS) (by have := Hm.out; omega) hb.size ?_
      intro v1 W2 hown hg hat
      obtain ⟨Au, cu, hu⟩ := ownI_shape hown
      subst hu
      have hR := hR.grown hg (fun e => by have := (own0.lt _ e.symm).1; omega)
      refine hK.out _ _ (hS.grown hg hS.size (fun k hk => by have := (own0.lt k hk).1; omega)) (fun hS => ?_)
      clear hK
      (try simp only [Act.put]); (try simp only [List.setIfInBounds_toArray]); (try simp only [List.set_cons_zero, List.set_cons_succ])
      refine wpAnyH_take (i := 8) (v := .agg #[.int .i64 X, .int .i64 Y, .slice Au (0 + L.length) cu]) rfl (by kernel_rfl) (by kernel_rfl) (by kernel_rfl) (fun _ _ _ h => h) (Or.inl ⟨by kernel_rfl, by intro w' hSw; (try dsimp only at hSw); (obtain ⟨c0, c1, c2⟩ := (hC.call hSw).cells); go_simp⟩) (by assumption) ?_
      (try simp only [Act.put]); (try simp only [List.setIfInBounds_toArray]); (try simp only [List.set_cons_zero, List.set_cons_succ])
      refine wpAnyH_ready (rs := [9]) (by kernel_rfl) (by simp) ?_
      refine (AllReadyH.cons rfl (fun K hK => ?_) AllReadyH.nil)
      · rw [if_pos (by kernel_rfl)]
        (try simp only [List.getElem_toArray]); (try simp only [List.getElem_cons_succ]); (try simp only [List.getElem_cons_zero])
        refine wp_store_im 28 size26 (.tmp 2) (.tmp 11) rfl (w.heap.size + 1) 0 0 (.slice none 0 0) X Y Au (0 + L.length) cu rfl rfl hR ?_
        intro W3 hI hg3
        skip
        refine hK.out _ _ (hS.grown hg3 hS.size (fun k hk => by injection hk with hk; omega)) (fun hS => ?_)
        clear hK
        (try simp only [Act.put]); (try simp only [List.setIfInBounds_toArray]); (try simp only [List.set_cons_zero, List.set_cons_succ])
        refine wpAnyH_done (by kernel_rfl) ?_ _
        have hlt := fun g hg => (hown.lt g hg).1
        have hown3 := hown.kept hg3 (ownI_ne (fun g hg => by have := hlt g hg; omega))
        have K := hb0.trans (hS.mono (by omega))
        obtain ⟨x0, x1, x2⟩ := hI.cells
        clear hR hC hv2 hS hb own0 hg hg3 hown hst
        go_wp2_with fail
        exact bodyPost_ret (v := .agg #[.int .i64 X, .int .i64 Y, .slice Au (0 + L.length) cu]) (by simp [results, Try.results101, go_sem, x0, x1, x2]) rfl (l05_end hown3 (by omega) K)
theorem rightI_b (r : Rc) (hr : r.ok) (w : World) :
    Calls Try.prog 94 #[.agg #[.int .i64 r.x, .int .i64 r.y, .int .i64 r.w, .int .i64 r.h]] w fun e w' => e = .returned (.int .i64 (r.x + r.w)) ∧ Below w.heap.size w w' := by
  refine (rightOf_any r hr w).mono ?_
  rintro e w' ⟨rfl, rfl⟩
  exact ⟨rfl, belI_box _ _⟩
set_option maxHeartbeats 600000 in
set_option maxRecDepth 10000 in
theorem spanI (W X n y m : Nat) (H Yr Hr : Int) (g N c : Nat) (w : World) (hW : W ≤ 16) (hy : y ≤ 15) (hm : y * W = m) (hN : m + W ≤ N) (hNc : N ≤ c) (hn : 1 ≤ n) (hX : X + n ≤ W) (hr : (⟨X, Yr, n, Hr⟩ : Rc).ok) :
    Calls Try.prog 79 #[.agg #[.int .i64 W, .int .i64 H, .slice (some ⟨g, 0, none⟩) N c], .agg #[.int .i64 X, .int .i64 Yr, .int .i64 n, .int .i64 Hr], .int .i64 y] w
      fun e w' => (∃ c', e = .returned (.slice (some ⟨g, m + X, none⟩) n c')) ∧ Below w.heap.size w w' := by
  have m240 : m ≤ 240 := by rw [← hm]; exact Nat.mul_le_mul hy hW
  have q1 : (y : Int) * (W : Int) = (m : Int) := by rw [← hm]; simp
  have q2 : ((y : Int) + 1) * (W : Int) = ((m + W : Nat) : Int) := by rw [Int.add_mul, q1, Int.one_mul]; omega
  have Hr' := Lib.hid hr
  have hw := belI_call (belI_box w (.cells #[.int .i64 W, .int .i64 H, .slice (some ⟨g, 0, none⟩) N c] 66)) (belI_box _ (.cells #[.int .i64 X, .int .i64 Yr, .int .i64 n, .int .i64 Hr] 60))
  have hR : RcAt ((w.alloc (.cells #[.int .i64 W, .int .i64 H, .slice (some ⟨g, 0, none⟩) N c] 66)).alloc (.cells #[.int .i64 X, .int .i64 Yr, .int .i64 n, .int .i64 Hr] 60)) (w.heap.size + 1) ⟨X, Yr, n, Hr⟩ := RcAt.newAt (w := w.alloc (.cells #[.int .i64 W, .int .i64 H, .slice (some ⟨g, 0, none⟩) N c] 66)) (by simp) ⟨X, Yr, n, Hr⟩
  clear hr hm
  go_enter Try.func79, Try.ntmps79
  go_wp2_with fail
  have f1 : X + n ≤ c - m := by omega
  have f2 : (X : Int) + (n : Int) ≤ ((c - m : Nat) : Int) := by omega
  have f3 : X + n - X = n := by omega
  have f4 : ¬ c - m = X := by omega
  have f5 : (0 : Int) ≤ (X : Int) + (n : Int) := by omega
  have f6 : X ≤ ((X : Int) + (n : Int)).toNat := by omega
  have f7 : ((X : Int) + (n : Int)).toNat - X = n := by omega
  obtain ⟨w0, hw0⟩ : ∃ w0, w0 = (w.alloc (.cells #[.int .i64 W, .int .i64 H, .slice (some ⟨g, 0, none⟩) N c] 66)).alloc (.cells #[.int .i64 X, .int .i64 Yr, .int .i64 n, .int .i64 Hr] 60) := ⟨_, rfl⟩
  rw [← hw0] at hw hR ⊢
  clear hw0
  refine wp_region_held_drew (S := fun W => Below w0.heap.size w0 W) (by kernel_rfl) (Below.refl _ _).drew (fun hS => ?_)
  refine wpAnyH_take (i := 0) (v := .slice (some ⟨g, m, none⟩) (m + W - m) (c - m)) rfl (by kernel_rfl) (by kernel_rfl) (by kernel_rfl) (fun _ _ _ h => h) (Or.inl ⟨by kernel_rfl, by intro w' hSw; (try dsimp only at hSw); (obtain ⟨r0, r1, r2, r3⟩ := (hR.below hSw hR.lt).cells); go_simp⟩) (by assumption) ?_
  refine wpAnyH_take (i := 1) (v := .pointer (some ⟨w.heap.size + 1, 0, none⟩)) rfl (by kernel_rfl) (by kernel_rfl) (by kernel_rfl) (fun _ _ _ h => h) (Or.inl ⟨by kernel_rfl, by intro w' hSw; (try dsimp only at hSw); (obtain ⟨r0, r1, r2, r3⟩ := (hR.below hSw hR.lt).cells); go_simp⟩) (by assumption) ?_
  refine wpAnyH_take (i := 2) (v := .int .i64 X) rfl (by kernel_rfl) (by kernel_rfl) (by kernel_rfl) (fun _ _ _ h => h) (Or.inl ⟨by kernel_rfl, by intro w' hSw; (try dsimp only at hSw); (obtain ⟨r0, r1, r2, r3⟩ := (hR.below hSw hR.lt).cells); go_simp⟩) (by assumption) ?_
  refine wpAnyH_take (i := 3) (v := .agg #[.int .i64 X, .int .i64 Yr, .int .i64 n, .int .i64 Hr]) rfl (by kernel_rfl) (by kernel_rfl) (by kernel_rfl) (fun _ _ _ h => h) (Or.inl ⟨by kernel_rfl, by intro w' hSw; (try dsimp only at hSw); (obtain ⟨r0, r1, r2, r3⟩ := (hR.below hSw hR.lt).cells); go_simp⟩) (by assumption) ?_
  (try simp only [Act.put]); (try simp only [List.setIfInBounds_toArray]); (try simp only [List.set_cons_zero, List.set_cons_succ])
  refine wpAnyH_ready (rs := [4]) (by kernel_rfl) (by simp) ?_
  refine (AllReadyH.cons rfl (fun K hK => ?_) AllReadyH.nil)
  · rw [if_pos (by kernel_rfl)]
    (try simp only [List.getElem_toArray]); (try simp only [List.getElem_cons_succ]); (try simp only [List.getElem_cons_zero])
    go_simp
    with_reducible refine (rightI_b ⟨X, Yr, n, Hr⟩ Hr'.out _).mono ?_
    rintro e W' ⟨rfl, hb⟩
    dsimp only
    refine hK.out _ _ (belI_call hS hb) (fun hS => ?_)
    clear hK
    (try simp only [Act.put]); (try simp only [List.setIfInBounds_toArray]); (try simp only [List.set_cons_zero, List.set_cons_succ])
    refine wpAnyH_ready (rs := [5]) (by kernel_rfl) (by simp) ?_
    refine (AllReadyH.cons rfl (fun K hK => ?_) AllReadyH.nil)
    · rw [if_pos (by kernel_rfl)]
      (try simp only [List.getElem_toArray]); (try simp only [List.getElem_cons_succ]); (try simp only [List.getElem_cons_zero])
      go_simp
      refine hK.out _ _ (hS) (fun hS => ?_)
      clear hK
      (try simp only [Act.put]); (try simp only [List.setIfInBounds_toArray]); (try simp only [List.set_cons_zero, List.set_cons_succ])
      refine wpAnyH_take (i := 6) (v := .slice (some ⟨g, m + X, none⟩) n (c - m - X)) rfl (by kernel_rfl) (by kernel_rfl) (by kernel_rfl) (fun _ _ _ h => h) (Or.inl ⟨by kernel_rfl, by intro w' hSw; (try dsimp only at hSw); (obtain ⟨r0, r1, r2, r3⟩ := (hR.below hSw hR.lt).cells); go_simp⟩) (by assumption) ?_
      refine wpAnyH_done (by kernel_rfl) ?_ _
      go_wp2_with fail
      go_ret
      exact ⟨⟨_, rfl⟩, belI_call hw hS⟩
end Go.Proofs.Ytaggldhlnjbnhaa
