/- The contracts of canvas.span and l05Copy. No statement is proved here. -/
import Derived.Test.YtfehdcenmncbpaaRd
import Derived.Test.YtfehdcenmncbpaaIntR
import Derived.Test.YtfehdcenmncbpaaImR
import Derived.Test.YtfehdcenmncbpaaRectC
import Derived.Test.YtfehdcenmncbpaaPixM
import Derived.Test.YtfehdcenmncbpaaBlk4
import Derived.Test.YtfehdcenmncbpaaIsectI
import Derived.Test.YtfehdcenmncbpaaProg
import Derived.WalkKit
import Derived.ProofKit
import Derived.OpenShut
import Derived.WalkLawsBesides
import Derived.WalkSpells
import Derived.ShutString
import Derived.ChangeOld
import Derived.Below
import Derived.Lib.Hide
import Derived.BigQuiet
import Derived.Deep.QuietTactic
import Derived.Maps.AppendAt
import Derived.Deep.OwnRows
import Derived.Handy
import Derived.Deep.Draws
import Derived.OwnWalk
import Derived.Deep.AppendLies
import Derived.Deep.LoopGhost
import Derived.Deep.Onto
import Derived.Laws.BitsAllLaws
import Derived.Lib.QuoteBits
import Derived.Test.YtfehdcenmncbpaaShelf
import Derived.Laws.CopyOwn
import Derived.Deep.RegionLaw
import Derived.Deep.RegionHeld3
import Derived.Deep.DeepCutAuto
import Derived.Great.BuildSlice
import Derived.Deep.MidRow
import Derived.Deep.WholeRow
namespace Go.Proofs.Ytfehdcenmncbpaa
open Go.RowKit
theorem rightI_b (r : Rc) (hr : r.ok) (w : World) :
    Calls Try.prog 98 #[.agg #[.int .i64 r.x, .int .i64 r.y, .int .i64 r.w, .int .i64 r.h]] w fun e w' => e = .returned (.int .i64 (r.x + r.w)) ∧ Below w.heap.size w w' := by
  refine (rightOf_any r hr w).mono ?_
  rintro e w' ⟨rfl, rfl⟩
  exact ⟨rfl, belI_box _ _⟩
set_option maxHeartbeats 600000 in
set_option maxRecDepth 10000 in
theorem spanI (W X n y m : Nat) (H Yr Hr : Int) (g N c : Nat) (w : World) (hW : W ≤ 16) (hy : y ≤ 15) (hm : y * W = m) (hN : m + W ≤ N) (hNc : N ≤ c) (hn : 1 ≤ n) (hX : X + n ≤ W) (hr : (⟨X, Yr, n, Hr⟩ : Rc).ok) :
    Calls Try.prog 88 #[.agg #[.int .i64 W, .int .i64 H, .slice (some ⟨g, 0, none⟩) N c], .agg #[.int .i64 X, .int .i64 Yr, .int .i64 n, .int .i64 Hr], .int .i64 y] w
      fun e w' => (∃ c', e = .returned (.slice (some ⟨g, m + X, none⟩) n c')) ∧ Below w.heap.size w w' := by
  have m240 : m ≤ 240 := by rw [← hm]; exact Nat.mul_le_mul hy hW
  have q1 : (y : Int) * (W : Int) = (m : Int) := by rw [← hm]; simp
  have q2 : ((y : Int) + 1) * (W : Int) = ((m + W : Nat) : Int) := by rw [Int.add_mul, q1, Int.one_mul]; omega
  have Hr' := Lib.hid hr
  have hw := belI_call (belI_box w (.cells #[.int .i64 W, .int .i64 H, .slice (some ⟨g, 0, none⟩) N c] 85)) (belI_box _ (.cells #[.int .i64 X, .int .i64 Yr, .int .i64 n, .int .i64 Hr] 65))
  have hR : RcAt ((w.alloc (.cells #[.int .i64 W, .int .i64 H, .slice (some ⟨g, 0, none⟩) N c] 85)).alloc (.cells #[.int .i64 X, .int .i64 Yr, .int .i64 n, .int .i64 Hr] 65)) (w.heap.size + 1) ⟨X, Yr, n, Hr⟩ := RcAt.newAt (w := w.alloc (.cells #[.int .i64 W, .int .i64 H, .slice (some ⟨g, 0, none⟩) N c] 85)) (by simp) ⟨X, Yr, n, Hr⟩
  clear hr hm
  go_enter Try.func88, Try.ntmps88
  go_wp2_with fail
  have f1 : X + n ≤ c - m := by omega
  have f2 : (X : Int) + (n : Int) ≤ ((c - m : Nat) : Int) := by omega
  have f3 : X + n - X = n := by omega
  have f4 : ¬ c - m = X := by omega
  have f5 : (0 : Int) ≤ (X : Int) + (n : Int) := by omega
  have f6 : X ≤ ((X : Int) + (n : Int)).toNat := by omega
  have f7 : ((X : Int) + (n : Int)).toNat - X = n := by omega
  obtain ⟨w0, hw0⟩ : ∃ w0, w0 = (w.alloc (.cells #[.int .i64 W, .int .i64 H, .slice (some ⟨g, 0, none⟩) N c] 85)).alloc (.cells #[.int .i64 X, .int .i64 Yr, .int .i64 n, .int .i64 Hr] 65) := ⟨_, rfl⟩
  rw [← hw0] at hw hR ⊢
  clear hw0
  refine wp_region_held_drew (S := fun W => Below w0.heap.size w0 W) (by kernel_rfl) (Below.refl _ _).drew (fun hS => ?_)
  refine wpAnyH_take (i := 0) (v := .slice (some ⟨g, m, none⟩) (m + W - m) (c - m)) rfl (by kernel_rfl) (by kernel_rfl) (by kernel_rfl) (fun _ _ _ h => h) (Or.inl ⟨by kernel_rfl, by intro w' hSw; (try dsimp only at hSw); (obtain ⟨r0, r1, r2, r3⟩ := (hR.below hSw hR.lt).cells); go_simp⟩) (by assumption) ?_
  refine wpAnyH_take (i := 1) (v := .pointer (some ⟨w.heap.size + 1, 0, none⟩)) rfl (by kernel_rfl) (by kernel_rfl) (by kernel_rfl) (fun _ _ _ h => h) (Or.inl ⟨by kernel_rfl, by intro w' hSw; (try dsimp only at hSw); (obtain ⟨r0, r1, r2, r3⟩ := (hR.below hSw hR.lt).cells); go_simp⟩) (by assumption) ?_
  refine wpAnyH_take (i := 2) (v := .int .i64 X) rfl (by kernel_rfl) (by kernel_rfl) (by kernel_rfl) (fun _ _ _ h => h) (Or.inl ⟨by kernel_rfl, by intro w' hSw; (try dsimp only at hSw); (obtain ⟨r0, r1, r2, r3⟩ := (hR.below hSw hR.lt).cells); go_simp⟩) (by assumption) ?_
  refine wpAnyH_take (i := 3) (v := .agg #[.int .i64 X, .int .i64 Yr, .int .i64 n, .int .i64 Hr]) rfl (by kernel_rfl) (by kernel_rfl) (by kernel_rfl) (fun _ _ _ h => h) (Or.inl ⟨by kernel_rfl, by intro w' hSw; (try dsimp only at hSw); (obtain ⟨r0, r1, r2, r3⟩ := (hR.below hSw hR.lt).cells); go_simp⟩) (by assumption) ?_
  (try simp only [Act.put]); (try simp only [List.setIfInBounds_toArray]); (try simp only [List.set_cons_zero, List.set_cons_succ])
  refine wpAnyH_ready (rs := [4]) (by kernel_rfl) (by simp) ?_
  refine (AllReadyH.cons rfl (fun K hK => ?_) AllReadyH.nil)
  · rw [if_pos (by kernel_rfl)]
    (try simp only [List.getElem_toArray]); (try simp only [List.getElem_cons_succ]); (try simp only [List.getElem_cons_zero])
    go_simp
    with_reducible refine (rightI_b ⟨X, Yr, n, Hr⟩ Hr'.out _).mono ?_
    rintro e W' ⟨rfl, hb⟩
    dsimp only
    refine hK.out _ _ (belI_call hS hb) (fun hS => ?_)
    clear hK
    (try simp only [Act.put]); (try simp only [List.setIfInBounds_toArray]); (try simp only [List.set_cons_zero, List.set_cons_succ])
    refine wpAnyH_ready (rs := [5]) (by kernel_rfl) (by simp) ?_
    refine (AllReadyH.cons rfl (fun K hK => ?_) AllReadyH.nil)
    · rw [if_pos (by kernel_rfl)]
      (try simp only [List.getElem_toArray]); (try simp only [List.getElem_cons_succ]); (try simp only [List.getElem_cons_zero])
      go_simp
      refine hK.out _ _ (hS) (fun hS => ?_)
      clear hK
      (try simp only [Act.put]); (try simp only [List.setIfInBounds_toArray]); (try simp only [List.set_cons_zero, List.set_cons_succ])
      refine wpAnyH_take (i := 6) (v := .slice (some ⟨g, m + X, none⟩) n (c - m - X)) rfl (by kernel_rfl) (by kernel_rfl) (by kernel_rfl) (fun _ _ _ h => h) (Or.inl ⟨by kernel_rfl, by intro w' hSw; (try dsimp only at hSw); (obtain ⟨r0, r1, r2, r3⟩ := (hR.below hSw hR.lt).cells); go_simp⟩) (by assumption) ?_
      refine wpAnyH_done (by kernel_rfl) ?_ _
      go_wp2_with fail
      go_ret
      exact ⟨⟨_, rfl⟩, belI_call hw hS⟩
end Go.Proofs.Ytfehdcenmncbpaa
