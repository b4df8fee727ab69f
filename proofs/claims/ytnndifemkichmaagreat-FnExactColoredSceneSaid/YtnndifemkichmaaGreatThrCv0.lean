/- The contracts of the thresholds: the map by places (made in any order), Threshold of the program and of its model. No statement is proved here. -/
import Derived.Test.YtnndifemkichmaaGreatMA
import Derived.Test.YtnndifemkichmaaGreatMAv0
import Derived.Test.YtnndifemkichmaaGreatMBv0
import Derived.Test.YtnndifemkichmaaGreatProg
import Derived.WalkKit
import Derived.ProofKit
import Derived.OpenShut
import Derived.WalkLawsBesides
import Derived.WalkSpells
import Derived.ShutString
import Derived.ChangeOld
import Derived.Below
import Derived.Lib.Hide
import Derived.Laws.BitsAllLaws
import Derived.Lib.QuoteBits
import Derived.BigQuiet
import Derived.Deep.QuietTactic
import Derived.Maps.AppendAt
import Derived.Deep.OwnRows
import Derived.Handy
import Derived.Deep.Draws
import Derived.OwnWalk
import Derived.Deep.AppendLies
import Derived.Deep.LoopGhost
import Derived.Deep.Onto
import Derived.Deep.RegionHeld3
import Derived.Deep.DeepCutAuto
import Derived.Test.YtnndifemkichmaaGreatShelf
import Derived.Laws.CopyOwn
import Derived.Deep.RegionLaw
import Derived.Great.BuildSlice
import Derived.Deep.MidRow
import Derived.Deep.WholeRow
import Derived.Laws.AppendOwn
import Derived.Carry
import Derived.Maps.Own
namespace Go.Proofs.YtnndifemkichmaaGreat
open Go.RowKit
set_option maxHeartbeats 2000000 in
set_option maxRecDepth 10000 in
theorem sqI (w : World) : Calls Tryz.prog 251 #[] w fun e w' => ∃ b E, e = .returned (.map (some b)) ∧ MpAt w' b E ∧ sqAll E = true ∧ sqFull E = true ∧ Below w.heap.size w w' := by
 go_enter Tryz.func251, Tryz.ntmps251
 go_upto_region 1 with fail
 refine wp_region_held_drew (S := fun W => Below w.heap.size w W) (by kernel_rfl) (Below.refl _ _).drew (fun hS => ?_)
 refine tkH (i := 1) (v := .agg #[.int .i64 0, .int .i64 0]) rfl ?_
 refine tkH (i := 3) (v := .agg #[.int .i64 1, .int .i64 0]) rfl ?_
 refine tkH (i := 5) (v := .agg #[.int .i64 0, .int .i64 1]) rfl ?_
 refine tkH (i := 7) (v := .agg #[.int .i64 1, .int .i64 1]) rfl ?_
 (try simp only [Act.put]); (try simp only [zPa]); (try simp only [zPb, zPc])
 refine wpAnyH_ready (rs := [0]) (by kernel_rfl) (by simp) ?_
 refine (AllReadyH.cons rfl (fun K hK => ?_) AllReadyH.nil)
 ·rw [if_pos (by kernel_rfl)]
  (try simp only [zGa]); (try simp only [zGb]); (try simp only [zGc])
  refine wp_makeMap_place 1 rfl rfl ?_
  intro bM W' hb HM lM
  have kM := Nat.le_trans hS.size lM
  refine hK.out _ _ (belI_call hS hb) (fun hS => ?_)
  clear hK
  (try simp only [Act.put]); (try simp only [zPa]); (try simp only [zPb, zPc])
  refine wpAnyH_ready (rs := [2, 4, 6, 8]) (by kernel_rfl) (by simp) ?_
  refine (AllReadyH.cons rfl (fun K hK => ?_) (AllReadyH.cons rfl (fun K hK => ?_) (AllReadyH.cons rfl (fun K hK => ?_) (AllReadyH.cons rfl (fun K hK => ?_) AllReadyH.nil))))
  ·rw [if_pos (by kernel_rfl)]
   (try simp only [zGa]); (try simp only [zGb]); (try simp only [zGc])
   refine wp_insert_place (.tmp 1) (.tmp 2) (.const (.int .i64 0)) rfl bM _ 0 0 0 (by first | with_reducible rfl | (go_simp; done) | rfl) (by first | with_reducible rfl | (go_simp; done) | rfl) rfl rfl (by decide) (by decide) HM (by decide) (by decide) ?_
   intro W3 HM2 hgB
   replace HM := HM2
   refine hK.out _ _ (hS.grown hgB hS.size (fun k hk => by injection hk with hk; omega)) (fun hS => ?_)
   clear hK
   (try simp only [Act.put]); (try simp only [zPa]); (try simp only [zPb, zPc])
   refine wpAnyH_ready (rs := [4, 6, 8]) (by kernel_rfl) (by simp) ?_
   refine (AllReadyH.cons rfl (fun K hK => ?_) (AllReadyH.cons rfl (fun K hK => ?_) (AllReadyH.cons rfl (fun K hK => ?_) AllReadyH.nil)))
   ·rw [if_pos (by kernel_rfl)]
    (try simp only [zGa]); (try simp only [zGb]); (try simp only [zGc])
    refine wp_insert_place (.tmp 1) (.tmp 3) (.const (.int .i64 2)) rfl bM _ 1 0 2 (by first | with_reducible rfl | (go_simp; done) | rfl) (by first | with_reducible rfl | (go_simp; done) | rfl) rfl rfl (by decide) (by decide) HM (by decide) (by decide) ?_
    intro W3 HM2 hgB
    replace HM := HM2
    refine hK.out _ _ (hS.grown hgB hS.size (fun k hk => by injection hk with hk; omega)) (fun hS => ?_)
    clear hK
    (try simp only [Act.put]); (try simp only [zPa]); (try simp only [zPb, zPc])
    refine wpAnyH_ready (rs := [6, 8]) (by kernel_rfl) (by simp) ?_
    refine (AllReadyH.cons rfl (fun K hK => ?_) (AllReadyH.cons rfl (fun K hK => ?_) AllReadyH.nil))
    ·rw [if_pos (by kernel_rfl)]
     (try simp only [zGa]); (try simp only [zGb]); (try simp only [zGc])
     refine wp_insert_place (.tmp 1) (.tmp 4) (.const (.int .i64 3)) rfl bM _ 0 1 3 (by first | with_reducible rfl | (go_simp; done) | rfl) (by first | with_reducible rfl | (go_simp; done) | rfl) rfl rfl (by decide) (by decide) HM (by decide) (by decide) ?_
     intro W3 HM2 hgB
     replace HM := HM2
     refine hK.out _ _ (hS.grown hgB hS.size (fun k hk => by injection hk with hk; omega)) (fun hS => ?_)
     clear hK
     (try simp only [Act.put]); (try simp only [zPa]); (try simp only [zPb, zPc])
     refine wpAnyH_ready (rs := [8]) (by kernel_rfl) (by simp) ?_
     refine (AllReadyH.cons rfl (fun K hK => ?_) AllReadyH.nil)
     ·rw [if_pos (by kernel_rfl)]
      (try simp only [zGa]); (try simp only [zGb]); (try simp only [zGc])
      refine wp_insert_place (.tmp 1) (.tmp 5) (.const (.int .i64 1)) rfl bM _ 1 1 1 (by first | with_reducible rfl | (go_simp; done) | rfl) (by first | with_reducible rfl | (go_simp; done) | rfl) rfl rfl (by decide) (by decide) HM (by decide) (by decide) ?_
      intro W3 HM2 hgB
      replace HM := HM2
      refine hK.out _ _ (hS.grown hgB hS.size (fun k hk => by injection hk with hk; omega)) (fun hS => ?_)
      clear hK
      (try simp only [Act.put]); (try simp only [zPa]); (try simp only [zPb, zPc])
      refine tkH (i := 9) (v := .map (some bM)) rfl ?_
      refine tkH (i := 10) (v := .map (some bM)) rfl ?_
      refine wpAnyH_done (by kernel_rfl) ?_ _
      go_wp2_with fail
      go_ret
      exact ⟨bM, _, rfl, HM, by decide, by decide, hS⟩
    ·rw [if_pos (by kernel_rfl)]
     (try simp only [zGa]); (try simp only [zGb]); (try simp only [zGc])
     refine wp_insert_place (.tmp 1) (.tmp 5) (.const (.int .i64 1)) rfl bM _ 1 1 1 (by first | with_reducible rfl | (go_simp; done) | rfl) (by first | with_reducible rfl | (go_simp; done) | rfl) rfl rfl (by decide) (by decide) HM (by decide) (by decide) ?_
     intro W3 HM2 hgB
     replace HM := HM2
     refine hK.out _ _ (hS.grown hgB hS.size (fun k hk => by injection hk with hk; omega)) (fun hS => ?_)
     clear hK
     (try simp only [Act.put]); (try simp only [zPa]); (try simp only [zPb, zPc])
     refine wpAnyH_ready (rs := [6]) (by kernel_rfl) (by simp) ?_
     refine (AllReadyH.cons rfl (fun K hK => ?_) AllReadyH.nil)
     ·rw [if_pos (by kernel_rfl)]
      (try simp only [zGa]); (try simp only [zGb]); (try simp only [zGc])
      refine wp_insert_place (.tmp 1) (.tmp 4) (.const (.int .i64 3)) rfl bM _ 0 1 3 (by first | with_reducible rfl | (go_simp; done) | rfl) (by first | with_reducible rfl | (go_simp; done) | rfl) rfl rfl (by decide) (by decide) HM (by decide) (by decide) ?_
      intro W3 HM2 hgB
      replace HM := HM2
      refine hK.out _ _ (hS.grown hgB hS.size (fun k hk => by injection hk with hk; omega)) (fun hS => ?_)
      clear hK
      (try simp only [Act.put]); (try simp only [zPa]); (try simp only [zPb, zPc])
      refine tkH (i := 9) (v := .map (some bM)) rfl ?_
      refine tkH (i := 10) (v := .map (some bM)) rfl ?_
      refine wpAnyH_done (by kernel_rfl) ?_ _
      go_wp2_with fail
      go_ret
      exact ⟨bM, _, rfl, HM, by decide, by decide, hS⟩
   ·rw [if_pos (by kernel_rfl)]
    (try simp only [zGa]); (try simp only [zGb]); (try simp only [zGc])
    refine wp_insert_place (.tmp 1) (.tmp 4) (.const (.int .i64 3)) rfl bM _ 0 1 3 (by first | with_reducible rfl | (go_simp; done) | rfl) (by first | with_reducible rfl | (go_simp; done) | rfl) rfl rfl (by decide) (by decide) HM (by decide) (by decide) ?_
    intro W3 HM2 hgB
    replace HM := HM2
    refine hK.out _ _ (hS.grown hgB hS.size (fun k hk => by injection hk with hk; omega)) (fun hS => ?_)
    clear hK
    (try simp only [Act.put]); (try simp only [zPa]); (try simp only [zPb, zPc])
    refine wpAnyH_ready (rs := [4, 8]) (by kernel_rfl) (by simp) ?_
    refine (AllReadyH.cons rfl (fun K hK => ?_) (AllReadyH.cons rfl (fun K hK => ?_) AllReadyH.nil))
    ·rw [if_pos (by kernel_rfl)]
     (try simp only [zGa]); (try simp only [zGb]); (try simp only [zGc])
     refine wp_insert_place (.tmp 1) (.tmp 3) (.const (.int .i64 2)) rfl bM _ 1 0 2 (by first | with_reducible rfl | (go_simp; done) | rfl) (by first | with_reducible rfl | (go_simp; done) | rfl) rfl rfl (by decide) (by decide) HM (by decide) (by decide) ?_
     intro W3 HM2 hgB
     replace HM := HM2
     refine hK.out _ _ (hS.grown hgB hS.size (fun k hk => by injection hk with hk; omega)) (fun hS => ?_)
     clear hK
     (try simp only [Act.put]); (try simp only [zPa]); (try simp only [zPb, zPc])
     refine wpAnyH_ready (rs := [8]) (by kernel_rfl) (by simp) ?_
     refine (AllReadyH.cons rfl (fun K hK => ?_) AllReadyH.nil)
     ·rw [if_pos (by kernel_rfl)]
      (try simp only [zGa]); (try simp only [zGb]); (try simp only [zGc])
      refine wp_insert_place (.tmp 1) (.tmp 5) (.const (.int .i64 1)) rfl bM _ 1 1 1 (by first | with_reducible rfl | (go_simp; done) | rfl) (by first | with_reducible rfl | (go_simp; done) | rfl) rfl rfl (by decide) (by decide) HM (by decide) (by decide) ?_
      intro W3 HM2 hgB
      replace HM := HM2
      refine hK.out _ _ (hS.grown hgB hS.size (fun k hk => by injection hk with hk; omega)) (fun hS => ?_)
      clear hK
      (try simp only [Act.put]); (try simp only [zPa]); (try simp only [zPb, zPc])
      refine tkH (i := 9) (v := .map (some bM)) rfl ?_
      refine tkH (i := 10) (v := .map (some bM)) rfl ?_
      refine wpAnyH_done (by kernel_rfl) ?_ _
      go_wp2_with fail
      go_ret
      exact ⟨bM, _, rfl, HM, by decide, by decide, hS⟩
    ·rw [if_pos (by kernel_rfl)]
     (try simp only [zGa]); (try simp only [zGb]); (try simp only [zGc])
     refine wp_insert_place (.tmp 1) (.tmp 5) (.const (.int .i64 1)) rfl bM _ 1 1 1 (by first | with_reducible rfl | (go_simp; done) | rfl) (by first | with_reducible rfl | (go_simp; done) | rfl) rfl rfl (by decide) (by decide) HM (by decide) (by decide) ?_
     intro W3 HM2 hgB
     replace HM := HM2
     refine hK.out _ _ (hS.grown hgB hS.size (fun k hk => by injection hk with hk; omega)) (fun hS => ?_)
     clear hK
     (try simp only [Act.put]); (try simp only [zPa]); (try simp only [zPb, zPc])
     refine wpAnyH_ready (rs := [4]) (by kernel_rfl) (by simp) ?_
     refine (AllReadyH.cons rfl (fun K hK => ?_) AllReadyH.nil)
     ·rw [if_pos (by kernel_rfl)]
      (try simp only [zGa]); (try simp only [zGb]); (try simp only [zGc])
      refine wp_insert_place (.tmp 1) (.tmp 3) (.const (.int .i64 2)) rfl bM _ 1 0 2 (by first | with_reducible rfl | (go_simp; done) | rfl) (by first | with_reducible rfl | (go_simp; done) | rfl) rfl rfl (by decide) (by decide) HM (by decide) (by decide) ?_
      intro W3 HM2 hgB
      replace HM := HM2
      refine hK.out _ _ (hS.grown hgB hS.size (fun k hk => by injection hk with hk; omega)) (fun hS => ?_)
      clear hK
      (try simp only [Act.put]); (try simp only [zPa]); (try simp only [zPb, zPc])
      refine tkH (i := 9) (v := .map (some bM)) rfl ?_
      refine tkH (i := 10) (v := .map (some bM)) rfl ?_
      refine wpAnyH_done (by kernel_rfl) ?_ _
      go_wp2_with fail
      go_ret
      exact ⟨bM, _, rfl, HM, by decide, by decide, hS⟩
   ·rw [if_pos (by kernel_rfl)]
    (try simp only [zGa]); (try simp only [zGb]); (try simp only [zGc])
    refine wp_insert_place (.tmp 1) (.tmp 5) (.const (.int .i64 1)) rfl bM _ 1 1 1 (by first | with_reducible rfl | (go_simp; done) | rfl) (by first | with_reducible rfl | (go_simp; done) | rfl) rfl rfl (by decide) (by decide) HM (by decide) (by decide) ?_
    intro W3 HM2 hgB
    replace HM := HM2
    refine hK.out _ _ (hS.grown hgB hS.size (fun k hk => by injection hk with hk; omega)) (fun hS => ?_)
    clear hK
    (try simp only [Act.put]); (try simp only [zPa]); (try simp only [zPb, zPc])
    refine wpAnyH_ready (rs := [4, 6]) (by kernel_rfl) (by simp) ?_
    refine (AllReadyH.cons rfl (fun K hK => ?_) (AllReadyH.cons rfl (fun K hK => ?_) AllReadyH.nil))
    ·rw [if_pos (by kernel_rfl)]
     (try simp only [zGa]); (try simp only [zGb]); (try simp only [zGc])
     refine wp_insert_place (.tmp 1) (.tmp 3) (.const (.int .i64 2)) rfl bM _ 1 0 2 (by first | with_reducible rfl | (go_simp; done) | rfl) (by first | with_reducible rfl | (go_simp; done) | rfl) rfl rfl (by decide) (by decide) HM (by decide) (by decide) ?_
     intro W3 HM2 hgB
     replace HM := HM2
     refine hK.out _ _ (hS.grown hgB hS.size (fun k hk => by injection hk with hk; omega)) (fun hS => ?_)
     clear hK
     (try simp only [Act.put]); (try simp only [zPa]); (try simp only [zPb, zPc])
     refine wpAnyH_ready (rs := [6]) (by kernel_rfl) (by simp) ?_
     refine (AllReadyH.cons rfl (fun K hK => ?_) AllReadyH.nil)
     ·rw [if_pos (by kernel_rfl)]
      (try simp only [zGa]); (try simp only [zGb]); (try simp only [zGc])
      refine wp_insert_place (.tmp 1) (.tmp 4) (.const (.int .i64 3)) rfl bM _ 0 1 3 (by first | with_reducible rfl | (go_simp; done) | rfl) (by first | with_reducible rfl | (go_simp; done) | rfl) rfl rfl (by decide) (by decide) HM (by decide) (by decide) ?_
      intro W3 HM2 hgB
      replace HM := HM2
      refine hK.out _ _ (hS.grown hgB hS.size (fun k hk => by injection hk with hk; omega)) (fun hS => ?_)
      clear hK
      (try simp only [Act.put]); (try simp only [zPa]); (try simp only [zPb, zPc])
      refine tkH (i := 9) (v := .map (some bM)) rfl ?_
      refine tkH (i := 10) (v := .map (some bM)) rfl ?_
      refine wpAnyH_done (by kernel_rfl) ?_ _
      go_wp2_with fail
      go_ret
      exact ⟨bM, _, rfl, HM, by decide, by decide, hS⟩
    ·rw [if_pos (by kernel_rfl)]
     (try simp only [zGa]); (try simp only [zGb]); (try simp only [zGc])
     refine wp_insert_place (.tmp 1) (.tmp 4) (.const (.int .i64 3)) rfl bM _ 0 1 3 (by first | with_reducible rfl | (go_simp; done) | rfl) (by first | with_reducible rfl | (go_simp; done) | rfl) rfl rfl (by decide) (by decide) HM (by decide) (by decide) ?_
     intro W3 HM2 hgB
     replace HM := HM2
     refine hK.out _ _ (hS.grown hgB hS.size (fun k hk => by injection hk with hk; omega)) (fun hS => ?_)
     clear hK
     (try simp only [Act.put]); (try simp only [zPa]); (try simp only [zPb, zPc])
     refine wpAnyH_ready (rs := [4]) (by kernel_rfl) (by simp) ?_
     refine (AllReadyH.cons rfl (fun K hK => ?_) AllReadyH.nil)
     ·rw [if_pos (by kernel_rfl)]
      (try simp only [zGa]); (try simp only [zGb]); (try simp only [zGc])
      refine wp_insert_place (.tmp 1) (.tmp 3) (.const (.int .i64 2)) rfl bM _ 1 0 2 (by first | with_reducible rfl | (go_simp; done) | rfl) (by first | with_reducible rfl | (go_simp; done) | rfl) rfl rfl (by decide) (by decide) HM (by decide) (by decide) ?_
      intro W3 HM2 hgB
      replace HM := HM2
      refine hK.out _ _ (hS.grown hgB hS.size (fun k hk => by injection hk with hk; omega)) (fun hS => ?_)
      clear hK
      (try simp only [Act.put]); (try simp only [zPa]); (try simp only [zPb, zPc])
      refine tkH (i := 9) (v := .map (some bM)) rfl ?_
      refine tkH (i := 10) (v := .map (some bM)) rfl ?_
      refine wpAnyH_done (by kernel_rfl) ?_ _
      go_wp2_with fail
      go_ret
      exact ⟨bM, _, rfl, HM, by decide, by decide, hS⟩
  ·rw [if_pos (by kernel_rfl)]
   (try simp only [zGa]); (try simp only [zGb]); (try simp only [zGc])
   refine wp_insert_place (.tmp 1) (.tmp 3) (.const (.int .i64 2)) rfl bM _ 1 0 2 (by first | with_reducible rfl | (go_simp; done) | rfl) (by first | with_reducible rfl | (go_simp; done) | rfl) rfl rfl (by decide) (by decide) HM (by decide) (by decide) ?_
   intro W3 HM2 hgB
   replace HM := HM2
   refine hK.out _ _ (hS.grown hgB hS.size (fun k hk => by injection hk with hk; omega)) (fun hS => ?_)
   clear hK
   (try simp only [Act.put]); (try simp only [zPa]); (try simp only [zPb, zPc])
   refine wpAnyH_ready (rs := [2, 6, 8]) (by kernel_rfl) (by simp) ?_
   refine (AllReadyH.cons rfl (fun K hK => ?_) (AllReadyH.cons rfl (fun K hK => ?_) (AllReadyH.cons rfl (fun K hK => ?_) AllReadyH.nil)))
   ·rw [if_pos (by kernel_rfl)]
    (try simp only [zGa]); (try simp only [zGb]); (try simp only [zGc])
    refine wp_insert_place (.tmp 1) (.tmp 2) (.const (.int .i64 0)) rfl bM _ 0 0 0 (by first | with_reducible rfl | (go_simp; done) | rfl) (by first | with_reducible rfl | (go_simp; done) | rfl) rfl rfl (by decide) (by decide) HM (by decide) (by decide) ?_
    intro W3 HM2 hgB
    replace HM := HM2
    refine hK.out _ _ (hS.grown hgB hS.size (fun k hk => by injection hk with hk; omega)) (fun hS => ?_)
    clear hK
    (try simp only [Act.put]); (try simp only [zPa]); (try simp only [zPb, zPc])
    refine wpAnyH_ready (rs := [6, 8]) (by kernel_rfl) (by simp) ?_
    refine (AllReadyH.cons rfl (fun K hK => ?_) (AllReadyH.cons rfl (fun K hK => ?_) AllReadyH.nil))
    ·rw [if_pos (by kernel_rfl)]
     (try simp only [zGa]); (try simp only [zGb]); (try simp only [zGc])
     refine wp_insert_place (.tmp 1) (.tmp 4) (.const (.int .i64 3)) rfl bM _ 0 1 3 (by first | with_reducible rfl | (go_simp; done) | rfl) (by first | with_reducible rfl | (go_simp; done) | rfl) rfl rfl (by decide) (by decide) HM (by decide) (by decide) ?_
     intro W3 HM2 hgB
     replace HM := HM2
     refine hK.out _ _ (hS.grown hgB hS.size (fun k hk => by injection hk with hk; omega)) (fun hS => ?_)
     clear hK
     (try simp only [Act.put]); (try simp only [zPa]); (try simp only [zPb, zPc])
     refine wpAnyH_ready (rs := [8]) (by kernel_rfl) (by simp) ?_
     refine (AllReadyH.cons rfl (fun K hK => ?_) AllReadyH.nil)
     ·rw [if_pos (by kernel_rfl)]
      (try simp only [zGa]); (try simp only [zGb]); (try simp only [zGc])
      refine wp_insert_place (.tmp 1) (.tmp 5) (.const (.int .i64 1)) rfl bM _ 1 1 1 (by first | with_reducible rfl | (go_simp; done) | rfl) (by first | with_reducible rfl | (go_simp; done) | rfl) rfl rfl (by decide) (by decide) HM (by decide) (by decide) ?_
      intro W3 HM2 hgB
      replace HM := HM2
      refine hK.out _ _ (hS.grown hgB hS.size (fun k hk => by injection hk with hk; omega)) (fun hS => ?_)
      clear hK
      (try simp only [Act.put]); (try simp only [zPa]); (try simp only [zPb, zPc])
      refine tkH (i := 9) (v := .map (some bM)) rfl ?_
      refine tkH (i := 10) (v := .map (some bM)) rfl ?_
      refine wpAnyH_done (by kernel_rfl) ?_ _
      go_wp2_with fail
      go_ret
      exact ⟨bM, _, rfl, HM, by decide, by decide, hS⟩
    ·rw [if_pos (by kernel_rfl)]
     (try simp only [zGa]); (try simp only [zGb]); (try simp only [zGc])
     refine wp_insert_place (.tmp 1) (.tmp 5) (.const (.int .i64 1)) rfl bM _ 1 1 1 (by first | with_reducible rfl | (go_simp; done) | rfl) (by first | with_reducible rfl | (go_simp; done) | rfl) rfl rfl (by decide) (by decide) HM (by decide) (by decide) ?_
     intro W3 HM2 hgB
     replace HM := HM2
     refine hK.out _ _ (hS.grown hgB hS.size (fun k hk => by injection hk with hk; omega)) (fun hS => ?_)
     clear hK
     (try simp only [Act.put]); (try simp only [zPa]); (try simp only [zPb, zPc])
     refine wpAnyH_ready (rs := [6]) (by kernel_rfl) (by simp) ?_
     refine (AllReadyH.cons rfl (fun K hK => ?_) AllReadyH.nil)
     ·rw [if_pos (by kernel_rfl)]
      (try simp only [zGa]); (try simp only [zGb]); (try simp only [zGc])
      refine wp_insert_place (.tmp 1) (.tmp 4) (.const (.int .i64 3)) rfl bM _ 0 1 3 (by first | with_reducible rfl | (go_simp; done) | rfl) (by first | with_reducible rfl | (go_simp; done) | rfl) rfl rfl (by decide) (by decide) HM (by decide) (by decide) ?_
      intro W3 HM2 hgB
      replace HM := HM2
      refine hK.out _ _ (hS.grown hgB hS.size (fun k hk => by injection hk with hk; omega)) (fun hS => ?_)
      clear hK
      (try simp only [Act.put]); (try simp only [zPa]); (try simp only [zPb, zPc])
      refine tkH (i := 9) (v := .map (some bM)) rfl ?_
      refine tkH (i := 10) (v := .map (some bM)) rfl ?_
      refine wpAnyH_done (by kernel_rfl) ?_ _
      go_wp2_with fail
      go_ret
      exact ⟨bM, _, rfl, HM, by decide, by decide, hS⟩
   ·rw [if_pos (by kernel_rfl)]
    (try simp only [zGa]); (try simp only [zGb]); (try simp only [zGc])
    refine wp_insert_place (.tmp 1) (.tmp 4) (.const (.int .i64 3)) rfl bM _ 0 1 3 (by first | with_reducible rfl | (go_simp; done) | rfl) (by first | with_reducible rfl | (go_simp; done) | rfl) rfl rfl (by decide) (by decide) HM (by decide) (by decide) ?_
    intro W3 HM2 hgB
    replace HM := HM2
    refine hK.out _ _ (hS.grown hgB hS.size (fun k hk => by injection hk with hk; omega)) (fun hS => ?_)
    clear hK
    (try simp only [Act.put]); (try simp only [zPa]); (try simp only [zPb, zPc])
    refine wpAnyH_ready (rs := [2, 8]) (by kernel_rfl) (by simp) ?_
    refine (AllReadyH.cons rfl (fun K hK => ?_) (AllReadyH.cons rfl (fun K hK => ?_) AllReadyH.nil))
    ·rw [if_pos (by kernel_rfl)]
     (try simp only [zGa]); (try simp only [zGb]); (try simp only [zGc])
     refine wp_insert_place (.tmp 1) (.tmp 2) (.const (.int .i64 0)) rfl bM _ 0 0 0 (by first | with_reducible rfl | (go_simp; done) | rfl) (by first | with_reducible rfl | (go_simp; done) | rfl) rfl rfl (by decide) (by decide) HM (by decide) (by decide) ?_
     intro W3 HM2 hgB
     replace HM := HM2
     refine hK.out _ _ (hS.grown hgB hS.size (fun k hk => by injection hk with hk; omega)) (fun hS => ?_)
     clear hK
     (try simp only [Act.put]); (try simp only [zPa]); (try simp only [zPb, zPc])
     refine wpAnyH_ready (rs := [8]) (by kernel_rfl) (by simp) ?_
     refine (AllReadyH.cons rfl (fun K hK => ?_) AllReadyH.nil)
     ·rw [if_pos (by kernel_rfl)]
      (try simp only [zGa]); (try simp only [zGb]); (try simp only [zGc])
      refine wp_insert_place (.tmp 1) (.tmp 5) (.const (.int .i64 1)) rfl bM _ 1 1 1 (by first | with_reducible rfl | (go_simp; done) | rfl) (by first | with_reducible rfl | (go_simp; done) | rfl) rfl rfl (by decide) (by decide) HM (by decide) (by decide) ?_
      intro W3 HM2 hgB
      replace HM := HM2
      refine hK.out _ _ (hS.grown hgB hS.size (fun k hk => by injection hk with hk; omega)) (fun hS => ?_)
      clear hK
      (try simp only [Act.put]); (try simp only [zPa]); (try simp only [zPb, zPc])
      refine tkH (i := 9) (v := .map (some bM)) rfl ?_
      refine tkH (i := 10) (v := .map (some bM)) rfl ?_
      refine wpAnyH_done (by kernel_rfl) ?_ _
      go_wp2_with fail
      go_ret
      exact ⟨bM, _, rfl, HM, by decide, by decide, hS⟩
    ·rw [if_pos (by kernel_rfl)]
     (try simp only [zGa]); (try simp only [zGb]); (try simp only [zGc])
     refine wp_insert_place (.tmp 1) (.tmp 5) (.const (.int .i64 1)) rfl bM _ 1 1 1 (by first | with_reducible rfl | (go_simp; done) | rfl) (by first | with_reducible rfl | (go_simp; done) | rfl) rfl rfl (by decide) (by decide) HM (by decide) (by decide) ?_
     intro W3 HM2 hgB
     replace HM := HM2
     refine hK.out _ _ (hS.grown hgB hS.size (fun k hk => by injection hk with hk; omega)) (fun hS => ?_)
     clear hK
     (try simp only [Act.put]); (try simp only [zPa]); (try simp only [zPb, zPc])
     refine wpAnyH_ready (rs := [2]) (by kernel_rfl) (by simp) ?_
     refine (AllReadyH.cons rfl (fun K hK => ?_) AllReadyH.nil)
     ·rw [if_pos (by kernel_rfl)]
      (try simp only [zGa]); (try simp only [zGb]); (try simp only [zGc])
      refine wp_insert_place (.tmp 1) (.tmp 2) (.const (.int .i64 0)) rfl bM _ 0 0 0 (by first | with_reducible rfl | (go_simp; done) | rfl) (by first | with_reducible rfl | (go_simp; done) | rfl) rfl rfl (by decide) (by decide) HM (by decide) (by decide) ?_
      intro W3 HM2 hgB
      replace HM := HM2
      refine hK.out _ _ (hS.grown hgB hS.size (fun k hk => by injection hk with hk; omega)) (fun hS => ?_)
      clear hK
      (try simp only [Act.put]); (try simp only [zPa]); (try simp only [zPb, zPc])
      refine tkH (i := 9) (v := .map (some bM)) rfl ?_
      refine tkH (i := 10) (v := .map (some bM)) rfl ?_
      refine wpAnyH_done (by kernel_rfl) ?_ _
      go_wp2_with fail
      go_ret
      exact ⟨bM, _, rfl, HM, by decide, by decide, hS⟩
   ·rw [if_pos (by kernel_rfl)]
    (try simp only [zGa]); (try simp only [zGb]); (try simp only [zGc])
    refine wp_insert_place (.tmp 1) (.tmp 5) (.const (.int .i64 1)) rfl bM _ 1 1 1 (by first | with_reducible rfl | (go_simp; done) | rfl) (by first | with_reducible rfl | (go_simp; done) | rfl) rfl rfl (by decide) (by decide) HM (by decide) (by decide) ?_
    intro W3 HM2 hgB
    replace HM := HM2
    refine hK.out _ _ (hS.grown hgB hS.size (fun k hk => by injection hk with hk; omega)) (fun hS => ?_)
    clear hK
    (try simp only [Act.put]); (try simp only [zPa]); (try simp only [zPb, zPc])
    refine wpAnyH_ready (rs := [2, 6]) (by kernel_rfl) (by simp) ?_
    refine (AllReadyH.cons rfl (fun K hK => ?_) (AllReadyH.cons rfl (fun K hK => ?_) AllReadyH.nil))
    ·rw [if_pos (by kernel_rfl)]
     (try simp only [zGa]); (try simp only [zGb]); (try simp only [zGc])
     refine wp_insert_place (.tmp 1) (.tmp 2) (.const (.int .i64 0)) rfl bM _ 0 0 0 (by first | with_reducible rfl | (go_simp; done) | rfl) (by first | with_reducible rfl | (go_simp; done) | rfl) rfl rfl (by decide) (by decide) HM (by decide) (by decide) ?_
     intro W3 HM2 hgB
     replace HM := HM2
     refine hK.out _ _ (hS.grown hgB hS.size (fun k hk => by injection hk with hk; omega)) (fun hS => ?_)
     clear hK
     (try simp only [Act.put]); (try simp only [zPa]); (try simp only [zPb, zPc])
     refine wpAnyH_ready (rs := [6]) (by kernel_rfl) (by simp) ?_
     refine (AllReadyH.cons rfl (fun K hK => ?_) AllReadyH.nil)
     ·rw [if_pos (by kernel_rfl)]
      (try simp only [zGa]); (try simp only [zGb]); (try simp only [zGc])
      refine wp_insert_place (.tmp 1) (.tmp 4) (.const (.int .i64 3)) rfl bM _ 0 1 3 (by first | with_reducible rfl | (go_simp; done) | rfl) (by first | with_reducible rfl | (go_simp; done) | rfl) rfl rfl (by decide) (by decide) HM (by decide) (by decide) ?_
      intro W3 HM2 hgB
      replace HM := HM2
      refine hK.out _ _ (hS.grown hgB hS.size (fun k hk => by injection hk with hk; omega)) (fun hS => ?_)
      clear hK
      (try simp only [Act.put]); (try simp only [zPa]); (try simp only [zPb, zPc])
      refine tkH (i := 9) (v := .map (some bM)) rfl ?_
      refine tkH (i := 10) (v := .map (some bM)) rfl ?_
      refine wpAnyH_done (by kernel_rfl) ?_ _
      go_wp2_with fail
      go_ret
      exact ⟨bM, _, rfl, HM, by decide, by decide, hS⟩
    ·rw [if_pos (by kernel_rfl)]
     (try simp only [zGa]); (try simp only [zGb]); (try simp only [zGc])
     refine wp_insert_place (.tmp 1) (.tmp 4) (.const (.int .i64 3)) rfl bM _ 0 1 3 (by first | with_reducible rfl | (go_simp; done) | rfl) (by first | with_reducible rfl | (go_simp; done) | rfl) rfl rfl (by decide) (by decide) HM (by decide) (by decide) ?_
     intro W3 HM2 hgB
     replace HM := HM2
     refine hK.out _ _ (hS.grown hgB hS.size (fun k hk => by injection hk with hk; omega)) (fun hS => ?_)
     clear hK
     (try simp only [Act.put]); (try simp only [zPa]); (try simp only [zPb, zPc])
     refine wpAnyH_ready (rs := [2]) (by kernel_rfl) (by simp) ?_
     refine (AllReadyH.cons rfl (fun K hK => ?_) AllReadyH.nil)
     ·rw [if_pos (by kernel_rfl)]
      (try simp only [zGa]); (try simp only [zGb]); (try simp only [zGc])
      refine wp_insert_place (.tmp 1) (.tmp 2) (.const (.int .i64 0)) rfl bM _ 0 0 0 (by first | with_reducible rfl | (go_simp; done) | rfl) (by first | with_reducible rfl | (go_simp; done) | rfl) rfl rfl (by decide) (by decide) HM (by decide) (by decide) ?_
      intro W3 HM2 hgB
      replace HM := HM2
      refine hK.out _ _ (hS.grown hgB hS.size (fun k hk => by injection hk with hk; omega)) (fun hS => ?_)
      clear hK
      (try simp only [Act.put]); (try simp only [zPa]); (try simp only [zPb, zPc])
      refine tkH (i := 9) (v := .map (some bM)) rfl ?_
      refine tkH (i := 10) (v := .map (some bM)) rfl ?_
      refine wpAnyH_done (by kernel_rfl) ?_ _
      go_wp2_with fail
      go_ret
      exact ⟨bM, _, rfl, HM, by decide, by decide, hS⟩
  ·rw [if_pos (by kernel_rfl)]
   (try simp only [zGa]); (try simp only [zGb]); (try simp only [zGc])
   refine wp_insert_place (.tmp 1) (.tmp 4) (.const (.int .i64 3)) rfl bM _ 0 1 3 (by first | with_reducible rfl | (go_simp; done) | rfl) (by first | with_reducible rfl | (go_simp; done) | rfl) rfl rfl (by decide) (by decide) HM (by decide) (by decide) ?_
   intro W3 HM2 hgB
   replace HM := HM2
   refine hK.out _ _ (hS.grown hgB hS.size (fun k hk => by injection hk with hk; omega)) (fun hS => ?_)
   clear hK
   (try simp only [Act.put]); (try simp only [zPa]); (try simp only [zPb, zPc])
   refine wpAnyH_ready (rs := [2, 4, 8]) (by kernel_rfl) (by simp) ?_
   refine (AllReadyH.cons rfl (fun K hK => ?_) (AllReadyH.cons rfl (fun K hK => ?_) (AllReadyH.cons rfl (fun K hK => ?_) AllReadyH.nil)))
   ·rw [if_pos (by kernel_rfl)]
    (try simp only [zGa]); (try simp only [zGb]); (try simp only [zGc])
    refine wp_insert_place (.tmp 1) (.tmp 2) (.const (.int .i64 0)) rfl bM _ 0 0 0 (by first | with_reducible rfl | (go_simp; done) | rfl) (by first | with_reducible rfl | (go_simp; done) | rfl) rfl rfl (by decide) (by decide) HM (by decide) (by decide) ?_
    intro W3 HM2 hgB
    replace HM := HM2
    refine hK.out _ _ (hS.grown hgB hS.size (fun k hk => by injection hk with hk; omega)) (fun hS => ?_)
    clear hK
    (try simp only [Act.put]); (try simp only [zPa]); (try simp only [zPb, zPc])
    refine wpAnyH_ready (rs := [4, 8]) (by kernel_rfl) (by simp) ?_
    refine (AllReadyH.cons rfl (fun K hK => ?_) (AllReadyH.cons rfl (fun K hK => ?_) AllReadyH.nil))
    ·rw [if_pos (by kernel_rfl)]
     (try simp only [zGa]); (try simp only [zGb]); (try simp only [zGc])
     refine wp_insert_place (.tmp 1) (.tmp 3) (.const (.int .i64 2)) rfl bM _ 1 0 2 (by first | with_reducible rfl | (go_simp; done) | rfl) (by first | with_reducible rfl | (go_simp; done) | rfl) rfl rfl (by decide) (by decide) HM (by decide) (by decide) ?_
     intro W3 HM2 hgB
     replace HM := HM2
     refine hK.out _ _ (hS.grown hgB hS.size (fun k hk => by injection hk with hk; omega)) (fun hS => ?_)
     clear hK
     (try simp only [Act.put]); (try simp only [zPa]); (try simp only [zPb, zPc])
     refine wpAnyH_ready (rs := [8]) (by kernel_rfl) (by simp) ?_
     refine (AllReadyH.cons rfl (fun K hK => ?_) AllReadyH.nil)
     ·rw [if_pos (by kernel_rfl)]
      (try simp only [zGa]); (try simp only [zGb]); (try simp only [zGc])
      refine wp_insert_place (.tmp 1) (.tmp 5) (.const (.int .i64 1)) rfl bM _ 1 1 1 (by first | with_reducible rfl | (go_simp; done) | rfl) (by first | with_reducible rfl | (go_simp; done) | rfl) rfl rfl (by decide) (by decide) HM (by decide) (by decide) ?_
      intro W3 HM2 hgB
      replace HM := HM2
      refine hK.out _ _ (hS.grown hgB hS.size (fun k hk => by injection hk with hk; omega)) (fun hS => ?_)
      clear hK
      (try simp only [Act.put]); (try simp only [zPa]); (try simp only [zPb, zPc])
      refine tkH (i := 9) (v := .map (some bM)) rfl ?_
      refine tkH (i := 10) (v := .map (some bM)) rfl ?_
      refine wpAnyH_done (by kernel_rfl) ?_ _
      go_wp2_with fail
      go_ret
      exact ⟨bM, _, rfl, HM, by decide, by decide, hS⟩
    ·rw [if_pos (by kernel_rfl)]
     (try simp only [zGa]); (try simp only [zGb]); (try simp only [zGc])
     refine wp_insert_place (.tmp 1) (.tmp 5) (.const (.int .i64 1)) rfl bM _ 1 1 1 (by first | with_reducible rfl | (go_simp; done) | rfl) (by first | with_reducible rfl | (go_simp; done) | rfl) rfl rfl (by decide) (by decide) HM (by decide) (by decide) ?_
     intro W3 HM2 hgB
     replace HM := HM2
     refine hK.out _ _ (hS.grown hgB hS.size (fun k hk => by injection hk with hk; omega)) (fun hS => ?_)
     clear hK
     (try simp only [Act.put]); (try simp only [zPa]); (try simp only [zPb, zPc])
     refine wpAnyH_ready (rs := [4]) (by kernel_rfl) (by simp) ?_
     refine (AllReadyH.cons rfl (fun K hK => ?_) AllReadyH.nil)
     ·rw [if_pos (by kernel_rfl)]
      (try simp only [zGa]); (try simp only [zGb]); (try simp only [zGc])
      refine wp_insert_place (.tmp 1) (.tmp 3) (.const (.int .i64 2)) rfl bM _ 1 0 2 (by first | with_reducible rfl | (go_simp; done) | rfl) (by first | with_reducible rfl | (go_simp; done) | rfl) rfl rfl (by decide) (by decide) HM (by decide) (by decide) ?_
      intro W3 HM2 hgB
      replace HM := HM2
      refine hK.out _ _ (hS.grown hgB hS.size (fun k hk => by injection hk with hk; omega)) (fun hS => ?_)
      clear hK
      (try simp only [Act.put]); (try simp only [zPa]); (try simp only [zPb, zPc])
      refine tkH (i := 9) (v := .map (some bM)) rfl ?_
      refine tkH (i := 10) (v := .map (some bM)) rfl ?_
      refine wpAnyH_done (by kernel_rfl) ?_ _
      go_wp2_with fail
      go_ret
      exact ⟨bM, _, rfl, HM, by decide, by decide, hS⟩
   ·rw [if_pos (by kernel_rfl)]
    (try simp only [zGa]); (try simp only [zGb]); (try simp only [zGc])
    refine wp_insert_place (.tmp 1) (.tmp 3) (.const (.int .i64 2)) rfl bM _ 1 0 2 (by first | with_reducible rfl | (go_simp; done) | rfl) (by first | with_reducible rfl | (go_simp; done) | rfl) rfl rfl (by decide) (by decide) HM (by decide) (by decide) ?_
    intro W3 HM2 hgB
    replace HM := HM2
    refine hK.out _ _ (hS.grown hgB hS.size (fun k hk => by injection hk with hk; omega)) (fun hS => ?_)
    clear hK
    (try simp only [Act.put]); (try simp only [zPa]); (try simp only [zPb, zPc])
    refine wpAnyH_ready (rs := [2, 8]) (by kernel_rfl) (by simp) ?_
    refine (AllReadyH.cons rfl (fun K hK => ?_) (AllReadyH.cons rfl (fun K hK => ?_) AllReadyH.nil))
    ·rw [if_pos (by kernel_rfl)]
     (try simp only [zGa]); (try simp only [zGb]); (try simp only [zGc])
     refine wp_insert_place (.tmp 1) (.tmp 2) (.const (.int .i64 0)) rfl bM _ 0 0 0 (by first | with_reducible rfl | (go_simp; done) | rfl) (by first | with_reducible rfl | (go_simp; done) | rfl) rfl rfl (by decide) (by decide) HM (by decide) (by decide) ?_
     intro W3 HM2 hgB
     replace HM := HM2
     refine hK.out _ _ (hS.grown hgB hS.size (fun k hk => by injection hk with hk; omega)) (fun hS => ?_)
     clear hK
     (try simp only [Act.put]); (try simp only [zPa]); (try simp only [zPb, zPc])
     refine wpAnyH_ready (rs := [8]) (by kernel_rfl) (by simp) ?_
     refine (AllReadyH.cons rfl (fun K hK => ?_) AllReadyH.nil)
     ·rw [if_pos (by kernel_rfl)]
      (try simp only [zGa]); (try simp only [zGb]); (try simp only [zGc])
      refine wp_insert_place (.tmp 1) (.tmp 5) (.const (.int .i64 1)) rfl bM _ 1 1 1 (by first | with_reducible rfl | (go_simp; done) | rfl) (by first | with_reducible rfl | (go_simp; done) | rfl) rfl rfl (by decide) (by decide) HM (by decide) (by decide) ?_
      intro W3 HM2 hgB
      replace HM := HM2
      refine hK.out _ _ (hS.grown hgB hS.size (fun k hk => by injection hk with hk; omega)) (fun hS => ?_)
      clear hK
      (try simp only [Act.put]); (try simp only [zPa]); (try simp only [zPb, zPc])
      refine tkH (i := 9) (v := .map (some bM)) rfl ?_
      refine tkH (i := 10) (v := .map (some bM)) rfl ?_
      refine wpAnyH_done (by kernel_rfl) ?_ _
      go_wp2_with fail
      go_ret
      exact ⟨bM, _, rfl, HM, by decide, by decide, hS⟩
    ·rw [if_pos (by kernel_rfl)]
     (try simp only [zGa]); (try simp only [zGb]); (try simp only [zGc])
     refine wp_insert_place (.tmp 1) (.tmp 5) (.const (.int .i64 1)) rfl bM _ 1 1 1 (by first | with_reducible rfl | (go_simp; done) | rfl) (by first | with_reducible rfl | (go_simp; done) | rfl) rfl rfl (by decide) (by decide) HM (by decide) (by decide) ?_
     intro W3 HM2 hgB
     replace HM := HM2
     refine hK.out _ _ (hS.grown hgB hS.size (fun k hk => by injection hk with hk; omega)) (fun hS => ?_)
     clear hK
     (try simp only [Act.put]); (try simp only [zPa]); (try simp only [zPb, zPc])
     refine wpAnyH_ready (rs := [2]) (by kernel_rfl) (by simp) ?_
     refine (AllReadyH.cons rfl (fun K hK => ?_) AllReadyH.nil)
     ·rw [if_pos (by kernel_rfl)]
      (try simp only [zGa]); (try simp only [zGb]); (try simp only [zGc])
      refine wp_insert_place (.tmp 1) (.tmp 2) (.const (.int .i64 0)) rfl bM _ 0 0 0 (by first | with_reducible rfl | (go_simp; done) | rfl) (by first | with_reducible rfl | (go_simp; done) | rfl) rfl rfl (by decide) (by decide) HM (by decide) (by decide) ?_
      intro W3 HM2 hgB
      replace HM := HM2
      refine hK.out _ _ (hS.grown hgB hS.size (fun k hk => by injection hk with hk; omega)) (fun hS => ?_)
      clear hK
      (try simp only [Act.put]); (try simp only [zPa]); (try simp only [zPb, zPc])
      refine tkH (i := 9) (v := .map (some bM)) rfl ?_
      refine tkH (i := 10) (v := .map (some bM)) rfl ?_
      refine wpAnyH_done (by kernel_rfl) ?_ _
      go_wp2_with fail
      go_ret
      exact ⟨bM, _, rfl, HM, by decide, by decide, hS⟩
   ·rw [if_pos (by kernel_rfl)]
    (try simp only [zGa]); (try simp only [zGb]); (try simp only [zGc])
    refine wp_insert_place (.tmp 1) (.tmp 5) (.const (.int .i64 1)) rfl bM _ 1 1 1 (by first | with_reducible rfl | (go_simp; done) | rfl) (by first | with_reducible rfl | (go_simp; done) | rfl) rfl rfl (by decide) (by decide) HM (by decide) (by decide) ?_
    intro W3 HM2 hgB
    replace HM := HM2
    refine hK.out _ _ (hS.grown hgB hS.size (fun k hk => by injection hk with hk; omega)) (fun hS => ?_)
    clear hK
    (try simp only [Act.put]); (try simp only [zPa]); (try simp only [zPb, zPc])
    refine wpAnyH_ready (rs := [2, 4]) (by kernel_rfl) (by simp) ?_
    refine (AllReadyH.cons rfl (fun K hK => ?_) (AllReadyH.cons rfl (fun K hK => ?_) AllReadyH.nil))
    ·rw [if_pos (by kernel_rfl)]
     (try simp only [zGa]); (try simp only [zGb]); (try simp only [zGc])
     refine wp_insert_place (.tmp 1) (.tmp 2) (.const (.int .i64 0)) rfl bM _ 0 0 0 (by first | with_reducible rfl | (go_simp; done) | rfl) (by first | with_reducible rfl | (go_simp; done) | rfl) rfl rfl (by decide) (by decide) HM (by decide) (by decide) ?_
     intro W3 HM2 hgB
     replace HM := HM2
     refine hK.out _ _ (hS.grown hgB hS.size (fun k hk => by injection hk with hk; omega)) (fun hS => ?_)
     clear hK
     (try simp only [Act.put]); (try simp only [zPa]); (try simp only [zPb, zPc])
     refine wpAnyH_ready (rs := [4]) (by kernel_rfl) (by simp) ?_
     refine (AllReadyH.cons rfl (fun K hK => ?_) AllReadyH.nil)
     ·rw [if_pos (by kernel_rfl)]
      (try simp only [zGa]); (try simp only [zGb]); (try simp only [zGc])
      refine wp_insert_place (.tmp 1) (.tmp 3) (.const (.int .i64 2)) rfl bM _ 1 0 2 (by first | with_reducible rfl | (go_simp; done) | rfl) (by first | with_reducible rfl | (go_simp; done) | rfl) rfl rfl (by decide) (by decide) HM (by decide) (by decide) ?_
      intro W3 HM2 hgB
      replace HM := HM2
      refine hK.out _ _ (hS.grown hgB hS.size (fun k hk => by injection hk with hk; omega)) (fun hS => ?_)
      clear hK
      (try simp only [Act.put]); (try simp only [zPa]); (try simp only [zPb, zPc])
      refine tkH (i := 9) (v := .map (some bM)) rfl ?_
      refine tkH (i := 10) (v := .map (some bM)) rfl ?_
      refine wpAnyH_done (by kernel_rfl) ?_ _
      go_wp2_with fail
      go_ret
      exact ⟨bM, _, rfl, HM, by decide, by decide, hS⟩
    ·rw [if_pos (by kernel_rfl)]
     (try simp only [zGa]); (try simp only [zGb]); (try simp only [zGc])
     refine wp_insert_place (.tmp 1) (.tmp 3) (.const (.int .i64 2)) rfl bM _ 1 0 2 (by first | with_reducible rfl | (go_simp; done) | rfl) (by first | with_reducible rfl | (go_simp; done) | rfl) rfl rfl (by decide) (by decide) HM (by decide) (by decide) ?_
     intro W3 HM2 hgB
     replace HM := HM2
     refine hK.out _ _ (hS.grown hgB hS.size (fun k hk => by injection hk with hk; omega)) (fun hS => ?_)
     clear hK
     (try simp only [Act.put]); (try simp only [zPa]); (try simp only [zPb, zPc])
     refine wpAnyH_ready (rs := [2]) (by kernel_rfl) (by simp) ?_
     refine (AllReadyH.cons rfl (fun K hK => ?_) AllReadyH.nil)
     ·rw [if_pos (by kernel_rfl)]
      (try simp only [zGa]); (try simp only [zGb]); (try simp only [zGc])
      refine wp_insert_place (.tmp 1) (.tmp 2) (.const (.int .i64 0)) rfl bM _ 0 0 0 (by first | with_reducible rfl | (go_simp; done) | rfl) (by first | with_reducible rfl | (go_simp; done) | rfl) rfl rfl (by decide) (by decide) HM (by decide) (by decide) ?_
      intro W3 HM2 hgB
      replace HM := HM2
      refine hK.out _ _ (hS.grown hgB hS.size (fun k hk => by injection hk with hk; omega)) (fun hS => ?_)
      clear hK
      (try simp only [Act.put]); (try simp only [zPa]); (try simp only [zPb, zPc])
      refine tkH (i := 9) (v := .map (some bM)) rfl ?_
      refine tkH (i := 10) (v := .map (some bM)) rfl ?_
      refine wpAnyH_done (by kernel_rfl) ?_ _
      go_wp2_with fail
      go_ret
      exact ⟨bM, _, rfl, HM, by decide, by decide, hS⟩
  ·rw [if_pos (by kernel_rfl)]
   (try simp only [zGa]); (try simp only [zGb]); (try simp only [zGc])
   refine wp_insert_place (.tmp 1) (.tmp 5) (.const (.int .i64 1)) rfl bM _ 1 1 1 (by first | with_reducible rfl | (go_simp; done) | rfl) (by first | with_reducible rfl | (go_simp; done) | rfl) rfl rfl (by decide) (by decide) HM (by decide) (by decide) ?_
   intro W3 HM2 hgB
   replace HM := HM2
   refine hK.out _ _ (hS.grown hgB hS.size (fun k hk => by injection hk with hk; omega)) (fun hS => ?_)
   clear hK
   (try simp only [Act.put]); (try simp only [zPa]); (try simp only [zPb, zPc])
   refine wpAnyH_ready (rs := [2, 4, 6]) (by kernel_rfl) (by simp) ?_
   refine (AllReadyH.cons rfl (fun K hK => ?_) (AllReadyH.cons rfl (fun K hK => ?_) (AllReadyH.cons rfl (fun K hK => ?_) AllReadyH.nil)))
   ·rw [if_pos (by kernel_rfl)]
    (try simp only [zGa]); (try simp only [zGb]); (try simp only [zGc])
    refine wp_insert_place (.tmp 1) (.tmp 2) (.const (.int .i64 0)) rfl bM _ 0 0 0 (by first | with_reducible rfl | (go_simp; done) | rfl) (by first | with_reducible rfl | (go_simp; done) | rfl) rfl rfl (by decide) (by decide) HM (by decide) (by decide) ?_
    intro W3 HM2 hgB
    replace HM := HM2
    refine hK.out _ _ (hS.grown hgB hS.size (fun k hk => by injection hk with hk; omega)) (fun hS => ?_)
    clear hK
    (try simp only [Act.put]); (try simp only [zPa]); (try simp only [zPb, zPc])
    refine wpAnyH_ready (rs := [4, 6]) (by kernel_rfl) (by simp) ?_
    refine (AllReadyH.cons rfl (fun K hK => ?_) (AllReadyH.cons rfl (fun K hK => ?_) AllReadyH.nil))
    ·rw [if_pos (by kernel_rfl)]
     (try simp only [zGa]); (try simp only [zGb]); (try simp only [zGc])
     refine wp_insert_place (.tmp 1) (.tmp 3) (.const (.int .i64 2)) rfl bM _ 1 0 2 (by first | with_reducible rfl | (go_simp; done) | rfl) (by first | with_reducible rfl | (go_simp; done) | rfl) rfl rfl (by decide) (by decide) HM (by decide) (by decide) ?_
     intro W3 HM2 hgB
     replace HM := HM2
     refine hK.out _ _ (hS.grown hgB hS.size (fun k hk => by injection hk with hk; omega)) (fun hS => ?_)
     clear hK
     (try simp only [Act.put]); (try simp only [zPa]); (try simp only [zPb, zPc])
     refine wpAnyH_ready (rs := [6]) (by kernel_rfl) (by simp) ?_
     refine (AllReadyH.cons rfl (fun K hK => ?_) AllReadyH.nil)
     ·rw [if_pos (by kernel_rfl)]
      (try simp only [zGa]); (try simp only [zGb]); (try simp only [zGc])
      refine wp_insert_place (.tmp 1) (.tmp 4) (.const (.int .i64 3)) rfl bM _ 0 1 3 (by first | with_reducible rfl | (go_simp; done) | rfl) (by first | with_reducible rfl | (go_simp; done) | rfl) rfl rfl (by decide) (by decide) HM (by decide) (by decide) ?_
      intro W3 HM2 hgB
      replace HM := HM2
      refine hK.out _ _ (hS.grown hgB hS.size (fun k hk => by injection hk with hk; omega)) (fun hS => ?_)
      clear hK
      (try simp only [Act.put]); (try simp only [zPa]); (try simp only [zPb, zPc])
      refine tkH (i := 9) (v := .map (some bM)) rfl ?_
      refine tkH (i := 10) (v := .map (some bM)) rfl ?_
      refine wpAnyH_done (by kernel_rfl) ?_ _
      go_wp2_with fail
      go_ret
      exact ⟨bM, _, rfl, HM, by decide, by decide, hS⟩
    ·rw [if_pos (by kernel_rfl)]
     (try simp only [zGa]); (try simp only [zGb]); (try simp only [zGc])
     refine wp_insert_place (.tmp 1) (.tmp 4) (.const (.int .i64 3)) rfl bM _ 0 1 3 (by first | with_reducible rfl | (go_simp; done) | rfl) (by first | with_reducible rfl | (go_simp; done) | rfl) rfl rfl (by decide) (by decide) HM (by decide) (by decide) ?_
     intro W3 HM2 hgB
     replace HM := HM2
     refine hK.out _ _ (hS.grown hgB hS.size (fun k hk => by injection hk with hk; omega)) (fun hS => ?_)
     clear hK
     (try simp only [Act.put]); (try simp only [zPa]); (try simp only [zPb, zPc])
     refine wpAnyH_ready (rs := [4]) (by kernel_rfl) (by simp) ?_
     refine (AllReadyH.cons rfl (fun K hK => ?_) AllReadyH.nil)
     ·rw [if_pos (by kernel_rfl)]
      (try simp only [zGa]); (try simp only [zGb]); (try simp only [zGc])
      refine wp_insert_place (.tmp 1) (.tmp 3) (.const (.int .i64 2)) rfl bM _ 1 0 2 (by first | with_reducible rfl | (go_simp; done) | rfl) (by first | with_reducible rfl | (go_simp; done) | rfl) rfl rfl (by decide) (by decide) HM (by decide) (by decide) ?_
      intro W3 HM2 hgB
      replace HM := HM2
      refine hK.out _ _ (hS.grown hgB hS.size (fun k hk => by injection hk with hk; omega)) (fun hS => ?_)
      clear hK
      (try simp only [Act.put]); (try simp only [zPa]); (try simp only [zPb, zPc])
      refine tkH (i := 9) (v := .map (some bM)) rfl ?_
      refine tkH (i := 10) (v := .map (some bM)) rfl ?_
      refine wpAnyH_done (by kernel_rfl) ?_ _
      go_wp2_with fail
      go_ret
      exact ⟨bM, _, rfl, HM, by decide, by decide, hS⟩
   ·rw [if_pos (by kernel_rfl)]
    (try simp only [zGa]); (try simp only [zGb]); (try simp only [zGc])
    refine wp_insert_place (.tmp 1) (.tmp 3) (.const (.int .i64 2)) rfl bM _ 1 0 2 (by first | with_reducible rfl | (go_simp; done) | rfl) (by first | with_reducible rfl | (go_simp; done) | rfl) rfl rfl (by decide) (by decide) HM (by decide) (by decide) ?_
    intro W3 HM2 hgB
    replace HM := HM2
    refine hK.out _ _ (hS.grown hgB hS.size (fun k hk => by injection hk with hk; omega)) (fun hS => ?_)
    clear hK
    (try simp only [Act.put]); (try simp only [zPa]); (try simp only [zPb, zPc])
    refine wpAnyH_ready (rs := [2, 6]) (by kernel_rfl) (by simp) ?_
    refine (AllReadyH.cons rfl (fun K hK => ?_) (AllReadyH.cons rfl (fun K hK => ?_) AllReadyH.nil))
    ·rw [if_pos (by kernel_rfl)]
     (try simp only [zGa]); (try simp only [zGb]); (try simp only [zGc])
     refine wp_insert_place (.tmp 1) (.tmp 2) (.const (.int .i64 0)) rfl bM _ 0 0 0 (by first | with_reducible rfl | (go_simp; done) | rfl) (by first | with_reducible rfl | (go_simp; done) | rfl) rfl rfl (by decide) (by decide) HM (by decide) (by decide) ?_
     intro W3 HM2 hgB
     replace HM := HM2
     refine hK.out _ _ (hS.grown hgB hS.size (fun k hk => by injection hk with hk; omega)) (fun hS => ?_)
     clear hK
     (try simp only [Act.put]); (try simp only [zPa]); (try simp only [zPb, zPc])
     refine wpAnyH_ready (rs := [6]) (by kernel_rfl) (by simp) ?_
     refine (AllReadyH.cons rfl (fun K hK => ?_) AllReadyH.nil)
     ·rw [if_pos (by kernel_rfl)]
      (try simp only [zGa]); (try simp only [zGb]); (try simp only [zGc])
      refine wp_insert_place (.tmp 1) (.tmp 4) (.const (.int .i64 3)) rfl bM _ 0 1 3 (by first | with_reducible rfl | (go_simp; done) | rfl) (by first | with_reducible rfl | (go_simp; done) | rfl) rfl rfl (by decide) (by decide) HM (by decide) (by decide) ?_
      intro W3 HM2 hgB
      replace HM := HM2
      refine hK.out _ _ (hS.grown hgB hS.size (fun k hk => by injection hk with hk; omega)) (fun hS => ?_)
      clear hK
      (try simp only [Act.put]); (try simp only [zPa]); (try simp only [zPb, zPc])
      refine tkH (i := 9) (v := .map (some bM)) rfl ?_
      refine tkH (i := 10) (v := .map (some bM)) rfl ?_
      refine wpAnyH_done (by kernel_rfl) ?_ _
      go_wp2_with fail
      go_ret
      exact ⟨bM, _, rfl, HM, by decide, by decide, hS⟩
    ·rw [if_pos (by kernel_rfl)]
     (try simp only [zGa]); (try simp only [zGb]); (try simp only [zGc])
     refine wp_insert_place (.tmp 1) (.tmp 4) (.const (.int .i64 3)) rfl bM _ 0 1 3 (by first | with_reducible rfl | (go_simp; done) | rfl) (by first | with_reducible rfl | (go_simp; done) | rfl) rfl rfl (by decide) (by decide) HM (by decide) (by decide) ?_
     intro W3 HM2 hgB
     replace HM := HM2
     refine hK.out _ _ (hS.grown hgB hS.size (fun k hk => by injection hk with hk; omega)) (fun hS => ?_)
     clear hK
     (try simp only [Act.put]); (try simp only [zPa]); (try simp only [zPb, zPc])
     refine wpAnyH_ready (rs := [2]) (by kernel_rfl) (by simp) ?_
     refine (AllReadyH.cons rfl (fun K hK => ?_) AllReadyH.nil)
     ·rw [if_pos (by kernel_rfl)]
      (try simp only [zGa]); (try simp only [zGb]); (try simp only [zGc])
      refine wp_insert_place (.tmp 1) (.tmp 2) (.const (.int .i64 0)) rfl bM _ 0 0 0 (by first | with_reducible rfl | (go_simp; done) | rfl) (by first | with_reducible rfl | (go_simp; done) | rfl) rfl rfl (by decide) (by decide) HM (by decide) (by decide) ?_
      intro W3 HM2 hgB
      replace HM := HM2
      refine hK.out _ _ (hS.grown hgB hS.size (fun k hk => by injection hk with hk; omega)) (fun hS => ?_)
      clear hK
      (try simp only [Act.put]); (try simp only [zPa]); (try simp only [zPb, zPc])
      refine tkH (i := 9) (v := .map (some bM)) rfl ?_
      refine tkH (i := 10) (v := .map (some bM)) rfl ?_
      refine wpAnyH_done (by kernel_rfl) ?_ _
      go_wp2_with fail
      go_ret
      exact ⟨bM, _, rfl, HM, by decide, by decide, hS⟩
   ·rw [if_pos (by kernel_rfl)]
    (try simp only [zGa]); (try simp only [zGb]); (try simp only [zGc])
    refine wp_insert_place (.tmp 1) (.tmp 4) (.const (.int .i64 3)) rfl bM _ 0 1 3 (by first | with_reducible rfl | (go_simp; done) | rfl) (by first | with_reducible rfl | (go_simp; done) | rfl) rfl rfl (by decide) (by decide) HM (by decide) (by decide) ?_
    intro W3 HM2 hgB
    replace HM := HM2
    refine hK.out _ _ (hS.grown hgB hS.size (fun k hk => by injection hk with hk; omega)) (fun hS => ?_)
    clear hK
    (try simp only [Act.put]); (try simp only [zPa]); (try simp only [zPb, zPc])
    refine wpAnyH_ready (rs := [2, 4]) (by kernel_rfl) (by simp) ?_
    refine (AllReadyH.cons rfl (fun K hK => ?_) (AllReadyH.cons rfl (fun K hK => ?_) AllReadyH.nil))
    ·rw [if_pos (by kernel_rfl)]
     (try simp only [zGa]); (try simp only [zGb]); (try simp only [zGc])
     refine wp_insert_place (.tmp 1) (.tmp 2) (.const (.int .i64 0)) rfl bM _ 0 0 0 (by first | with_reducible rfl | (go_simp; done) | rfl) (by first | with_reducible rfl | (go_simp; done) | rfl) rfl rfl (by decide) (by decide) HM (by decide) (by decide) ?_
     intro W3 HM2 hgB
     replace HM := HM2
     refine hK.out _ _ (hS.grown hgB hS.size (fun k hk => by injection hk with hk; omega)) (fun hS => ?_)
     clear hK
     (try simp only [Act.put]); (try simp only [zPa]); (try simp only [zPb, zPc])
     refine wpAnyH_ready (rs := [4]) (by kernel_rfl) (by simp) ?_
     refine (AllReadyH.cons rfl (fun K hK => ?_) AllReadyH.nil)
     ·rw [if_pos (by kernel_rfl)]
      (try simp only [zGa]); (try simp only [zGb]); (try simp only [zGc])
      refine wp_insert_place (.tmp 1) (.tmp 3) (.const (.int .i64 2)) rfl bM _ 1 0 2 (by first | with_reducible rfl | (go_simp; done) | rfl) (by first | with_reducible rfl | (go_simp; done) | rfl) rfl rfl (by decide) (by decide) HM (by decide) (by decide) ?_
      intro W3 HM2 hgB
      replace HM := HM2
      refine hK.out _ _ (hS.grown hgB hS.size (fun k hk => by injection hk with hk; omega)) (fun hS => ?_)
      clear hK
      (try simp only [Act.put]); (try simp only [zPa]); (try simp only [zPb, zPc])
      refine tkH (i := 9) (v := .map (some bM)) rfl ?_
      refine tkH (i := 10) (v := .map (some bM)) rfl ?_
      refine wpAnyH_done (by kernel_rfl) ?_ _
      go_wp2_with fail
      go_ret
      exact ⟨bM, _, rfl, HM, by decide, by decide, hS⟩
    ·rw [if_pos (by kernel_rfl)]
     (try simp only [zGa]); (try simp only [zGb]); (try simp only [zGc])
     refine wp_insert_place (.tmp 1) (.tmp 3) (.const (.int .i64 2)) rfl bM _ 1 0 2 (by first | with_reducible rfl | (go_simp; done) | rfl) (by first | with_reducible rfl | (go_simp; done) | rfl) rfl rfl (by decide) (by decide) HM (by decide) (by decide) ?_
     intro W3 HM2 hgB
     replace HM := HM2
     refine hK.out _ _ (hS.grown hgB hS.size (fun k hk => by injection hk with hk; omega)) (fun hS => ?_)
     clear hK
     (try simp only [Act.put]); (try simp only [zPa]); (try simp only [zPb, zPc])
     refine wpAnyH_ready (rs := [2]) (by kernel_rfl) (by simp) ?_
     refine (AllReadyH.cons rfl (fun K hK => ?_) AllReadyH.nil)
     ·rw [if_pos (by kernel_rfl)]
      (try simp only [zGa]); (try simp only [zGb]); (try simp only [zGc])
      refine wp_insert_place (.tmp 1) (.tmp 2) (.const (.int .i64 0)) rfl bM _ 0 0 0 (by first | with_reducible rfl | (go_simp; done) | rfl) (by first | with_reducible rfl | (go_simp; done) | rfl) rfl rfl (by decide) (by decide) HM (by decide) (by decide) ?_
      intro W3 HM2 hgB
      replace HM := HM2
      refine hK.out _ _ (hS.grown hgB hS.size (fun k hk => by injection hk with hk; omega)) (fun hS => ?_)
      clear hK
      (try simp only [Act.put]); (try simp only [zPa]); (try simp only [zPb, zPc])
      refine tkH (i := 9) (v := .map (some bM)) rfl ?_
      refine tkH (i := 10) (v := .map (some bM)) rfl ?_
      refine wpAnyH_done (by kernel_rfl) ?_ _
      go_wp2_with fail
      go_ret
      exact ⟨bM, _, rfl, HM, by decide, by decide, hS⟩
theorem thrI (x y : Int) (w : World) : Calls Tryz.prog 232 #[.int .i64 x, .int .i64 y] w fun e w' => e = .returned (.int .i64 (thr x y)) ∧ Below w.heap.size w w' := by
 obtain ⟨i, hi⟩ : ∃ i, i = x % 2 := ⟨_, rfl⟩
 obtain ⟨j, hj⟩ : ∃ j, j = y % 2 := ⟨_, rfl⟩
 have e1 : bits .and .i64 x 1 = i := by rw [hi]; exact and1 x
 have e2 : bits .and .i64 y 1 = j := by rw [hj]; exact and1 y
 have HT : Hid (thr i j = thr x y) := Lib.hid (by rw [hi, hj]; exact thr_mod x y)
 have Hi : Hid (i = 0 ∨ i = 1) := Lib.hid (by omega)
 have Hj : Hid (j = 0 ∨ j = 1) := Lib.hid (by omega)
 clear hi hj
 go_enter Tryz.func232, Tryz.ntmps232
 go_wp2_with fail
 refine (sqI _).mono ?_
 rintro e w1 ⟨b, E, rfl, hM, hA, hF, hb⟩
 have hl := look_place hM hA hF i j Hi.out Hj.out
 clear hM hA hF
 go_wp2_with fail
 go_ret
 exact ⟨ret_int HT.out, hb⟩
theorem thrS (x y : Int) (w : World) : Calls Tryz.prog 249 #[.int .i64 x, .int .i64 y] w fun e w' => e = .returned (.int .i64 (thr x y)) ∧ w = w' := by
 obtain ⟨i, hi⟩ : ∃ i, i = x % 2 := ⟨_, rfl⟩
 obtain ⟨j, hj⟩ : ∃ j, j = y % 2 := ⟨_, rfl⟩
 have e1 : bits .and .i64 x 1 = i := by rw [hi]; exact and1 x
 have e2 : bits .and .i64 y 1 = j := by rw [hj]; exact and1 y
 have HT : Hid (thr i j = thr x y) := Lib.hid (by rw [hi, hj]; exact thr_mod x y)
 have hi2 : i = 0 ∨ i = 1 := by omega
 have hj2 : j = 0 ∨ j = 1 := by omega
 clear hi hj
 rcases hi2 with rfl | rfl <;> rcases hj2 with rfl | rfl
 all_goals
  go_enter Tryz.func249, Tryz.ntmps249
  go_wp2_with fail
  go_ret
  exact ⟨ret_int HT.out, rfl⟩
theorem dlvI (v t : Int) (hv : chOk v) (h0 : 0 ≤ t) (h1 : t ≤ 3) (w : World) : Calls Tryz.prog 233 #[.int .i64 v, .int .i64 t] w fun e w' => e = .returned (.int .i64 (lev v t)) ∧ w = w' := by
 obtain ⟨v0, v1⟩ := hv
 have HL : Hid (lev v t = (252 * v + 255 * t) / 1020) := Lib.hid rfl
 go_enter Tryz.func233, Tryz.ntmps233
 go_wp2_with fail
 go_ret
 exact ⟨ret_int HL.out.symm, rfl⟩
theorem dleS (v x y : Int) (w : World) : Calls Tryz.prog 228 #[.int .i64 v, .int .i64 x, .int .i64 y] w fun e w' => e = .returned (.int .i64 (levV v x y)) ∧ w = w' := by
 by_cases hv : chOk v
 ·obtain ⟨t, ht⟩ : ∃ t, t = thr x y := ⟨_, rfl⟩
  have HV : Hid (levV v x y = (252 * v + 255 * t) / 1020) := Lib.hid (by rw [levV_yes hv, ht]; rfl)
  have h3 := thr_bd x y
  have HT := Lib.hid (thrS x y)
  rw [← ht] at h3 HT
  obtain ⟨t0, t1⟩ := h3
  obtain ⟨v0, v1⟩ := hv
  clear ht
  go_enter Tryz.func228, Tryz.ntmps228
  go_wp2_with fail
  refine (inS_yes _ 0 255 _ v0 v1).mono ?_
  rintro e w' ⟨rfl, rfl⟩
  go_wp2_with fail
  refine (HT.out _).mono ?_
  rintro e w1 ⟨rfl, rfl⟩
  go_wp2_with fail
  go_ret
  exact ⟨ret_int HV.out.symm, rfl⟩
 ·have HV : Hid (levV v x y = -1) := Lib.hid (levV_no hv _ _)
  have Hn := Lib.hid (ch_no hv)
  clear hv
  go_enter Tryz.func228, Tryz.ntmps228
  go_wp2_with fail
  refine (inS_no _ 0 255 _ Hn.out).mono ?_
  rintro e w' ⟨rfl, rfl⟩
  go_wp2_with fail
  go_ret
  exact ⟨ret_int HV.out.symm, rfl⟩
end Go.Proofs.YtnndifemkichmaaGreat
