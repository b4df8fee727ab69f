/- The walk of the law FnExactIdentityColor: it returns true. -/
import Derived.Test.YtfehdcenmncbpaaIntR
import Derived.Test.YtfehdcenmncbpaaImR
import Derived.Test.YtfehdcenmncbpaaPixM
import Derived.Test.YtfehdcenmncbpaaPixA
import Derived.Test.YtfehdcenmncbpaaColM
import Derived.Test.YtfehdcenmncbpaaImV
import Derived.Test.YtfehdcenmncbpaaBk
import Derived.Test.YtfehdcenmncbpaaCmB
import Derived.Test.YtfehdcenmncbpaaBlk4
import Derived.Test.YtfehdcenmncbpaaHasC
import Derived.Test.YtfehdcenmncbpaaRectEq
import Derived.Test.YtfehdcenmncbpaaRds
import Derived.Test.YtfehdcenmncbpaaCmP
import Derived.Test.YtfehdcenmncbpaaCmQ
import Derived.Test.YtfehdcenmncbpaaFilB
import Derived.Test.YtfehdcenmncbpaaCrpB
import Derived.Test.YtfehdcenmncbpaaCmJ
import Derived.Test.YtfehdcenmncbpaaCmE
import Derived.Test.YtfehdcenmncbpaaProg
import Derived.WalkKit
import Derived.ProofKit
import Derived.OpenShut
import Derived.WalkLawsBesides
import Derived.WalkSpells
import Derived.ShutString
import Derived.ChangeOld
import Derived.Below
import Derived.Lib.Hide
import Derived.BigQuiet
import Derived.Deep.QuietTactic
import Derived.Maps.AppendAt
import Derived.Deep.OwnRows
import Derived.Handy
import Derived.Deep.Draws
import Derived.OwnWalk
import Derived.Deep.AppendLies
import Derived.Deep.LoopGhost
import Derived.Deep.Onto
import Derived.Deep.RegionHeld3
import Derived.Deep.DeepCutAuto
import Derived.Laws.BitsAllLaws
import Derived.Lib.QuoteBits
import Derived.Test.YtfehdcenmncbpaaShelf
import Derived.Laws.CopyOwn
import Derived.Deep.RegionLaw
import Derived.Great.BuildSlice
import Derived.Deep.MidRow
import Derived.Deep.WholeRow
import Derived.Laws.AppendOwn
import Derived.ChangeKeysEq
namespace Go.Proofs.Ytfehdcenmncbpaa
open Go.RowKit
set_option maxHeartbeats 4000000 in
set_option maxRecDepth 10000 in
theorem walk_FnExactIdentityColor  (w : World)  :
    Calls Try.prog 5 #[] w fun e w' => e = .returned (.bool true) ∧ Below w.heap.size w w' := by
  have Kw := Below.refl w.heap.size w
  obtain ⟨LR, hLR⟩ : ∃ M, M = idM := ⟨_, rfl⟩
  obtain ⟨CR, hCR⟩ : ∃ M, M = idC := ⟨_, rfl⟩
  have hlR : LR.length + CR.length ≤ 4194304 := by rw [hLR, hCR]; exact (by decide)
  have PS := fun (W : World)  => idSp W
  have PI := fun (W : World)  => idI W
  unfold CmAns at PS PI
  rw [← hLR, ← hCR] at PS PI
  have HS := Lib.hid PS
  have HI := Lib.hid PI
  clear PS PI hLR hCR
  go_enter Try.func5, Try.ntmps5
  have neg1 : ¬ ((1 + (LR.length + CR.length) : Nat) : Int) < 0 := by omega
  go_wp2_with fail
  refine (HS.out _ ).mono ?_
  rintro e w1 ⟨vo, vp, rfl, u1, u1c, u1n, hb⟩
  obtain ⟨A_u1, c_u1, he⟩ := ownI_shape u1
  subst he
  obtain ⟨B_u1, d_u1, he⟩ := ownI_shape u1c
  subst he
  have hlo_V2 := Lib.hid Kw.size
  have V2 := CmV.born hb u1 u1c u1n
  replace hb := belI_call hb (belI_box w1 (.cells #[.slice A_u1 LR.length c_u1, .slice B_u1 CR.length d_u1] 26))
  replace Kw := belI_call Kw hb
  clear hb u1 u1c u1n
  obtain ⟨V2_0, V2_1⟩ := V2.cells
  go_wp2_with fail
  clear V2_0 V2_1
  refine (HI.out _ ).mono ?_
  rintro e w2 ⟨vo, vp, rfl, u3, u3c, u3n, hb⟩
  obtain ⟨A_u3, c_u3, he⟩ := ownI_shape u3
  subst he
  obtain ⟨B_u3, d_u3, he⟩ := ownI_shape u3c
  subst he
  have hs_V2_V4 := Lib.hid V2.hs
  have hlo_V4 := Lib.hid Kw.size
  have V4 := CmV.born hb u3 u3c u3n
  replace hb := belI_call hb (belI_box w2 (.cells #[.slice A_u3 LR.length c_u3, .slice B_u3 CR.length d_u3] 26))
  replace V2 := V2.call hb
  replace Kw := belI_call Kw hb
  clear hb u3 u3c u3n
  obtain ⟨V2_0, V2_1⟩ := V2.cells
  obtain ⟨V4_0, V4_1⟩ := V4.cells
  go_wp2_with fail
  clear V2_0 V2_1 V4_0 V4_1
  refine (eqCm_same _ _ _ _ LR CR _ V4.rm V4.rc V2.rm V2.rc).mono ?_
  rintro e w3 ⟨rfl, hb⟩
  replace V2 := V2.call hb
  replace V4 := V4.call hb
  replace Kw := belI_call Kw hb
  clear hb
  obtain ⟨V2_0, V2_1⟩ := V2.cells
  obtain ⟨V4_0, V4_1⟩ := V4.cells
  go_wp2_with fail
  clear V2_0 V2_1 V4_0 V4_1
  refine (markCm _ _ _ LR CR (1) _ _ (by omega) (by omega) V4.o1 V4.o2 V4.ne).mono ?_
  rintro e w4 ⟨rfl, hown, howc, wmid, hg, hg2⟩
  replace Kw := belC_mark Kw V4 (by have := hlo_V4.out; omega) hg hg2
  replace V2 := (V2.other hg (fun k hk => by have := V4.row k (.inl hk); have := hs_V2_V4.out; omega)).other hg2 (fun k hk => by have := V4.row k (.inr hk); have := hs_V2_V4.out; omega)
  replace V4 := V4.mark hown howc (marksI_length _ _) (marksI_length _ _) hg hg2
  clear hown howc hg hg2
  have hk_w4 : ¬ ((1 + (LR.length + CR.length) : Nat) : Int) < 0 := by omega
  obtain ⟨V2_0, V2_1⟩ := V2.cells
  obtain ⟨V4_0, V4_1⟩ := V4.cells
  go_wp2_with fail
  clear V2_0 V2_1 V4_0 V4_1
  refine (heldCm _ _ 1 LR.length CR.length _ (by omega) V4.rm V4.rc).mono ?_
  rintro e w5 ⟨rfl, hb⟩
  replace V2 := V2.call hb
  replace V4 := V4.call hb
  replace Kw := belI_call Kw hb
  clear hb
  obtain ⟨V2_0, V2_1⟩ := V2.cells
  obtain ⟨V4_0, V4_1⟩ := V4.cells
  go_wp2_with fail
  clear V2_0 V2_1 V4_0 V4_1
  refine (HI.out _ ).mono ?_
  rintro e w6 ⟨vo, vp, rfl, u5, u5c, u5n, hb⟩
  obtain ⟨A_u5, c_u5, he⟩ := ownI_shape u5
  subst he
  obtain ⟨B_u5, d_u5, he⟩ := ownI_shape u5c
  subst he
  have hs_V2_V6 := Lib.hid V2.hs
  have hs_V4_V6 := Lib.hid V4.hs
  have hlo_V6 := Lib.hid Kw.size
  have V6 := CmV.born hb u5 u5c u5n
  replace hb := belI_call hb (belI_box w6 (.cells #[.slice A_u5 LR.length c_u5, .slice B_u5 CR.length d_u5] 26))
  replace V2 := V2.call hb
  replace V4 := V4.call hb
  replace Kw := belI_call Kw hb
  clear hb u5 u5c u5n
  obtain ⟨V2_0, V2_1⟩ := V2.cells
  obtain ⟨V4_0, V4_1⟩ := V4.cells
  obtain ⟨V6_0, V6_1⟩ := V6.cells
  go_wp2_with fail
  clear V2_0 V2_1 V4_0 V4_1 V6_0 V6_1
  refine (eqCm_same _ _ _ _ LR CR _ V6.rm V6.rc V2.rm V2.rc).mono ?_
  rintro e w7 ⟨rfl, hb⟩
  replace V2 := V2.call hb
  replace V4 := V4.call hb
  replace V6 := V6.call hb
  replace Kw := belI_call Kw hb
  clear hb
  obtain ⟨V2_0, V2_1⟩ := V2.cells
  obtain ⟨V4_0, V4_1⟩ := V4.cells
  obtain ⟨V6_0, V6_1⟩ := V6.cells
  go_wp2_with fail
  clear V2_0 V2_1 V4_0 V4_1 V6_0 V6_1
  refine (heldCm _ _ 1 LR.length CR.length _ (by omega) V4.rm V4.rc).mono ?_
  rintro e w8 ⟨rfl, hb⟩
  replace V2 := V2.call hb
  replace V4 := V4.call hb
  replace V6 := V6.call hb
  replace Kw := belI_call Kw hb
  clear hb
  go_wp2_with fail
  go_ret
  exact ⟨rfl, Kw⟩
end Go.Proofs.Ytfehdcenmncbpaa
