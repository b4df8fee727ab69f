/- Texts of mine in one file: OvI. No statement is proved here. -/
import Derived.Test.YtdgagooldlnpeaaGreatMA
import Derived.Test.YtdgagooldlnpeaaGreatMC
import Derived.Test.YtdgagooldlnpeaaGreatMAv013
import Derived.Test.YtdgagooldlnpeaaGreatCombIv013
import Derived.Test.YtdgagooldlnpeaaGreatMAv01
import Derived.Test.YtdgagooldlnpeaaGreatB2sav01
import Derived.Test.YtdgagooldlnpeaaGreatMBv01
import Derived.Test.YtdgagooldlnpeaaGreatMB
import Derived.Test.YtdgagooldlnpeaaGreatMAv012
import Derived.Test.YtdgagooldlnpeaaGreatB2sa
import Derived.Test.YtdgagooldlnpeaaGreatB2sav013
import Derived.Test.YtdgagooldlnpeaaGreatB2sav13
import Derived.Test.YtdgagooldlnpeaaGreatB1sav013
import Derived.Test.YtdgagooldlnpeaaGreatSeIv013
import Derived.Test.YtdgagooldlnpeaaGreatSfP
import Derived.Test.YtdgagooldlnpeaaGreatSnDv01
import Derived.Test.YtdgagooldlnpeaaGreatB0na
import Derived.Test.YtdgagooldlnpeaaGreatSnS
import Derived.Test.YtdgagooldlnpeaaGreatProg
import Derived.WalkKit
import Derived.ProofKit
import Derived.OpenShut
import Derived.WalkLawsBesides
import Derived.WalkSpells
import Derived.ShutString
import Derived.ChangeOld
import Derived.Below
import Derived.Lib.Hide
import Derived.BigQuiet
import Derived.Deep.QuietTactic
import Derived.Maps.AppendAt
import Derived.Deep.OwnRows
import Derived.Handy
import Derived.Deep.Draws
import Derived.OwnWalk
import Derived.Deep.AppendLies
import Derived.Deep.LoopGhost
import Derived.Deep.Onto
import Derived.Deep.MidRow
import Derived.Deep.WholeRow
import Derived.Laws.BitsAllLaws
import Derived.Lib.QuoteBits
import Derived.Deep.RegionHeld3
import Derived.Deep.DeepCutAuto
import Derived.Test.YtdgagooldlnpeaaGreatShelf
import Derived.Laws.CopyOwn
import Derived.Deep.RegionLaw
import Derived.Great.BuildSlice
import Derived.Shelf.RegionOpenPlain
import Derived.Lib.SliceRun
import Derived.Deep.RegionWith
import Derived.Laws.AppendOwn
import Derived.ChangeKeysEq
import Derived.Deep.DeepAppendRoom
namespace Go.Proofs.YtdgagooldlnpeaaGreat
open Go.RowKit
set_option maxHeartbeats 2000000 in
set_option maxRecDepth 10000 in
theorem visI (s : Sn) (k : Int) (v : Value) (bs : List Nat) (w : World) (h : repSfs.R w s.fs [v] bs) : Calls Tryz.prog 57 #[.agg #[.int .i64 s.w, .int .i64 s.h, .int .i64 s.back, v], .int .i64 k] w (RgQ (visM s k) w) := by
 have hT := CvT.born h
 have HS := fun W h => snI s v bs W h
 unfold SnOkAns at HS
 obtain ⟨⟨A, c, rfl⟩, hml⟩ := repSfs_form h
 obtain ⟨d0, d1, d2, d3⟩ := hT.a.cells
 obtain ⟨r0, r1⟩ := hT.res
 by_cases hs : snOk s
 ·rw [snB_yes hs] at HS
  have HS := Lib.hid HS
  obtain ⟨N, hNe⟩ : ∃ N, N = s.fs.length := ⟨_, rfl⟩
  have hN6 : N ≤ 6 := by rw [hNe]; exact hs.2.2.1
  rw [← hNe] at hml hT HS d3 ⊢
  have HN := Lib.hid hNe
  have Hs := Lib.hid hs
  by_cases hk : 0 ≤ k ∧ k ≤ (N : Int) - 1
  ·obtain ⟨j, rfl⟩ : ∃ j : Nat, k = (j : Int) := ⟨k.toNat, by omega⟩
   have hj : j < N := by omega
   obtain ⟨f, hf⟩ : ∃ f, s.fs[j]? = some f := ⟨_, List.getElem?_eq_getElem (by rw [← hNe]; exact hj)⟩
   have hA := visM_yes hs hf
   obtain ⟨Q, hQ⟩ : ∃ Q, Q = ocV s.w s.h f (s.fs.drop (j + 1)) := ⟨_, rfl⟩
   rw [← hQ] at hA
   have HA := Lib.hid hA
   have HQ := Lib.hid hQ
   have Hf := Lib.hid hf
   have Hk := Lib.hid hk
   have HP := Lib.hid (fun W h => seenI s (.slice A N c) bs W (by rw [← hNe]; exact hN6) h)
   unfold SeenAns at HP
   rw [← hNe] at HP
   have q0 : IntKind.i64.wrap ((N : Int) - 1) = (N : Int) - 1 := wrap_in _ (by omega) (by omega)
   have j0 : (0 : Int) ≤ (j : Int) := by omega
   have j1 : (j : Int) < (N : Int) := by omega
   clear hs hNe hk hA hf hQ
   go_enter Tryz.func57, Tryz.ntmps57
   go_wp2_with fail
   refine (HS.out _ hT.a.r).mono ?_
   rintro e w1 ⟨rfl, hb⟩
   replace hT := hT.call hb
   clear d0 d1 d2 d3 r0 r1 hb
   obtain ⟨d0, d1, d2, d3⟩ := hT.a.cells
   go_wp2_with fail
   refine (inI_yes _ _ _ _ Hk.out.1 Hk.out.2).mono ?_
   rintro e w2 ⟨rfl, rfl⟩
   go_wp2_with fail
   refine (HP.out _ hT.a.r).mono ?_
   rintro e w3 ⟨g, rfl, hSe, hg⟩
   have hxl := hT.x.lt
   obtain ⟨u, hu1, hu2, hu3⟩ := hSe.v j f hj Hf.out
   rw [← HQ.out] at hu2
   obtain ⟨Au, cu, rfl⟩ := own_shape hu2
   have HT := Lib.hid (hT.call hSe.bw)
   obtain ⟨r0, r1⟩ := HT.out.res
   have Hu := Lib.hid hu2
   clear hSe hu2 hu3 hT d0 d1 d2 d3
   go_wp2_with fail
   refine bodyPost_ret (v := .agg #[.slice Au Q.length cu]) (by simp [results, Tryz.results57, go_sem, r0]) rfl ?_
   rw [HA.out]
   exact ⟨_, rfl, own_set Hu.out (by omega) (by omega) _, HT.out.bw.setCell (by simp) _⟩
  ·have HA := Lib.hid (visM_no (s := s) (k := k) fun h => hk ⟨h.2.1, by rw [hNe]; exact h.2.2⟩)
   have q0 : IntKind.i64.wrap ((N : Int) - 1) = (N : Int) - 1 := wrap_in _ (by omega) (by omega)
   have Hk : Hid (k < 0 ∨ (N : Int) - 1 < k) := Lib.hid (by omega)
   clear hs hNe hk
   go_enter Tryz.func57, Tryz.ntmps57
   go_wp2_with fail
   refine (HS.out _ hT.a.r).mono ?_
   rintro e w1 ⟨rfl, hb⟩
   replace hT := hT.call hb
   clear d0 d1 d2 d3 r0 r1 hb
   obtain ⟨d0, d1, d2, d3⟩ := hT.a.cells
   obtain ⟨r0, r1⟩ := hT.res
   go_wp2_with fail
   refine (inI_no _ _ _ _ Hk.out).mono ?_
   rintro e w2 ⟨rfl, rfl⟩
   go_wp2_with fail
   refine bodyPost_ret (v := .agg #[.slice none 0 0]) (by simp [results, Tryz.results57, go_sem, r0]) rfl ?_
   rw [HA.out]
   exact rg_zero hT.bw
 ·rw [snB_no hs] at HS
  have HS := Lib.hid HS
  have HA := Lib.hid (visM_no (s := s) (k := k) fun h => hs h.1)
  clear hs
  go_enter Tryz.func57, Tryz.ntmps57
  go_wp2_with fail
  refine (HS.out _ hT.a.r).mono ?_
  rintro e w1 ⟨rfl, hb⟩
  replace hT := hT.call hb
  clear d0 d1 d2 d3 r0 r1 hb
  obtain ⟨r0, r1⟩ := hT.res
  go_wp2_with fail
  refine bodyPost_ret (v := .agg #[.slice none 0 0]) (by simp [results, Tryz.results57, go_sem, r0]) rfl ?_
  rw [HA.out]
  exact rg_zero hT.bw
end Go.Proofs.YtdgagooldlnpeaaGreat
