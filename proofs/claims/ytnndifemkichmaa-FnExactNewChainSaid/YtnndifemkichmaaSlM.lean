/- The laws' marks of lists of surfaces and of edits. No statement is proved here. -/
import Derived.Test.YtnndifemkichmaaMA
import Derived.Test.YtnndifemkichmaaLk
import Derived.Test.YtnndifemkichmaaMB
import Derived.Test.YtnndifemkichmaaSlE
import Derived.Test.YtnndifemkichmaaProg
import Derived.WalkKit
import Derived.ProofKit
import Derived.OpenShut
import Derived.WalkLawsBesides
import Derived.WalkSpells
import Derived.ShutString
import Derived.ChangeOld
import Derived.Below
import Derived.Lib.Hide
import Derived.BigQuiet
import Derived.Deep.QuietTactic
import Derived.Maps.AppendAt
import Derived.Deep.OwnRows
import Derived.Handy
import Derived.Deep.Draws
import Derived.OwnWalk
import Derived.Deep.AppendLies
import Derived.Deep.LoopGhost
import Derived.Deep.Onto
import Derived.Deep.MidRow
import Derived.Deep.WholeRow
import Derived.Laws.BitsAllLaws
import Derived.Lib.QuoteBits
import Derived.Deep.RegionHeld3
import Derived.Deep.DeepCutAuto
import Derived.Test.YtnndifemkichmaaShelf
import Derived.Laws.CopyOwn
import Derived.Deep.RegionLaw
import Derived.Great.BuildSlice
namespace Go.Proofs.Ytnndifemkichmaa
open Go.RowKit
set_option maxHeartbeats 8000000 in
set_option maxRecDepth 10000 in
theorem markFs (B : Nat) (L : List Sf) (v : Value) (bs : List Nat) (k0 : Nat) (w : World) (hm : k0 + cntFs L ≤ 1000000000) (ho : repSfs.Own B w L [v] bs) :
  Calls Try.prog 71 #[v, .int .i64 k0] w fun e w' => e = .returned (.int .i64 ((k0 + cntFs L : Nat) : Int)) ∧ repSfs.R w' (mkFs k0 L) [v] bs ∧ Chg w w' bs := by
 rcases SlU.of_rep ho.r with ⟨rfl, rfl, rfl⟩ | ⟨g, c, xs0, bss, rfl, hU0, rfl⟩
 ·have HR := Lib.hid ho.r
  clear ho
  have hz : cntFs [] = 0 := rfl
  have Hz := Lib.hid hz
  clear hz hm
  go_enter Try.func71, Try.ntmps71
  go_wp2_with fail
  go_loopw [1, 5] (fun s1 s5 wr => s1 = .int .i64 k0 ∧ s5 = .int .i64 0 ∧ wr = w) (fun _ _ _ => 0)
  case atStart => exact ⟨rfl, rfl, rfl⟩
  case round =>
   obtain ⟨rfl, rfl, rfl⟩ := hrel
   go_wp2_with fail
   go_ret
   exact ⟨ret_int (by rw [Hz.out, Nat.add_zero]), HR.out, Chg.refl _ _⟩
 obtain ⟨n1, n2, _, _⟩ := hU0.nodup ho
 obtain ⟨n, hn⟩ : ∃ n, n = L.length := ⟨_, rfl⟩
 have hmL : L.length ≤ 9223372036854775807 := by have := (form_lFs ho.r).2; unfold maxLen at this; omega
 rw [← hn] at hU0 hmL ⊢
 have Hn := Lib.hid hn
 have Hm := Lib.hid hm
 have HN := Lib.hid (And.intro n1 n2)
 have HU0 := Lib.hid hU0
 clear ho hn hm n1 n2 hU0
 go_enter Try.func71, Try.ntmps71
 go_wp2_with fail
 go_loopw [1, 5] (fun s1 s5 wr => ∃ (k m : Nat) (xs : List (List Value)), k ≤ n ∧ s5 = .int .i64 k ∧ s1 = .int .i64 (m : Int) ∧ Hid (m = k0 + cntFs (L.take k)) ∧ SlU repSf 80 11 wr (mixG (mkFs k0 L) L k) g c n xs bss ∧ Hid (Chg w wr (g :: bss.flatten))) (fun _ s5 _ => n - (intOf s5).toNat)
 case atStart => exact ⟨0, k0, xs0, Nat.zero_le _, rfl, rfl, Lib.hid rfl, by rw [mix_zero]; exact HU0.out, Lib.hid (Chg.refl _ _)⟩
 case round =>
  obtain ⟨k, m, xs, hk, rfl, rfl, HM, hU, HCh⟩ := hrel
  by_cases hlt : k < n
  ·obtain ⟨f0, x, b, hf0, hx, hb, hxl, hR, hC⟩ := hU.at_ hlt
   obtain ⟨f, hf⟩ : ∃ f, L[k]? = some f := ⟨_, List.getElem?_eq_getElem (by rw [← Hn.out]; exact hlt)⟩
   obtain rfl : f0 = f := Option.some.inj (hf0.symm.trans (mix_get (mkFs_length k0 L) hf))
   have h1 := cntFs_take hf
   have hmx : m + 10 + f0.data.length ≤ 1000000000 := by
    have h2 := HM.out
    have h3 := cntFs_le L (k + 1)
    have h4 := Hm.out
    omega
   obtain ⟨d, rfl, hd⟩ := hR
   have hd2 := hd
   obtain ⟨d', e1, how, e2⟩ := hd2
   obtain rfl : d = d' := by simpa using e1
   obtain ⟨Ad, cd, hdd⟩ := (ints_form hd).1
   have hkx : k < xs.length := (List.getElem?_eq_some_iff.1 hx).1
   have hS0 := SetK.zero hU hx
   have hgd : ∀ q ∈ d.ownBlock.toList, q ≠ g := fun q hq e => HN.out.1 (by rw [← e]; exact flat_mem hb (by rw [e2]; exact hq))
   have k0' : (0 : Int) ≤ (k : Int) := by omega
   have k1 : (k : Int) < (n : Int) := by omega
   have m0 : (0 : Int) ≤ (m : Int) := by omega
   have m1 : (m : Int) ≤ 1000000000 := by omega
   have y0 := hC 0 _ rfl
   rw [Nat.add_zero] at y0
   have z0 := hU.frozen (k * 11)
   have y1 := hC 1 _ rfl
   have z1 := hU.frozen (k * 11 + 1)
   have y2 := hC 2 _ rfl
   have z2 := hU.frozen (k * 11 + 2)
   have y3 := hC 3 _ rfl
   have z3 := hU.frozen (k * 11 + 3)
   have y4 := hC 4 _ rfl
   have z4 := hU.frozen (k * 11 + 4)
   have y5 := hC 5 _ rfl
   have z5 := hU.frozen (k * 11 + 5)
   have y6 := hC 6 _ rfl
   have z6 := hU.frozen (k * 11 + 6)
   have y7 := hC 7 _ rfl
   have z7 := hU.frozen (k * 11 + 7)
   have y8 := hC 8 _ rfl
   have z8 := hU.frozen (k * 11 + 8)
   have y9 := hC 9 _ rfl
   have z9 := hU.frozen (k * 11 + 9)
   have y10 := hC 10 _ rfl
   have z10 := hU.frozen (k * 11 + 10)
   obtain ⟨B7, hB7⟩ : ∃ B : Bool, B = (((m + 7 : Nat) : Int) % 3 == 0) := ⟨_, rfl⟩
   have t7 : ((m : Int) + 1 + 1 + 1 + 1 + 1 + 1 + 1).tmod 3 = ((m : Int) + 1 + 1 + 1 + 1 + 1 + 1 + 1) % 3 := Int.tmod_eq_emod_of_nonneg (by omega)
   have q7 : (((m : Int) + 1 + 1 + 1 + 1 + 1 + 1 + 1) % 3 == 0) = B7 := by rw [hB7]; push_cast; rw [show (m : Int) + 1 + 1 + 1 + 1 + 1 + 1 + 1 = (m : Int) + 7 by omega]
   have HB7 := Lib.hid hB7
   clear hB7
   clear hf0
   have HX := Lib.hid hx
   have HBb := Lib.hid hb
   have HUk := Lib.hid hU
   have HS0 := Lib.hid hS0
   have Hf := Lib.hid hf
   have How := Lib.hid how
   have He2 := Lib.hid e2
   have Hgd := Lib.hid hgd
   have H1 := Lib.hid h1
   clear hx hb hU hS0 hf how e1 e2 hgd hd h1 hC hxl
   subst hdd
   go_wp2_with fail
   obtain ⟨WS, hWS⟩ : ∃ W, W = ((((((((((wr.setCell ⟨g, k * 11, none⟩ (.int .i64 ((m : Int)))).setCell ⟨g, k * 11 + 1, none⟩ (.int .i64 ((m : Int) + 1))).setCell ⟨g, k * 11 + 2, none⟩ (.int .i64 ((m : Int) + 1 + 1))).setCell ⟨g, k * 11 + 3, none⟩ (.int .i64 ((m : Int) + 1 + 1 + 1))).setCell ⟨g, k * 11 + 4, none⟩ (.int .i64 ((m : Int) + 1 + 1 + 1 + 1))).setCell ⟨g, k * 11 + 5, none⟩ (.int .i64 ((m : Int) + 1 + 1 + 1 + 1 + 1))).setCell ⟨g, k * 11 + 6, none⟩ (.int .i64 ((m : Int) + 1 + 1 + 1 + 1 + 1 + 1))).setCell ⟨g, k * 11 + 7, none⟩ (.bool B7)).setCell ⟨g, k * 11 + 8, none⟩ (.int .i64 ((m : Int) + 1 + 1 + 1 + 1 + 1 + 1 + 1 + 1))).setCell ⟨g, k * 11 + 8 + 1, none⟩ (.int .i64 ((m : Int) + 1 + 1 + 1 + 1 + 1 + 1 + 1 + 1 + 1))) := ⟨_, rfl⟩
   rw [← hWS]
   have hS1 := HS0.out.put hkx 0 (by omega) (.int .i64 ((m : Int))) rfl
   have hS2 := hS1.put hkx 1 (by omega) (.int .i64 ((m : Int) + 1)) rfl
   have hS3 := hS2.put hkx 2 (by omega) (.int .i64 ((m : Int) + 1 + 1)) rfl
   have hS4 := hS3.put hkx 3 (by omega) (.int .i64 ((m : Int) + 1 + 1 + 1)) rfl
   have hS5 := hS4.put hkx 4 (by omega) (.int .i64 ((m : Int) + 1 + 1 + 1 + 1)) rfl
   have hS6 := hS5.put hkx 5 (by omega) (.int .i64 ((m : Int) + 1 + 1 + 1 + 1 + 1)) rfl
   have hS7 := hS6.put hkx 6 (by omega) (.int .i64 ((m : Int) + 1 + 1 + 1 + 1 + 1 + 1)) rfl
   have hS8 := hS7.put hkx 7 (by omega) (.bool B7) rfl
   have hS9 := hS8.put hkx 8 (by omega) (.int .i64 ((m : Int) + 1 + 1 + 1 + 1 + 1 + 1 + 1 + 1)) rfl
   have hS10 := hS9.put hkx 9 (by omega) (.int .i64 ((m : Int) + 1 + 1 + 1 + 1 + 1 + 1 + 1 + 1 + 1)) rfl
   have hSN : SetK 80 11 wr ((((((((((wr.setCell ⟨g, k * 11, none⟩ (.int .i64 ((m : Int)))).setCell ⟨g, k * 11 + 1, none⟩ (.int .i64 ((m : Int) + 1))).setCell ⟨g, k * 11 + 2, none⟩ (.int .i64 ((m : Int) + 1 + 1))).setCell ⟨g, k * 11 + 3, none⟩ (.int .i64 ((m : Int) + 1 + 1 + 1))).setCell ⟨g, k * 11 + 4, none⟩ (.int .i64 ((m : Int) + 1 + 1 + 1 + 1))).setCell ⟨g, k * 11 + 5, none⟩ (.int .i64 ((m : Int) + 1 + 1 + 1 + 1 + 1))).setCell ⟨g, k * 11 + 6, none⟩ (.int .i64 ((m : Int) + 1 + 1 + 1 + 1 + 1 + 1))).setCell ⟨g, k * 11 + 7, none⟩ (.bool B7)).setCell ⟨g, k * 11 + 8, none⟩ (.int .i64 ((m : Int) + 1 + 1 + 1 + 1 + 1 + 1 + 1 + 1))).setCell ⟨g, k * 11 + 8 + 1, none⟩ (.int .i64 ((m : Int) + 1 + 1 + 1 + 1 + 1 + 1 + 1 + 1 + 1))) g c n k xs [.int .i64 ((m : Int)), .int .i64 ((m : Int) + 1), .int .i64 ((m : Int) + 1 + 1), .int .i64 ((m : Int) + 1 + 1 + 1), .int .i64 ((m : Int) + 1 + 1 + 1 + 1), .int .i64 ((m : Int) + 1 + 1 + 1 + 1 + 1), .int .i64 ((m : Int) + 1 + 1 + 1 + 1 + 1 + 1), .bool B7, .int .i64 ((m : Int) + 1 + 1 + 1 + 1 + 1 + 1 + 1 + 1), .int .i64 ((m : Int) + 1 + 1 + 1 + 1 + 1 + 1 + 1 + 1 + 1), .slice Ad f0.data.length cd] := hS10
   rw [← hWS] at hSN
   have p1 : (m : Int) + 1 = ((m + 1 : Nat) : Int) := by push_cast; omega
   have p2 : (m : Int) + 1 + 1 = ((m + 2 : Nat) : Int) := by push_cast; omega
   have p3 : (m : Int) + 1 + 1 + 1 = ((m + 3 : Nat) : Int) := by push_cast; omega
   have p4 : (m : Int) + 1 + 1 + 1 + 1 = ((m + 4 : Nat) : Int) := by push_cast; omega
   have p5 : (m : Int) + 1 + 1 + 1 + 1 + 1 = ((m + 5 : Nat) : Int) := by push_cast; omega
   have p6 : (m : Int) + 1 + 1 + 1 + 1 + 1 + 1 = ((m + 6 : Nat) : Int) := by push_cast; omega
   have p7 : (m : Int) + 1 + 1 + 1 + 1 + 1 + 1 + 1 = ((m + 7 : Nat) : Int) := by push_cast; omega
   have p8 : (m : Int) + 1 + 1 + 1 + 1 + 1 + 1 + 1 + 1 = ((m + 8 : Nat) : Int) := by push_cast; omega
   have p9 : (m : Int) + 1 + 1 + 1 + 1 + 1 + 1 + 1 + 1 + 1 = ((m + 9 : Nat) : Int) := by push_cast; omega
   have p10 : (m : Int) + 1 + 1 + 1 + 1 + 1 + 1 + 1 + 1 + 1 + 1 = ((m + 10 : Nat) : Int) := by push_cast; omega
   have hcells : [Value.int .i64 ((m : Int)), Value.int .i64 ((m : Int) + 1), Value.int .i64 ((m : Int) + 1 + 1), Value.int .i64 ((m : Int) + 1 + 1 + 1), Value.int .i64 ((m : Int) + 1 + 1 + 1 + 1), Value.int .i64 ((m : Int) + 1 + 1 + 1 + 1 + 1), Value.int .i64 ((m : Int) + 1 + 1 + 1 + 1 + 1 + 1), Value.bool B7, Value.int .i64 ((m : Int) + 1 + 1 + 1 + 1 + 1 + 1 + 1 + 1), Value.int .i64 ((m : Int) + 1 + 1 + 1 + 1 + 1 + 1 + 1 + 1 + 1), Value.slice Ad f0.data.length cd] = sfCells (mkSfK m f0) (.slice Ad f0.data.length cd) := by rw [p9, p8, p6, p5, p4, p3, p2, p1]; rw [HB7.out]; rfl
   rw [hcells] at hSN
   have hch := Chg.of_grown hSN.gr
   have hown := own_chgN How.out hch (fun b hb e => Hgd.out b hb (by simpa using e))
   have HSN := Lib.hid hSN
   have HCG := Lib.hid hch
   have HOWN := Lib.hid hown
   clear hSN hch hown hWS hcells hS1 hS2 hS3 hS4 hS5 hS6 hS7 hS8 hS9 hS10
   clear y0 z0 y1 z1 y2 z2 y3 z3 y4 z4 y5 z5 y6 z6 y7 z7 y8 z8 y9 z9 y10 z10
   rw [p10]
   refine (markIS 0 _ _ f0.data (m + 10) _ hmx HOWN.out).mono ?_
   rintro e w1 ⟨rfl, hmk, hgr⟩
   have hch2 := Chg.of_grown hgr
   have hb2 := He2.out
   have hfin : SlU repSf 80 11 w1 (mixG (mkFs k0 L) L (k + 1)) g c n (xs.set k (sfCells (mkSfK m f0) (.slice Ad f0.data.length cd))) bss ∧ Chg w w1 (g :: bss.flatten) := by
    have hm2 := HM.out
    have ow' := own_chgN HSN.out.ow hch2 (fun q hq e => Hgd.out q e (by simpa [Value.ownBlock] using hq))
    have hR' : repSf.R w1 (mkSfK m f0) (sfCells (mkSfK m f0) (.slice Ad f0.data.length cd)) b := ⟨_, rfl, _, rfl, by
     have h := own_rebase hmk (C := 0) fun _ _ => Nat.zero_le _
     rwa [show (mkSfK m f0).data.length = f0.data.length from marksI_length _ _], hb2⟩
    have hU2 := SlU.upd HUk.out hlt ow' HSN.out.ls hR' (fun j dd hj hdd q hq => by
     have hqf := flat_mem hdd hq
     have h1 : q ≠ g := fun e => HN.out.1 (e ▸ hqf)
     have h2 : q ∉ (Value.slice Ad f0.data.length cd).ownBlock.toList := fun e => rows_nodup HN.out.2 hdd HBb.out hj q hq (by rw [hb2]; exact e)
     have hlt2 := rowsR_ex HUk.out.rr q hqf
     rw [hch2.block q (Nat.lt_of_lt_of_le hlt2 HCG.out.size) h2]
     exact HCG.out.block q hlt2 (fun e => h1 (by simpa using e)))
    rw [set_same HBb.out, mix_set (mkFs_length k0 L) (by have h := mkFs_get k0 Hf.out; rwa [← hm2] at h)] at hU2
    exact ⟨hU2, (HCh.out.trans (HCG.out.mono fun q hq => by rw [show q = g by simpa using hq]; simp)).trans (hch2.mono fun q hq => List.mem_cons.2 (.inr (flat_mem HBb.out (by rw [hb2]; exact hq))))⟩
   have HF := Lib.hid hfin
   have HM2 : Hid (m + 10 + f0.data.length = k0 + cntFs (L.take (k + 1))) := Lib.hid (by have := HM.out; have := H1.out; omega)
   clear hfin hmk hgr hch2 hb2 p1 p2 p3 p4 p5 p6 p7 p8 p9 p10
   clear t7 q7
   go_wp2_with fail
   go_roundw
   case rel => exact ⟨k + 1, m + 10 + f0.data.length, _, by omega, by go_num, rfl, HM2, HF.out.1, Lib.hid HF.out.2⟩
   case measure => simp [intOf]; omega
  ·obtain rfl : k = n := by omega
   have he : m = k0 + cntFs L := by have := HM.out; rwa [List.take_of_length_le (by rw [← Hn.out]; exact Nat.le_refl _)] at this
   have HE := Lib.hid he
   have hU2 := hU
   rw [show mixG (mkFs k0 L) L k = mkFs k0 L from by rw [Hn.out]; exact mix_all (mkFs_length k0 L)] at hU2
   have HU2 := Lib.hid hU2
   clear he hU hU2
   go_wp2_with fail
   go_ret
   refine ⟨ret_int (by rw [HE.out]), ?_, HCh.out⟩
   have h := HU2.out.rep
   exact h
set_option maxHeartbeats 8000000 in
set_option maxRecDepth 10000 in
theorem heldFs (L : List Sf) (v : Value) (bs : List Nat) (k0 : Nat) (w : World) (hm : k0 + cntFs L ≤ 1000000000) (hr : repSfs.R w (mkFs k0 L) [v] bs) :
  Calls Try.prog 86 #[v, .int .i64 k0] w fun e w' => e = .returned (.int .i64 ((k0 + cntFs L : Nat) : Int)) ∧ w' = w := by
 obtain ⟨⟨A, c, rfl⟩, hml⟩ := form_lFs hr
 obtain ⟨n, hn⟩ : ∃ n, n = L.length := ⟨_, rfl⟩
 rw [mkFs_length, ← hn] at hml ⊢
 rw [mkFs_length, ← hn] at hr
 unfold maxLen at hml
 have Hn := Lib.hid hn
 have Hm := Lib.hid hm
 have HR := Lib.hid hr
 clear hr hn hm
 go_enter Try.func86, Try.ntmps86
 go_wp2_with fail
 go_loopw [1, 5] (fun s1 s5 wr => ∃ (k m : Nat), k ≤ n ∧ s5 = .int .i64 k ∧ s1 = .int .i64 (m : Int) ∧ Hid (m = k0 + cntFs (L.take k)) ∧ wr = w) (fun _ s5 _ => n - (intOf s5).toNat)
 case atStart => exact ⟨0, k0, Nat.zero_le _, rfl, rfl, Lib.hid rfl, rfl⟩
 case round =>
  obtain ⟨k, m, hk, rfl, rfl, HM, rfl⟩ := hrel
  by_cases hlt : k < n
  ·obtain ⟨f, hf⟩ : ∃ f, L[k]? = some f := ⟨_, List.getElem?_eq_getElem (by rw [← Hn.out]; exact hlt)⟩
   obtain ⟨g, f1, d, b, rfl, hf1, hR, hC⟩ := at_lFs HR.out (k := k) (by rw [mkFs_length, ← Hn.out]; exact hlt)
   obtain rfl : f1 = mkSfK m f := by have h := mkFs_get k0 hf; rw [← HM.out] at h; exact Option.some.inj (hf1.symm.trans h)
   have h1 := cntFs_take hf
   have hmx : m + 10 + f.data.length ≤ 1000000000 := by
    have h2 := HM.out
    have h3 := cntFs_le L (k + 1)
    have h4 := Hm.out
    omega
   have HD := Lib.hid (repSf_rd hR)
   have k0' : (0 : Int) ≤ (k : Int) := by omega
   have k1 : (k : Int) < (n : Int) := by omega
   have m0 : (0 : Int) ≤ (m : Int) := by omega
   have m1 : (m : Int) ≤ 1000000000 := by omega
   have p1 : (m : Int) + 1 = ((m + 1 : Nat) : Int) := by push_cast; omega
   have p2 : (m : Int) + 1 + 1 = ((m + 2 : Nat) : Int) := by push_cast; omega
   have p3 : (m : Int) + 1 + 1 + 1 = ((m + 3 : Nat) : Int) := by push_cast; omega
   have p4 : (m : Int) + 1 + 1 + 1 + 1 = ((m + 4 : Nat) : Int) := by push_cast; omega
   have p5 : (m : Int) + 1 + 1 + 1 + 1 + 1 = ((m + 5 : Nat) : Int) := by push_cast; omega
   have p6 : (m : Int) + 1 + 1 + 1 + 1 + 1 + 1 = ((m + 6 : Nat) : Int) := by push_cast; omega
   have p7 : (m : Int) + 1 + 1 + 1 + 1 + 1 + 1 + 1 = ((m + 7 : Nat) : Int) := by push_cast; omega
   have p8 : (m : Int) + 1 + 1 + 1 + 1 + 1 + 1 + 1 + 1 = ((m + 8 : Nat) : Int) := by push_cast; omega
   have p9 : (m : Int) + 1 + 1 + 1 + 1 + 1 + 1 + 1 + 1 + 1 = ((m + 9 : Nat) : Int) := by push_cast; omega
   have p10 : (m : Int) + 1 + 1 + 1 + 1 + 1 + 1 + 1 + 1 + 1 + 1 = ((m + 10 : Nat) : Int) := by push_cast; omega
   obtain ⟨B7, hB7⟩ : ∃ B : Bool, B = (((m + 7 : Nat) : Int) % 3 == 0) := ⟨_, rfl⟩
   have t7 : ((m : Int) + 1 + 1 + 1 + 1 + 1 + 1 + 1).tmod 3 = ((m : Int) + 1 + 1 + 1 + 1 + 1 + 1 + 1) % 3 := Int.tmod_eq_emod_of_nonneg (by omega)
   have q7 : (((m : Int) + 1 + 1 + 1 + 1 + 1 + 1 + 1) % 3 == 0) = B7 := by rw [hB7]; push_cast; rw [show (m : Int) + 1 + 1 + 1 + 1 + 1 + 1 + 1 = (m : Int) + 7 by omega]
   have y0 : wr.cell? ⟨g, k * 11, none⟩ = some (.int .i64 ((m : Int))) := by have h := hC 0 _ rfl; exact h
   have y1 : wr.cell? ⟨g, k * 11 + 1, none⟩ = some (.int .i64 ((m : Int) + 1)) := by have h := hC 1 _ rfl; rw [p1]; exact h
   have y2 : wr.cell? ⟨g, k * 11 + 2, none⟩ = some (.int .i64 ((m : Int) + 1 + 1)) := by have h := hC 2 _ rfl; rw [p2]; exact h
   have y3 : wr.cell? ⟨g, k * 11 + 3, none⟩ = some (.int .i64 ((m : Int) + 1 + 1 + 1)) := by have h := hC 3 _ rfl; rw [p3]; exact h
   have y4 : wr.cell? ⟨g, k * 11 + 4, none⟩ = some (.int .i64 ((m : Int) + 1 + 1 + 1 + 1)) := by have h := hC 4 _ rfl; rw [p4]; exact h
   have y5 : wr.cell? ⟨g, k * 11 + 5, none⟩ = some (.int .i64 ((m : Int) + 1 + 1 + 1 + 1 + 1)) := by have h := hC 5 _ rfl; rw [p5]; exact h
   have y6 : wr.cell? ⟨g, k * 11 + 6, none⟩ = some (.int .i64 ((m : Int) + 1 + 1 + 1 + 1 + 1 + 1)) := by have h := hC 6 _ rfl; rw [p6]; exact h
   have y7 : wr.cell? ⟨g, k * 11 + 7, none⟩ = some (.bool B7) := by have h := hC 7 _ rfl; rw [hB7]; exact h
   have y8 : wr.cell? ⟨g, k * 11 + 8, none⟩ = some (.int .i64 ((m : Int) + 1 + 1 + 1 + 1 + 1 + 1 + 1 + 1)) := by have h := hC 8 _ rfl; rw [p8]; exact h
   have y9 : wr.cell? ⟨g, k * 11 + 9, none⟩ = some (.int .i64 ((m : Int) + 1 + 1 + 1 + 1 + 1 + 1 + 1 + 1 + 1)) := by have h := hC 9 _ rfl; rw [p9]; exact h
   have y10 := hC 10 _ rfl
   obtain ⟨Ad, cd, hdd⟩ := HD.out.form
   rw [show (mkSfK m f).data.length = f.data.length from marksI_length _ _] at hdd
   subst hdd
   have HM2 : Hid (m + 10 + f.data.length = k0 + cntFs (L.take (k + 1))) := Lib.hid (by have := HM.out; omega)
   have neg : ¬ ((m + 10 + f.data.length : Nat) : Int) < 0 := by omega
   have P10 := Lib.hid p10
   clear hf hf1 hR hC h1 hB7 p1 p2 p3 p4 p5 p6 p7 p8 p9 p10
   go_wp2_with fail
   rw [P10.out]
   clear y0 y1 y2 y3 y4 y5 y6 y7 y8 y9 y10 t7 q7
   refine (heldIS _ (m + 10) f.data.length _ hmx HD.out).mono ?_
   rintro e w1 ⟨rfl, rfl⟩
   go_wp2_with fail
   go_roundw
   case rel => exact ⟨k + 1, m + 10 + f.data.length, by omega, by go_num, rfl, HM2, by first | rfl | trivial⟩
   case measure => simp [intOf]; omega
  ·obtain rfl : k = n := by omega
   have HE := Lib.hid (show m = k0 + cntFs L by have := HM.out; rwa [List.take_of_length_le (by rw [← Hn.out]; exact Nat.le_refl _)] at this)
   go_wp2_with fail
   go_ret
   exact ⟨ret_int (by rw [HE.out]), rfl⟩
set_option maxHeartbeats 1000000 in
set_option maxRecDepth 10000 in
theorem mark_sn (B : Nat) (f : Sn) (d : Value) (bs : List Nat) (k0 : Nat) (w : World) (hm : k0 + (cntFs f.fs) ≤ 1000000000) (ho : repSn.Own B w f [.int .i64 f.w, .int .i64 f.h, .int .i64 f.back, d] bs) : Calls Try.prog 19 #[.agg #[.int .i64 f.w, .int .i64 f.h, .int .i64 f.back, d], .int .i64 k0] w fun e w' => e = .returned (.int .i64 ((k0 + (cntFs f.fs) : Nat) : Int)) ∧ repSn.R w' (mkSn k0 f) [.int .i64 f.w, .int .i64 f.h, .int .i64 f.back, d] bs ∧ Chg w w' bs := by
 have hb := belI_box w (.cells #[.int .i64 f.w, .int .i64 f.h, .int .i64 f.back, d] 36)
 have HO := Lib.hid ((own_sn ho).call hb)
 have HC := Lib.hid (Chg.of_below bs hb)
 obtain ⟨A, c, rfl⟩ := form_sn ho.r
 clear ho hb
 go_enter Try.func19, Try.ntmps19
 go_wp2_with fail
 refine (markFs B f.fs _ bs k0 _ hm HO.out).mono ?_
 rintro e w1 ⟨rfl, hr, hc⟩
 have HR := Lib.hid hr
 have HC2 := Lib.hid (HC.out.trans hc)
 clear hr hc
 go_wp2_with fail
 go_ret
 exact ⟨rfl, ⟨_, rfl, HR.out⟩, HC2.out⟩
set_option maxHeartbeats 1000000 in
set_option maxRecDepth 10000 in
theorem held_sn (f : Sn) (d : Value) (bs : List Nat) (k0 : Nat) (w : World) (hm : k0 + (cntFs f.fs) ≤ 1000000000) (hr : repSn.R w (mkSn k0 f) [.int .i64 f.w, .int .i64 f.h, .int .i64 f.back, d] bs) : Calls Try.prog 30 #[.agg #[.int .i64 f.w, .int .i64 f.h, .int .i64 f.back, d], .int .i64 k0] w fun e w' => e = .returned (.int .i64 ((k0 + (cntFs f.fs) : Nat) : Int)) ∧ Below w.heap.size w w' := by
 have hb := belI_box w (.cells #[.int .i64 f.w, .int .i64 f.h, .int .i64 f.back, d] 36)
 have HR := Lib.hid (Rep.call (r_sn (s := mkSn k0 f) hr) hb)
 have HB := Lib.hid hb
 obtain ⟨A, c, hd⟩ := form_sn (s := mkSn k0 f) hr
 subst hd
 have neg : ¬ ((k0 + (cntFs f.fs) : Nat) : Int) < 0 := by omega
 clear hr hb
 go_enter Try.func30, Try.ntmps30
 go_wp2_with fail
 refine (heldFs f.fs _ bs k0 _ hm HR.out).mono ?_
 rintro e w1 ⟨rfl, rfl⟩
 go_wp2_with fail
 go_ret
 exact ⟨rfl, HB.out⟩
end Go.Proofs.Ytnndifemkichmaa
