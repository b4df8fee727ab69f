/- The laws' marks of lists of images and of regions. No statement is proved here. -/
import Derived.Test.YtnndifemkichmaaMA
import Derived.Test.YtnndifemkichmaaMB
import Derived.Test.YtnndifemkichmaaLk
import Derived.Test.YtnndifemkichmaaChM
import Derived.Test.YtnndifemkichmaaIsE
import Derived.Test.YtnndifemkichmaaProg
import Derived.WalkKit
import Derived.ProofKit
import Derived.OpenShut
import Derived.WalkLawsBesides
import Derived.WalkSpells
import Derived.ShutString
import Derived.ChangeOld
import Derived.Below
import Derived.Lib.Hide
import Derived.BigQuiet
import Derived.Deep.QuietTactic
import Derived.Maps.AppendAt
import Derived.Deep.OwnRows
import Derived.Handy
import Derived.Deep.Draws
import Derived.OwnWalk
import Derived.Deep.AppendLies
import Derived.Deep.LoopGhost
import Derived.Deep.Onto
import Derived.Deep.MidRow
import Derived.Deep.WholeRow
import Derived.Laws.BitsAllLaws
import Derived.Lib.QuoteBits
import Derived.Deep.RegionHeld3
import Derived.Deep.DeepCutAuto
import Derived.Test.YtnndifemkichmaaShelf
import Derived.Laws.CopyOwn
import Derived.Deep.RegionLaw
import Derived.Great.BuildSlice
import Derived.Laws.AppendOwn
namespace Go.Proofs.Ytnndifemkichmaa
open Go.RowKit
set_option maxHeartbeats 8000000 in
set_option maxRecDepth 10000 in
theorem markIs (B : Nat) (L : List Im) (v : Value) (bs : List Nat) (k0 : Nat) (w : World) (hm : k0 + cntIs L ≤ 1000000000) (ho : repIms.Own B w L [v] bs) :
  Calls Try.prog 72 #[v, .int .i64 k0] w fun e w' => e = .returned (.int .i64 ((k0 + cntIs L : Nat) : Int)) ∧ repIms.R w' (mkIs k0 L) [v] bs ∧ Chg w w' bs := by
 rcases SlU.of_rep ho.r with ⟨rfl, rfl, rfl⟩ | ⟨g, c, xs0, bss, rfl, hU0, rfl⟩
 ·have HR := Lib.hid ho.r
  clear ho
  have hz : cntIs [] = 0 := rfl
  have Hz := Lib.hid hz
  clear hz hm
  go_enter Try.func72, Try.ntmps72
  go_wp2_with fail
  go_loopw [1, 5] (fun s1 s5 wr => s1 = .int .i64 k0 ∧ s5 = .int .i64 0 ∧ wr = w) (fun _ _ _ => 0)
  case atStart => exact ⟨rfl, rfl, rfl⟩
  case round =>
   obtain ⟨rfl, rfl, rfl⟩ := hrel
   go_wp2_with fail
   go_ret
   exact ⟨ret_int (by rw [Hz.out, Nat.add_zero]), HR.out, Chg.refl _ _⟩
 obtain ⟨n1, n2, _, _⟩ := hU0.nodup ho
 obtain ⟨n, hn⟩ : ∃ n, n = L.length := ⟨_, rfl⟩
 have hmL : L.length ≤ 9223372036854775807 := by have := (form_lIs ho.r).2; unfold maxLen at this; omega
 rw [← hn] at hU0 hmL ⊢
 have Hn := Lib.hid hn
 have Hm := Lib.hid hm
 have HN := Lib.hid (And.intro n1 n2)
 have HU0 := Lib.hid hU0
 clear ho hn hm n1 n2 hU0
 go_enter Try.func72, Try.ntmps72
 go_wp2_with fail
 go_loopw [1, 5] (fun s1 s5 wr => ∃ (k m : Nat) (xs : List (List Value)), k ≤ n ∧ s5 = .int .i64 k ∧ s1 = .int .i64 (m : Int) ∧ Hid (m = k0 + cntIs (L.take k)) ∧ SlU repIm 58 3 wr (mixG (mkIs k0 L) L k) g c n xs bss ∧ Hid (Chg w wr (g :: bss.flatten))) (fun _ s5 _ => n - (intOf s5).toNat)
 case atStart => exact ⟨0, k0, xs0, Nat.zero_le _, rfl, rfl, Lib.hid rfl, by rw [mix_zero]; exact HU0.out, Lib.hid (Chg.refl _ _)⟩
 case round =>
  obtain ⟨k, m, xs, hk, rfl, rfl, HM, hU, HCh⟩ := hrel
  by_cases hlt : k < n
  ·obtain ⟨f0, x, b, hf0, hx, hb, hxl, hR, hC⟩ := hU.at_ hlt
   obtain ⟨f, hf⟩ : ∃ f, L[k]? = some f := ⟨_, List.getElem?_eq_getElem (by rw [← Hn.out]; exact hlt)⟩
   obtain rfl : f0 = f := Option.some.inj (hf0.symm.trans (mix_get (mkIs_length k0 L) hf))
   have h1 := cntIs_take hf
   have hmx : m + 2 + f0.d.length ≤ 1000000000 := by
    have h2 := HM.out
    have h3 := cntIs_le L (k + 1)
    have h4 := Hm.out
    omega
   obtain ⟨d, rfl, hd⟩ := hR
   have hd2 := hd
   obtain ⟨d', e1, how, e2⟩ := hd2
   obtain rfl : d = d' := by simpa using e1
   obtain ⟨Ad, cd, hdd⟩ := (ints_form hd).1
   have hkx : k < xs.length := (List.getElem?_eq_some_iff.1 hx).1
   have hS0 := SetK.zero hU hx
   have hgd : ∀ q ∈ d.ownBlock.toList, q ≠ g := fun q hq e => HN.out.1 (by rw [← e]; exact flat_mem hb (by rw [e2]; exact hq))
   have k0' : (0 : Int) ≤ (k : Int) := by omega
   have k1 : (k : Int) < (n : Int) := by omega
   have m0 : (0 : Int) ≤ (m : Int) := by omega
   have m1 : (m : Int) ≤ 1000000000 := by omega
   have y0 := hC 0 _ rfl
   rw [Nat.add_zero] at y0
   have z0 := hU.frozen (k * 3)
   have y1 := hC 1 _ rfl
   have z1 := hU.frozen (k * 3 + 1)
   have y2 := hC 2 _ rfl
   have z2 := hU.frozen (k * 3 + 2)
   clear hf0
   have HX := Lib.hid hx
   have HBb := Lib.hid hb
   have HUk := Lib.hid hU
   have HS0 := Lib.hid hS0
   have Hf := Lib.hid hf
   have How := Lib.hid how
   have He2 := Lib.hid e2
   have Hgd := Lib.hid hgd
   have H1 := Lib.hid h1
   clear hx hb hU hS0 hf how e1 e2 hgd hd h1 hC hxl
   subst hdd
   go_wp2_with fail
   obtain ⟨WS, hWS⟩ : ∃ W, W = ((wr.setCell ⟨g, k * 3, none⟩ (.int .i64 ((m : Int)))).setCell ⟨g, k * 3 + 1, none⟩ (.int .i64 ((m : Int) + 1))) := ⟨_, rfl⟩
   rw [← hWS]
   have hS1 := HS0.out.put hkx 0 (by omega) (.int .i64 ((m : Int))) rfl
   have hS2 := hS1.put hkx 1 (by omega) (.int .i64 ((m : Int) + 1)) rfl
   have hSN : SetK 58 3 wr ((wr.setCell ⟨g, k * 3, none⟩ (.int .i64 ((m : Int)))).setCell ⟨g, k * 3 + 1, none⟩ (.int .i64 ((m : Int) + 1))) g c n k xs [.int .i64 ((m : Int)), .int .i64 ((m : Int) + 1), .slice Ad f0.d.length cd] := hS2
   rw [← hWS] at hSN
   have p1 : (m : Int) + 1 = ((m + 1 : Nat) : Int) := by push_cast; omega
   have p2 : (m : Int) + 1 + 1 = ((m + 2 : Nat) : Int) := by push_cast; omega
   have hcells : [Value.int .i64 ((m : Int)), Value.int .i64 ((m : Int) + 1), Value.slice Ad f0.d.length cd] = imCells (mkImK m f0) (.slice Ad f0.d.length cd) := by rw [p1]; rfl
   rw [hcells] at hSN
   have hch := Chg.of_grown hSN.gr
   have hown := own_chgN How.out hch (fun b hb e => Hgd.out b hb (by simpa using e))
   have HSN := Lib.hid hSN
   have HCG := Lib.hid hch
   have HOWN := Lib.hid hown
   clear hSN hch hown hWS hcells hS1 hS2
   clear y0 z0 y1 z1 y2 z2
   rw [p2]
   refine (markIS 0 _ _ f0.d (m + 2) _ hmx HOWN.out).mono ?_
   rintro e w1 ⟨rfl, hmk, hgr⟩
   have hch2 := Chg.of_grown hgr
   have hb2 := He2.out
   have hfin : SlU repIm 58 3 w1 (mixG (mkIs k0 L) L (k + 1)) g c n (xs.set k (imCells (mkImK m f0) (.slice Ad f0.d.length cd))) bss ∧ Chg w w1 (g :: bss.flatten) := by
    have hm2 := HM.out
    have ow' := own_chgN HSN.out.ow hch2 (fun q hq e => Hgd.out q e (by simpa [Value.ownBlock] using hq))
    have hR' : repIm.R w1 (mkImK m f0) (imCells (mkImK m f0) (.slice Ad f0.d.length cd)) b := ⟨_, rfl, _, rfl, by
     have h := own_rebase hmk (C := 0) fun _ _ => Nat.zero_le _
     rwa [show (mkImK m f0).d.length = f0.d.length from marksI_length _ _], hb2⟩
    have hU2 := SlU.upd HUk.out hlt ow' HSN.out.ls hR' (fun j dd hj hdd q hq => by
     have hqf := flat_mem hdd hq
     have h1 : q ≠ g := fun e => HN.out.1 (e ▸ hqf)
     have h2 : q ∉ (Value.slice Ad f0.d.length cd).ownBlock.toList := fun e => rows_nodup HN.out.2 hdd HBb.out hj q hq (by rw [hb2]; exact e)
     have hlt2 := rowsR_ex HUk.out.rr q hqf
     rw [hch2.block q (Nat.lt_of_lt_of_le hlt2 HCG.out.size) h2]
     exact HCG.out.block q hlt2 (fun e => h1 (by simpa using e)))
    rw [set_same HBb.out, mix_set (mkIs_length k0 L) (by have h := mkIs_get k0 Hf.out; rwa [← hm2] at h)] at hU2
    exact ⟨hU2, (HCh.out.trans (HCG.out.mono fun q hq => by rw [show q = g by simpa using hq]; simp)).trans (hch2.mono fun q hq => List.mem_cons.2 (.inr (flat_mem HBb.out (by rw [hb2]; exact hq))))⟩
   have HF := Lib.hid hfin
   have HM2 : Hid (m + 2 + f0.d.length = k0 + cntIs (L.take (k + 1))) := Lib.hid (by have := HM.out; have := H1.out; omega)
   clear hfin hmk hgr hch2 hb2 p1 p2
   go_wp2_with fail
   go_roundw
   case rel => exact ⟨k + 1, m + 2 + f0.d.length, _, by omega, by go_num, rfl, HM2, HF.out.1, Lib.hid HF.out.2⟩
   case measure => simp [intOf]; omega
  ·obtain rfl : k = n := by omega
   have he : m = k0 + cntIs L := by have := HM.out; rwa [List.take_of_length_le (by rw [← Hn.out]; exact Nat.le_refl _)] at this
   have HE := Lib.hid he
   have hU2 := hU
   rw [show mixG (mkIs k0 L) L k = mkIs k0 L from by rw [Hn.out]; exact mix_all (mkIs_length k0 L)] at hU2
   have HU2 := Lib.hid hU2
   clear he hU hU2
   go_wp2_with fail
   go_ret
   refine ⟨ret_int (by rw [HE.out]), ?_, HCh.out⟩
   have h := HU2.out.rep
   exact h
set_option maxHeartbeats 8000000 in
set_option maxRecDepth 10000 in
theorem heldIs (L : List Im) (v : Value) (bs : List Nat) (k0 : Nat) (w : World) (hm : k0 + cntIs L ≤ 1000000000) (hr : repIms.R w (mkIs k0 L) [v] bs) :
  Calls Try.prog 75 #[v, .int .i64 k0] w fun e w' => e = .returned (.int .i64 ((k0 + cntIs L : Nat) : Int)) ∧ w' = w := by
 obtain ⟨⟨A, c, rfl⟩, hml⟩ := form_lIs hr
 obtain ⟨n, hn⟩ : ∃ n, n = L.length := ⟨_, rfl⟩
 rw [mkIs_length, ← hn] at hml ⊢
 rw [mkIs_length, ← hn] at hr
 unfold maxLen at hml
 have Hn := Lib.hid hn
 have Hm := Lib.hid hm
 have HR := Lib.hid hr
 clear hr hn hm
 go_enter Try.func75, Try.ntmps75
 go_wp2_with fail
 go_loopw [1, 5] (fun s1 s5 wr => ∃ (k m : Nat), k ≤ n ∧ s5 = .int .i64 k ∧ s1 = .int .i64 (m : Int) ∧ Hid (m = k0 + cntIs (L.take k)) ∧ wr = w) (fun _ s5 _ => n - (intOf s5).toNat)
 case atStart => exact ⟨0, k0, Nat.zero_le _, rfl, rfl, Lib.hid rfl, rfl⟩
 case round =>
  obtain ⟨k, m, hk, rfl, rfl, HM, rfl⟩ := hrel
  by_cases hlt : k < n
  ·obtain ⟨f, hf⟩ : ∃ f, L[k]? = some f := ⟨_, List.getElem?_eq_getElem (by rw [← Hn.out]; exact hlt)⟩
   obtain ⟨g, f1, d, b, rfl, hf1, hR, hC⟩ := at_lIs HR.out (k := k) (by rw [mkIs_length, ← Hn.out]; exact hlt)
   obtain rfl : f1 = mkImK m f := by have h := mkIs_get k0 hf; rw [← HM.out] at h; exact Option.some.inj (hf1.symm.trans h)
   have h1 := cntIs_take hf
   have hmx : m + 2 + f.d.length ≤ 1000000000 := by
    have h2 := HM.out
    have h3 := cntIs_le L (k + 1)
    have h4 := Hm.out
    omega
   have HD := Lib.hid (repInts_rd (r_im hR))
   have k0' : (0 : Int) ≤ (k : Int) := by omega
   have k1 : (k : Int) < (n : Int) := by omega
   have m0 : (0 : Int) ≤ (m : Int) := by omega
   have m1 : (m : Int) ≤ 1000000000 := by omega
   have p1 : (m : Int) + 1 = ((m + 1 : Nat) : Int) := by push_cast; omega
   have p2 : (m : Int) + 1 + 1 = ((m + 2 : Nat) : Int) := by push_cast; omega
   have y0 : wr.cell? ⟨g, k * 3, none⟩ = some (.int .i64 (m : Int)) := by have h := hC 0 _ rfl; exact h
   have y1 : wr.cell? ⟨g, k * 3 + 1, none⟩ = some (.int .i64 ((m : Int) + 1)) := by have h := hC 1 _ rfl; rw [p1]; exact h
   have y2 := hC 2 _ rfl
   obtain ⟨Ad, cd, hdd⟩ := HD.out.form
   rw [show (mkImK m f).d.length = f.d.length from marksI_length _ _] at hdd
   subst hdd
   have HM2 : Hid (m + 2 + f.d.length = k0 + cntIs (L.take (k + 1))) := Lib.hid (by have := HM.out; omega)
   have neg : ¬ ((m + 2 + f.d.length : Nat) : Int) < 0 := by omega
   have P2 := Lib.hid p2
   clear hf hf1 hR hC h1 p1 p2
   go_wp2_with fail
   rw [P2.out]
   clear y0 y1 y2
   refine (heldIS _ (m + 2) f.d.length _ hmx HD.out).mono ?_
   rintro e w1 ⟨rfl, rfl⟩
   go_wp2_with fail
   go_roundw
   case rel => exact ⟨k + 1, m + 2 + f.d.length, by omega, by go_num, rfl, HM2, by first | rfl | trivial⟩
   case measure => simp [intOf]; omega
  ·obtain rfl : k = n := by omega
   have HE := Lib.hid (show m = k0 + cntIs L by have := HM.out; rwa [List.take_of_length_le (by rw [← Hn.out]; exact Nat.le_refl _)] at this)
   go_wp2_with fail
   go_ret
   exact ⟨ret_int (by rw [HE.out]), rfl⟩
set_option maxHeartbeats 8000000 in
set_option maxRecDepth 10000 in
theorem heldGs (L : List (List Rc)) (v : Value) (bs : List Nat) (k0 : Nat) (w : World) (hm : k0 + cntGs L ≤ 1000000000) (hr : repRgs.R w (mkGs k0 L) [v] bs) :
  Calls Try.prog 77 #[v, .int .i64 k0] w fun e w' => e = .returned (.int .i64 ((k0 + cntGs L : Nat) : Int)) ∧ w' = w := by
 obtain ⟨⟨A, c, rfl⟩, hml⟩ := form_lGs hr
 obtain ⟨n, hn⟩ : ∃ n, n = L.length := ⟨_, rfl⟩
 rw [mkGs_length, ← hn] at hml ⊢
 rw [mkGs_length, ← hn] at hr
 unfold maxLen at hml
 have Hn := Lib.hid hn
 have Hm := Lib.hid hm
 have HR := Lib.hid hr
 clear hr hn hm
 go_enter Try.func77, Try.ntmps77
 go_wp2_with fail
 go_loopw [1, 5] (fun s1 s5 wr => ∃ (k m : Nat), k ≤ n ∧ s5 = .int .i64 k ∧ s1 = .int .i64 (m : Int) ∧ Hid (m = k0 + cntGs (L.take k)) ∧ wr = w) (fun _ s5 _ => n - (intOf s5).toNat)
 case atStart => exact ⟨0, k0, Nat.zero_le _, rfl, rfl, Lib.hid rfl, rfl⟩
 case round =>
  obtain ⟨k, m, hk, rfl, rfl, HM, rfl⟩ := hrel
  by_cases hlt : k < n
  ·obtain ⟨f, hf⟩ : ∃ f, L[k]? = some f := ⟨_, List.getElem?_eq_getElem (by rw [← Hn.out]; exact hlt)⟩
   obtain ⟨g, f1, d, b, rfl, hf1, hR, hC⟩ := at_lGs HR.out (k := k) (by rw [mkGs_length, ← Hn.out]; exact hlt)
   obtain rfl : f1 = mkRg m f := by have h := mkGs_get k0 hf; rw [← HM.out] at h; exact Option.some.inj (hf1.symm.trans h)
   have h1 := cntGs_take hf
   have hmx : m + 4 * f.length ≤ 1000000000 := by
    have h2 := HM.out
    have h3 := cntGs_le L (k + 1)
    have h4 := Hm.out
    omega
   have HD := Lib.hid (r_rg hR)
   have k0' : (0 : Int) ≤ (k : Int) := by omega
   have k1 : (k : Int) < (n : Int) := by omega
   have m0 : (0 : Int) ≤ (m : Int) := by omega
   have m1 : (m : Int) ≤ 1000000000 := by omega
   have y0 := hC 0 _ rfl
   rw [Nat.add_zero, Nat.mul_one] at y0
   obtain ⟨Ad, cd, hdd⟩ := HD.out.form
   rw [show (mkRg m f).length = f.length from marksL_length _ _] at hdd
   subst hdd
   have HM2 : Hid (m + 4 * f.length = k0 + cntGs (L.take (k + 1))) := Lib.hid (by have := HM.out; omega)
   have neg : ¬ ((m + 4 * f.length : Nat) : Int) < 0 := by omega
   clear hf hf1 hR hC h1
   go_wp2_with fail
   clear y0
   refine (heldRS _ m f.length _ (by omega) HD.out).mono ?_
   rintro e w1 ⟨rfl, rfl⟩
   go_wp2_with fail
   go_roundw
   case rel => exact ⟨k + 1, m + 4 * f.length, by omega, by go_num, rfl, HM2, by first | rfl | trivial⟩
   case measure => simp [intOf]; omega
  ·obtain rfl : k = n := by omega
   have HE := Lib.hid (show m = k0 + cntGs L by have := HM.out; rwa [List.take_of_length_le (by rw [← Hn.out]; exact Nat.le_refl _)] at this)
   go_wp2_with fail
   go_ret
   exact ⟨ret_int (by rw [HE.out]), rfl⟩
set_option maxHeartbeats 8000000 in
set_option maxRecDepth 10000 in
theorem markGs (B : Nat) (L : List (List Rc)) (v : Value) (bs : List Nat) (k0 : Nat) (w : World) (hm : k0 + cntGs L ≤ 1000000000) (ho : repRgs.Own B w L [v] bs) :
  Calls Try.prog 74 #[v, .int .i64 k0] w fun e w' => e = .returned (.int .i64 ((k0 + cntGs L : Nat) : Int)) ∧ repRgs.R w' (mkGs k0 L) [v] bs ∧ Chg w w' bs := by
 rcases SlU.of_rep ho.r with ⟨rfl, rfl, rfl⟩ | ⟨g, c, xs0, bss, rfl, hU0, rfl⟩
 ·have HR := Lib.hid ho.r
  clear ho
  have hz : cntGs [] = 0 := rfl
  have Hz := Lib.hid hz
  clear hz hm
  go_enter Try.func74, Try.ntmps74
  go_wp2_with fail
  go_loopw [1, 5] (fun s1 s5 wr => s1 = .int .i64 k0 ∧ s5 = .int .i64 0 ∧ wr = w) (fun _ _ _ => 0)
  case atStart => exact ⟨rfl, rfl, rfl⟩
  case round =>
   obtain ⟨rfl, rfl, rfl⟩ := hrel
   go_wp2_with fail
   go_ret
   exact ⟨ret_int (by rw [Hz.out, Nat.add_zero]), HR.out, Chg.refl _ _⟩
 obtain ⟨n1, n2, _, _⟩ := hU0.nodup ho
 obtain ⟨n, hn⟩ : ∃ n, n = L.length := ⟨_, rfl⟩
 have hmL : L.length ≤ 9223372036854775807 := by have := (form_lGs ho.r).2; unfold maxLen at this; omega
 rw [← hn] at hU0 hmL ⊢
 have Hn := Lib.hid hn
 have Hm := Lib.hid hm
 have HN := Lib.hid (And.intro n1 n2)
 have HU0 := Lib.hid hU0
 clear ho hn hm n1 n2 hU0
 go_enter Try.func74, Try.ntmps74
 go_wp2_with fail
 go_loopw [1, 5] (fun s1 s5 wr => ∃ (k m : Nat), k ≤ n ∧ s5 = .int .i64 k ∧ s1 = .int .i64 (m : Int) ∧ Hid (m = k0 + cntGs (L.take k)) ∧ SlU repRg 90 1 wr (mixG (mkGs k0 L) L k) g c n xs0 bss ∧ Hid (Chg w wr (g :: bss.flatten))) (fun _ s5 _ => n - (intOf s5).toNat)
 case atStart => exact ⟨0, k0, Nat.zero_le _, rfl, rfl, Lib.hid rfl, by rw [mix_zero]; exact HU0.out, Lib.hid (Chg.refl _ _)⟩
 case round =>
  obtain ⟨k, m, hk, rfl, rfl, HM, hU, HCh⟩ := hrel
  by_cases hlt : k < n
  ·obtain ⟨f0, x, b, hf0, hx, hb, hxl, hR, hC⟩ := hU.at_ hlt
   obtain ⟨f, hf⟩ : ∃ f, L[k]? = some f := ⟨_, List.getElem?_eq_getElem (by rw [← Hn.out]; exact hlt)⟩
   obtain rfl : f0 = f := Option.some.inj (hf0.symm.trans (mix_get (mkGs_length k0 L) hf))
   have h1 := cntGs_take hf
   have hmx : m + 4 * f0.length ≤ 1000000000 := by
    have h2 := HM.out
    have h3 := cntGs_le L (k + 1)
    have h4 := Hm.out
    omega
   have hR2 := hR
   obtain ⟨d, rfl, how, e2⟩ := hR2
   obtain ⟨Ad, cd, hdd⟩ := (RdR.of_own how).form
   subst hdd
   have hkx : k < xs0.length := (List.getElem?_eq_some_iff.1 hx).1
   have hgd : ∀ q ∈ (Value.slice Ad f0.length cd).ownBlock.toList, q ≠ g := fun q hq e => HN.out.1 (by rw [← e]; exact flat_mem hb (by rw [e2]; exact hq))
   have k0' : (0 : Int) ≤ (k : Int) := by omega
   have k1 : (k : Int) < (n : Int) := by omega
   have m0 : (0 : Int) ≤ (m : Int) := by omega
   have m1 : (m : Int) ≤ 1000000000 := by omega
   have y0 := hC 0 _ rfl
   rw [Nat.add_zero, Nat.mul_one] at y0
   have HX := Lib.hid hx
   have HBb := Lib.hid hb
   have HUk := Lib.hid hU
   have Hf := Lib.hid hf
   have How := Lib.hid how
   have He2 := Lib.hid e2
   have Hgd := Lib.hid hgd
   have H1 := Lib.hid h1
   clear hf0 hx hb hU hf how e2 hgd h1 hC hxl hR
   go_wp2_with fail
   refine (markRS 0 _ _ f0 m _ (by omega) How.out).mono ?_
   rintro e w1 ⟨rfl, hmk, hgr⟩
   have hch2 := Chg.of_grown hgr
   have hb2 := He2.out
   clear y0
   have hfin : SlU repRg 90 1 w1 (mixG (mkGs k0 L) L (k + 1)) g c n xs0 bss ∧ Chg w w1 (g :: bss.flatten) := by
    have hm2 := HM.out
    have ow' := own_chgN HUk.out.ow hch2 (fun q hq e => Hgd.out q e (by simpa [Value.ownBlock] using hq))
    have hR' : repRg.R w1 (mkRg m f0) [.slice Ad f0.length cd] b := ⟨_, rfl, by
     rw [show (mkRg m f0).length = f0.length from marksL_length _ _]; exact hmk, hb2⟩
    have hsx : xs0.set k [.slice Ad f0.length cd] = xs0 := by
     apply List.ext_getElem?
     intro j
     by_cases e : j = k
     ·subst e; rw [List.getElem?_set_self hkx, HX.out]
     ·rw [List.getElem?_set_ne (Ne.symm e)]
    have hU2 := SlU.upd (x' := [.slice Ad f0.length cd]) HUk.out hlt (by rw [hsx]; exact ow') (by rw [hsx]; exact HUk.out.ls) hR' (fun j dd hj hdd q hq => by
     have hqf := flat_mem hdd hq
     have h2 : q ∉ (Value.slice Ad f0.length cd).ownBlock.toList := fun e => rows_nodup HN.out.2 hdd HBb.out hj q hq (by rw [hb2]; exact e)
     exact hch2.block q (rowsR_ex HUk.out.rr q hqf) h2)
    rw [hsx, set_same HBb.out, mix_set (mkGs_length k0 L) (by have h := mkGs_get k0 Hf.out; rwa [← hm2] at h)] at hU2
    exact ⟨hU2, HCh.out.trans (hch2.mono fun q hq => List.mem_cons.2 (.inr (flat_mem HBb.out (by rw [hb2]; exact hq))))⟩
   have HF := Lib.hid hfin
   have HM2 : Hid (m + 4 * f0.length = k0 + cntGs (L.take (k + 1))) := Lib.hid (by have := HM.out; have := H1.out; omega)
   clear hfin hmk hgr hch2 hb2
   go_wp2_with fail
   go_roundw
   case rel => exact ⟨k + 1, m + 4 * f0.length, by omega, by go_num, rfl, HM2, HF.out.1, Lib.hid HF.out.2⟩
   case measure => simp [intOf]; omega
  ·obtain rfl : k = n := by omega
   have he : m = k0 + cntGs L := by have := HM.out; rwa [List.take_of_length_le (by rw [← Hn.out]; exact Nat.le_refl _)] at this
   have HE := Lib.hid he
   have hU2 := hU
   rw [show mixG (mkGs k0 L) L k = mkGs k0 L from by rw [Hn.out]; exact mix_all (mkGs_length k0 L)] at hU2
   have HU2 := Lib.hid hU2
   clear he hU hU2
   go_wp2_with fail
   go_ret
   refine ⟨ret_int (by rw [HE.out]), ?_, HCh.out⟩
   have h := HU2.out.rep
   exact h
end Go.Proofs.Ytnndifemkichmaa
