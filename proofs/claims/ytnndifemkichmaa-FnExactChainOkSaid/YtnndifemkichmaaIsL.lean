/- The laws' helpers szImageS and szRegionS. No statement is proved here. -/
import Derived.Test.YtnndifemkichmaaMA
import Derived.Test.YtnndifemkichmaaMB
import Derived.Test.YtnndifemkichmaaLk
import Derived.Test.YtnndifemkichmaaMC
import Derived.Test.YtnndifemkichmaaRgK
import Derived.Test.YtnndifemkichmaaSnL
import Derived.Test.YtnndifemkichmaaChM
import Derived.Test.YtnndifemkichmaaProg
import Derived.WalkKit
import Derived.ProofKit
import Derived.OpenShut
import Derived.WalkLawsBesides
import Derived.WalkSpells
import Derived.ShutString
import Derived.ChangeOld
import Derived.Below
import Derived.Lib.Hide
import Derived.BigQuiet
import Derived.Deep.QuietTactic
import Derived.Maps.AppendAt
import Derived.Deep.OwnRows
import Derived.Handy
import Derived.Deep.Draws
import Derived.OwnWalk
import Derived.Deep.AppendLies
import Derived.Deep.LoopGhost
import Derived.Deep.Onto
import Derived.Deep.MidRow
import Derived.Deep.WholeRow
import Derived.Laws.BitsAllLaws
import Derived.Lib.QuoteBits
import Derived.Deep.RegionHeld3
import Derived.Deep.DeepCutAuto
import Derived.Test.YtnndifemkichmaaShelf
import Derived.Laws.CopyOwn
import Derived.Deep.RegionLaw
import Derived.Great.BuildSlice
import Derived.Laws.AppendOwn
namespace Go.Proofs.Ytnndifemkichmaa
open Go.RowKit
set_option maxHeartbeats 2000000 in
set_option maxRecDepth 10000 in
theorem szIs_yes (L : List Im) (v : Value) (l : Int) (w : World) (h : wkIms.R w L [v]) (hl : ((sizIs L : Nat) : Int) ≤ l) (hl2 : l ≤ 2097152) :
  Calls Try.prog 44 #[v, .int .i64 l] w fun e w' => e = .returned (.int .i64 (l - ((sizIs L : Nat) : Int))) ∧ Below w.heap.size w w' := by
 obtain ⟨⟨A, c, rfl⟩, hm⟩ := wkSl_form h
 obtain ⟨n, hn⟩ : ∃ n, n = L.length := ⟨_, rfl⟩
 rw [← hn] at h hm ⊢
 unfold maxLen at hm
 unfold sizIs at hl ⊢
 rw [← hn] at hl ⊢
 have H := Lib.hid h
 have Hn := Lib.hid hn
 clear h hn
 have hn0 : ¬ l - (n : Int) < 0 := by omega
 obtain ⟨T, hT⟩ : ∃ T, T = lenIs L := ⟨_, rfl⟩
 rw [← hT] at hl ⊢
 have HT := Lib.hid hT
 clear hT
 go_enter Try.func44, Try.ntmps44
 go_wp2_with fail
 go_loopw [1, 5] (fun s1 s5 wr => ∃ (k : Nat) (t : Int), k ≤ n ∧ s5 = .int .i64 k ∧ s1 = .int .i64 t ∧ Hid (t = l - (n : Int) - ((lenIs (L.take k) : Nat) : Int)) ∧ Hid (Below w.heap.size w wr)) (fun _ s5 _ => n - (intOf s5).toNat)
 case atStart => exact ⟨0, _, Nat.zero_le _, rfl, rfl, Lib.hid (by simp [lenIs]), Lib.hid (Below.refl _ _)⟩
 case round =>
  obtain ⟨k, t, hk, rfl, rfl, Ht, HB⟩ := hrel
  have ht1 : t ≤ 2097152 := by have := Ht.out; omega
  by_cases hlt : k < n
  ·obtain ⟨ad, f, xs, rfl, hf, hxl, hR, hC⟩ := wkSl_at (wkIms.call H.out HB.out) (by omega) (k := k) (by rw [← Hn.out]; exact hlt)
   have hR2 := hR
   obtain ⟨d, rfl, hd⟩ := hR2
   have h1 := lenIs_take hf
   have h2 := lenIs_le L (k + 1)
   rw [← HT.out] at h2
   have hle : ((f.d.length : Nat) : Int) ≤ t := by have := Ht.out; omega
   have hz := sz_im_yes f d t wr hR hle ht1
   have hn1 : ¬ t - ((f.d.length : Nat) : Int) < 0 := by omega
   have HZ := Lib.hid hz
   have Ht2 : Hid (t - ((f.d.length : Nat) : Int) = l - (n : Int) - ((lenIs (L.take (k + 1)) : Nat) : Int)) := Lib.hid (by have := Ht.out; rw [h1]; push_cast; omega)
   have k0 : (0 : Int) ≤ (k : Int) := by omega
   have k1 : (k : Int) < (n : Int) := by omega
   have c0 := hC.1
   simp only [imCells, List.getElem?_cons_zero] at c0
   have c1 := hC.2 1 _ (by omega) rfl
   have c2 := hC.2 2 _ (by omega) rfl
   clear hf hR hd hC hz h1 h2 hxl
   go_wp2_with fail
   refine HZ.out.mono ?_
   rintro e w1 ⟨rfl, hb⟩
   have HB2 := Lib.hid (belI_call HB.out hb)
   clear c0 c1 c2 hb
   go_wp2_with fail
   go_roundw
   case rel => exact ⟨k + 1, _, by omega, by go_num, rfl, Ht2, HB2⟩
   case measure => simp [intOf]; omega
  ·obtain rfl : k = n := by omega
   have he : t = l - ((k + T : Nat) : Int) := by have := Ht.out; rw [List.take_of_length_le (by rw [← Hn.out]; exact Nat.le_refl _), ← HT.out] at this; push_cast; omega
   have He := Lib.hid he
   clear he
   go_wp2_with fail
   go_ret
   exact ⟨ret_int He.out, HB.out⟩
set_option maxHeartbeats 2000000 in
set_option maxRecDepth 10000 in
theorem szIs_no (L : List Im) (v : Value) (l : Int) (w : World) (h : wkIms.R w L [v]) (h0 : 0 ≤ l) (hl : l < ((sizIs L : Nat) : Int)) (hl2 : l ≤ 2097152) :
  Calls Try.prog 44 #[v, .int .i64 l] w fun e w' => e = .returned (.int .i64 (-1)) ∧ Below w.heap.size w w' := by
 obtain ⟨⟨A, c, rfl⟩, hm⟩ := wkSl_form h
 obtain ⟨n, hn⟩ : ∃ n, n = L.length := ⟨_, rfl⟩
 rw [← hn] at h hm ⊢
 unfold maxLen at hm
 unfold sizIs at hl
 rw [← hn] at hl
 have H := Lib.hid h
 have Hn := Lib.hid hn
 clear h hn
 by_cases hn1 : l - (n : Int) < 0
 ·clear hl
  go_enter Try.func44, Try.ntmps44
  go_wp2_with fail
  go_ret
  exact ⟨rfl, Below.refl _ _⟩
 obtain ⟨T, hT⟩ : ∃ T, T = lenIs L := ⟨_, rfl⟩
 rw [← hT] at hl
 have HT := Lib.hid hT
 clear hT
 go_enter Try.func44, Try.ntmps44
 go_wp2_with fail
 go_loopw [1, 5] (fun s1 s5 wr => ∃ (k : Nat) (t : Int), k ≤ n ∧ s5 = .int .i64 k ∧ s1 = .int .i64 t ∧ Hid (t = l - (n : Int) - ((lenIs (L.take k) : Nat) : Int) ∧ 0 ≤ t) ∧ Hid (Below w.heap.size w wr)) (fun _ s5 _ => n - (intOf s5).toNat)
 case atStart => exact ⟨0, _, Nat.zero_le _, rfl, rfl, Lib.hid (by simp [lenIs]; omega), Lib.hid (Below.refl _ _)⟩
 case round =>
  obtain ⟨k, t, hk, rfl, rfl, Ht, HB⟩ := hrel
  have ht1 : t ≤ 2097152 := by have := Ht.out.1; omega
  have ht0 := Ht.out.2
  by_cases hlt : k < n
  ·obtain ⟨ad, f, xs, rfl, hf, hxl, hR, hC⟩ := wkSl_at (wkIms.call H.out HB.out) (by omega) (k := k) (by rw [← Hn.out]; exact hlt)
   have hR2 := hR
   obtain ⟨d, rfl, hd⟩ := hR2
   have h1 := lenIs_take hf
   have k0 : (0 : Int) ≤ (k : Int) := by omega
   have k1 : (k : Int) < (n : Int) := by omega
   have c0 := hC.1
   simp only [imCells, List.getElem?_cons_zero] at c0
   have c1 := hC.2 1 _ (by omega) rfl
   have c2 := hC.2 2 _ (by omega) rfl
   by_cases hle : ((f.d.length : Nat) : Int) ≤ t
   ·have HZ := Lib.hid (sz_im_yes f d t wr hR hle ht1)
    have hn3 : ¬ t - ((f.d.length : Nat) : Int) < 0 := by omega
    have Ht2 : Hid (t - ((f.d.length : Nat) : Int) = l - (n : Int) - ((lenIs (L.take (k + 1)) : Nat) : Int) ∧ 0 ≤ t - ((f.d.length : Nat) : Int)) := Lib.hid (by have := Ht.out.1; rw [h1]; push_cast; omega)
    clear hf hR hd hC h1 hxl
    go_wp2_with fail
    refine HZ.out.mono ?_
    rintro e w1 ⟨rfl, hb⟩
    have HB2 := Lib.hid (belI_call HB.out hb)
    clear c0 c1 c2 hb
    go_wp2_with fail
    go_roundw
    case rel => exact ⟨k + 1, _, by omega, by go_num, rfl, Ht2, HB2⟩
    case measure => simp [intOf]; omega
   ·have HZ := Lib.hid (sz_im_no f d t wr hR ht0 (by omega) ht1)
    clear hf hR hd hC h1 hxl
    go_wp2_with fail
    refine HZ.out.mono ?_
    rintro e w1 ⟨rfl, hb⟩
    have HB2 := Lib.hid (belI_call HB.out hb)
    clear c0 c1 c2 hb
    go_wp2_with fail
    go_ret
    exact ⟨rfl, HB2.out⟩
  ·obtain rfl : k = n := by omega
   have := Ht.out.1
   rw [List.take_of_length_le (by rw [← Hn.out]; exact Nat.le_refl _), ← HT.out] at this
   omega
set_option maxHeartbeats 2000000 in
set_option maxRecDepth 10000 in
theorem szGs_yes (L : List (List Rc)) (v : Value) (l : Int) (w : World) (h : wkRgs.R w L [v]) (hl : ((sizGs L : Nat) : Int) ≤ l) (hl2 : l ≤ 2097152) :
  Calls Try.prog 46 #[v, .int .i64 l] w fun e w' => e = .returned (.int .i64 (l - ((sizGs L : Nat) : Int))) ∧ Below w.heap.size w w' := by
 obtain ⟨⟨A, c, rfl⟩, hm⟩ := wkSl_form h
 obtain ⟨n, hn⟩ : ∃ n, n = L.length := ⟨_, rfl⟩
 rw [← hn] at h hm ⊢
 unfold maxLen at hm
 unfold sizGs at hl ⊢
 rw [← hn] at hl ⊢
 have H := Lib.hid h
 have Hn := Lib.hid hn
 clear h hn
 have hn0 : ¬ l - (n : Int) < 0 := by omega
 obtain ⟨T, hT⟩ : ∃ T, T = lenGs L := ⟨_, rfl⟩
 rw [← hT] at hl ⊢
 have HT := Lib.hid hT
 clear hT
 go_enter Try.func46, Try.ntmps46
 go_wp2_with fail
 go_loopw [1, 5] (fun s1 s5 wr => ∃ (k : Nat) (t : Int), k ≤ n ∧ s5 = .int .i64 k ∧ s1 = .int .i64 t ∧ Hid (t = l - (n : Int) - ((lenGs (L.take k) : Nat) : Int)) ∧ Hid (Below w.heap.size w wr)) (fun _ s5 _ => n - (intOf s5).toNat)
 case atStart => exact ⟨0, _, Nat.zero_le _, rfl, rfl, Lib.hid (by simp [lenGs]), Lib.hid (Below.refl _ _)⟩
 case round =>
  obtain ⟨k, t, hk, rfl, rfl, Ht, HB⟩ := hrel
  have ht1 : t ≤ 2097152 := by have := Ht.out; omega
  by_cases hlt : k < n
  ·obtain ⟨ad, f, xs, rfl, hf, hxl, hR, hC⟩ := wkSl_at (wkRgs.call H.out HB.out) (by omega) (k := k) (by rw [← Hn.out]; exact hlt)
   have hR2 := hR
   obtain ⟨d, rfl, hd⟩ := hR2
   have h1 := lenGs_take hf
   have h2 := lenGs_le L (k + 1)
   rw [← HT.out] at h2
   have hle : ((f.length : Nat) : Int) ≤ t := by have := Ht.out; omega
   have hz := sz_rg_yes f d t wr hR hle ht1
   have hn1 : ¬ t - ((f.length : Nat) : Int) < 0 := by omega
   have HZ := Lib.hid hz
   have Ht2 : Hid (t - ((f.length : Nat) : Int) = l - (n : Int) - ((lenGs (L.take (k + 1)) : Nat) : Int)) := Lib.hid (by have := Ht.out; rw [h1]; push_cast; omega)
   have k0 : (0 : Int) ≤ (k : Int) := by omega
   have k1 : (k : Int) < (n : Int) := by omega
   have c0 := hC.1
   simp only [List.getElem?_cons_zero, Nat.mul_one] at c0
   clear hf hR hd hC hz h1 h2 hxl
   go_wp2_with fail
   refine HZ.out.mono ?_
   rintro e w1 ⟨rfl, hb⟩
   have HB2 := Lib.hid (belI_call HB.out hb)
   clear c0 hb
   go_wp2_with fail
   go_roundw
   case rel => exact ⟨k + 1, _, by omega, by go_num, rfl, Ht2, HB2⟩
   case measure => simp [intOf]; omega
  ·obtain rfl : k = n := by omega
   have he : t = l - ((k + T : Nat) : Int) := by have := Ht.out; rw [List.take_of_length_le (by rw [← Hn.out]; exact Nat.le_refl _), ← HT.out] at this; push_cast; omega
   have He := Lib.hid he
   clear he
   go_wp2_with fail
   go_ret
   exact ⟨ret_int He.out, HB.out⟩
set_option maxHeartbeats 2000000 in
set_option maxRecDepth 10000 in
theorem szGs_no (L : List (List Rc)) (v : Value) (l : Int) (w : World) (h : wkRgs.R w L [v]) (h0 : 0 ≤ l) (hl : l < ((sizGs L : Nat) : Int)) (hl2 : l ≤ 2097152) :
  Calls Try.prog 46 #[v, .int .i64 l] w fun e w' => e = .returned (.int .i64 (-1)) ∧ Below w.heap.size w w' := by
 obtain ⟨⟨A, c, rfl⟩, hm⟩ := wkSl_form h
 obtain ⟨n, hn⟩ : ∃ n, n = L.length := ⟨_, rfl⟩
 rw [← hn] at h hm ⊢
 unfold maxLen at hm
 unfold sizGs at hl
 rw [← hn] at hl
 have H := Lib.hid h
 have Hn := Lib.hid hn
 clear h hn
 by_cases hn1 : l - (n : Int) < 0
 ·clear hl
  go_enter Try.func46, Try.ntmps46
  go_wp2_with fail
  go_ret
  exact ⟨rfl, Below.refl _ _⟩
 obtain ⟨T, hT⟩ : ∃ T, T = lenGs L := ⟨_, rfl⟩
 rw [← hT] at hl
 have HT := Lib.hid hT
 clear hT
 go_enter Try.func46, Try.ntmps46
 go_wp2_with fail
 go_loopw [1, 5] (fun s1 s5 wr => ∃ (k : Nat) (t : Int), k ≤ n ∧ s5 = .int .i64 k ∧ s1 = .int .i64 t ∧ Hid (t = l - (n : Int) - ((lenGs (L.take k) : Nat) : Int) ∧ 0 ≤ t) ∧ Hid (Below w.heap.size w wr)) (fun _ s5 _ => n - (intOf s5).toNat)
 case atStart => exact ⟨0, _, Nat.zero_le _, rfl, rfl, Lib.hid (by simp [lenGs]; omega), Lib.hid (Below.refl _ _)⟩
 case round =>
  obtain ⟨k, t, hk, rfl, rfl, Ht, HB⟩ := hrel
  have ht1 : t ≤ 2097152 := by have := Ht.out.1; omega
  have ht0 := Ht.out.2
  by_cases hlt : k < n
  ·obtain ⟨ad, f, xs, rfl, hf, hxl, hR, hC⟩ := wkSl_at (wkRgs.call H.out HB.out) (by omega) (k := k) (by rw [← Hn.out]; exact hlt)
   have hR2 := hR
   obtain ⟨d, rfl, hd⟩ := hR2
   have h1 := lenGs_take hf
   have k0 : (0 : Int) ≤ (k : Int) := by omega
   have k1 : (k : Int) < (n : Int) := by omega
   have c0 := hC.1
   simp only [List.getElem?_cons_zero, Nat.mul_one] at c0
   by_cases hle : ((f.length : Nat) : Int) ≤ t
   ·have HZ := Lib.hid (sz_rg_yes f d t wr hR hle ht1)
    have hn3 : ¬ t - ((f.length : Nat) : Int) < 0 := by omega
    have Ht2 : Hid (t - ((f.length : Nat) : Int) = l - (n : Int) - ((lenGs (L.take (k + 1)) : Nat) : Int) ∧ 0 ≤ t - ((f.length : Nat) : Int)) := Lib.hid (by have := Ht.out.1; rw [h1]; push_cast; omega)
    clear hf hR hd hC h1 hxl
    go_wp2_with fail
    refine HZ.out.mono ?_
    rintro e w1 ⟨rfl, hb⟩
    have HB2 := Lib.hid (belI_call HB.out hb)
    clear c0 hb
    go_wp2_with fail
    go_roundw
    case rel => exact ⟨k + 1, _, by omega, by go_num, rfl, Ht2, HB2⟩
    case measure => simp [intOf]; omega
   ·have HZ := Lib.hid (sz_rg_no f d t wr hR ht0 (by omega) ht1)
    clear hf hR hd hC h1 hxl
    go_wp2_with fail
    refine HZ.out.mono ?_
    rintro e w1 ⟨rfl, hb⟩
    have HB2 := Lib.hid (belI_call HB.out hb)
    clear c0 hb
    go_wp2_with fail
    go_ret
    exact ⟨rfl, HB2.out⟩
  ·obtain rfl : k = n := by omega
   have := Ht.out.1
   rw [List.take_of_length_le (by rw [← Hn.out]; exact Nat.le_refl _), ← HT.out] at this
   omega
end Go.Proofs.Ytnndifemkichmaa
