/- The laws' helpers over scenes and lists of edits: sizes, copies, comparisons. No statement is proved here. -/
import Derived.Test.YtnndifemkichmaaMA
import Derived.Test.YtnndifemkichmaaLk
import Derived.Test.YtnndifemkichmaaMB
import Derived.Test.YtnndifemkichmaaProg
import Derived.WalkKit
import Derived.ProofKit
import Derived.OpenShut
import Derived.WalkLawsBesides
import Derived.WalkSpells
import Derived.ShutString
import Derived.ChangeOld
import Derived.Below
import Derived.Lib.Hide
import Derived.BigQuiet
import Derived.Deep.QuietTactic
import Derived.Maps.AppendAt
import Derived.Deep.OwnRows
import Derived.Handy
import Derived.Deep.Draws
import Derived.OwnWalk
import Derived.Deep.AppendLies
import Derived.Deep.LoopGhost
import Derived.Deep.Onto
import Derived.Deep.MidRow
import Derived.Deep.WholeRow
import Derived.Laws.BitsAllLaws
import Derived.Lib.QuoteBits
import Derived.Deep.RegionHeld3
import Derived.Deep.DeepCutAuto
import Derived.Test.YtnndifemkichmaaShelf
import Derived.Laws.CopyOwn
import Derived.Deep.RegionLaw
import Derived.Great.BuildSlice
namespace Go.Proofs.Ytnndifemkichmaa
open Go.RowKit
def cellsW (w : World) (a : Addr) (xs : List Value) : Prop := w.cell? a = xs[0]? ∧ ∀ j u, 0 < j → xs[j]? = some u → w.cell? ⟨a.block, a.off + j, none⟩ = some u
theorem wkSl_at {α : Type} {F : Wk α} {s : Nat} {w : World} {L : List α} {A : Option Addr} {n c k : Nat} (h : (wkSl F s).R w L [.slice A n c]) (hs : 0 < s) (hk : k < L.length) : ∃ ad a xs, A = some ad ∧ L[k]? = some a ∧ xs.length = s ∧ F.R w a xs ∧ cellsW w (ad.add (k * s)) xs := by
 obtain ⟨hm, A', c', e, hr⟩ := h
 have e2 : Value.slice A n c = Value.slice A' L.length c' := by simpa using e
 injection e2 with e3 e4 e5
 subst e3
 have hL := List.getElem?_eq_getElem hk
 obtain ⟨ad, xs, e1, hl, hR, hc⟩ := hr k _ hL
 refine ⟨ad, _, xs, e1, hL, hl, hR, ?_, fun j u hj hu => ?_⟩
 ·have h0 : xs[0]? = some (xs[0]'(by omega)) := List.getElem?_eq_getElem _
  rw [h0]; have := hc 0 _ h0; simpa using this
 ·have := hc j u hu
  rw [show ad.add (k * s + j) = ⟨(ad.add (k * s)).block, (ad.add (k * s)).off + j, none⟩ by unfold Addr.add; by_cases e1 : k * s = 0 <;> simp [e1] <;> omega] at this
  exact this
set_option maxHeartbeats 2000000 in
set_option maxRecDepth 10000 in
theorem szFs_yes (L : List Sf) (v : Value) (l : Int) (w : World) (h : wkSfs.R w L [v]) (hl : ((sizFs L : Nat) : Int) ≤ l) (hl2 : l ≤ 2097152) :
  Calls Try.prog 61 #[v, .int .i64 l] w fun e w' => e = .returned (.int .i64 (l - ((sizFs L : Nat) : Int))) ∧ Below w.heap.size w w' := by
 obtain ⟨⟨A, c, rfl⟩, hm⟩ := wkSl_form h
 obtain ⟨n, hn⟩ : ∃ n, n = L.length := ⟨_, rfl⟩
 rw [← hn] at h hm ⊢
 unfold maxLen at hm
 unfold sizFs at hl ⊢
 rw [← hn] at hl ⊢
 have H := Lib.hid h
 have Hn := Lib.hid hn
 clear h hn
 have hn0 : ¬ l - (n : Int) < 0 := by omega
 obtain ⟨T, hT⟩ : ∃ T, T = lenFs L := ⟨_, rfl⟩
 rw [← hT] at hl ⊢
 have HT := Lib.hid hT
 clear hT
 go_enter Try.func61, Try.ntmps61
 go_wp2_with fail
 go_loopw [1, 5] (fun s1 s5 wr => ∃ (k : Nat) (t : Int), k ≤ n ∧ s5 = .int .i64 k ∧ s1 = .int .i64 t ∧ Hid (t = l - (n : Int) - ((lenFs (L.take k) : Nat) : Int)) ∧ Hid (Below w.heap.size w wr)) (fun _ s5 _ => n - (intOf s5).toNat)
 case atStart => exact ⟨0, _, Nat.zero_le _, rfl, rfl, Lib.hid (by simp [lenFs]), Lib.hid (Below.refl _ _)⟩
 case round =>
  obtain ⟨k, t, hk, rfl, rfl, Ht, HB⟩ := hrel
  have ht1 : t ≤ 2097152 := by have := Ht.out; omega
  by_cases hlt : k < n
  ·obtain ⟨ad, f, xs, rfl, hf, hxl, hR, hC⟩ := wkSl_at (wkSfs.call H.out HB.out) (by omega) (k := k) (by rw [← Hn.out]; exact hlt)
   have hR2 := hR
   obtain ⟨d, rfl, hd⟩ := hR2
   have h1 := lenFs_take hf
   have h2 := lenFs_le L (k + 1)
   rw [← HT.out] at h2
   have hle : ((f.data.length : Nat) : Int) ≤ t := by have := Ht.out; omega
   have hz := sz_sf_yes f d t wr hR hle ht1
   have hn1 : ¬ t - ((f.data.length : Nat) : Int) < 0 := by omega
   have HZ := Lib.hid hz
   have Ht2 : Hid (t - ((f.data.length : Nat) : Int) = l - (n : Int) - ((lenFs (L.take (k + 1)) : Nat) : Int)) := Lib.hid (by have := Ht.out; rw [h1]; push_cast; omega)
   have k0 : (0 : Int) ≤ (k : Int) := by omega
   have k1 : (k : Int) < (n : Int) := by omega
   have c0 := hC.1
   simp only [sfCells, List.getElem?_cons_zero] at c0
   have c1 := hC.2 1 _ (by omega) rfl
   have c2 := hC.2 2 _ (by omega) rfl
   have c3 := hC.2 3 _ (by omega) rfl
   have c4 := hC.2 4 _ (by omega) rfl
   have c5 := hC.2 5 _ (by omega) rfl
   have c6 := hC.2 6 _ (by omega) rfl
   have c7 := hC.2 7 _ (by omega) rfl
   have c8 := hC.2 8 _ (by omega) rfl
   have c9 := hC.2 9 _ (by omega) rfl
   have c10 := hC.2 10 _ (by omega) rfl
   clear hf hR hd hC hz h1 h2 hxl
   go_wp2_with fail
   refine HZ.out.mono ?_
   rintro e w1 ⟨rfl, hb⟩
   have HB2 := Lib.hid (belI_call HB.out hb)
   clear c0 c1 c2 c3 c4 c5 c6 c7 c8 c9 c10 hb
   go_wp2_with fail
   go_roundw
   case rel => exact ⟨k + 1, _, by omega, by go_num, rfl, Ht2, HB2⟩
   case measure => simp [intOf]; omega
  ·obtain rfl : k = n := by omega
   have he : t = l - ((k + T : Nat) : Int) := by have := Ht.out; rw [List.take_of_length_le (by rw [← Hn.out]; exact Nat.le_refl _), ← HT.out] at this; push_cast; omega
   have He := Lib.hid he
   clear he
   go_wp2_with fail
   go_ret
   exact ⟨ret_int He.out, HB.out⟩
set_option maxHeartbeats 2000000 in
set_option maxRecDepth 10000 in
theorem szFs_no (L : List Sf) (v : Value) (l : Int) (w : World) (h : wkSfs.R w L [v]) (h0 : 0 ≤ l) (hl : l < ((sizFs L : Nat) : Int)) (hl2 : l ≤ 2097152) :
  Calls Try.prog 61 #[v, .int .i64 l] w fun e w' => e = .returned (.int .i64 (-1)) ∧ Below w.heap.size w w' := by
 obtain ⟨⟨A, c, rfl⟩, hm⟩ := wkSl_form h
 obtain ⟨n, hn⟩ : ∃ n, n = L.length := ⟨_, rfl⟩
 rw [← hn] at h hm ⊢
 unfold maxLen at hm
 unfold sizFs at hl
 rw [← hn] at hl
 have H := Lib.hid h
 have Hn := Lib.hid hn
 clear h hn
 by_cases hn1 : l - (n : Int) < 0
 ·clear hl
  go_enter Try.func61, Try.ntmps61
  go_wp2_with fail
  go_ret
  exact ⟨rfl, Below.refl _ _⟩
 obtain ⟨T, hT⟩ : ∃ T, T = lenFs L := ⟨_, rfl⟩
 rw [← hT] at hl
 have HT := Lib.hid hT
 clear hT
 go_enter Try.func61, Try.ntmps61
 go_wp2_with fail
 go_loopw [1, 5] (fun s1 s5 wr => ∃ (k : Nat) (t : Int), k ≤ n ∧ s5 = .int .i64 k ∧ s1 = .int .i64 t ∧ Hid (t = l - (n : Int) - ((lenFs (L.take k) : Nat) : Int) ∧ 0 ≤ t) ∧ Hid (Below w.heap.size w wr)) (fun _ s5 _ => n - (intOf s5).toNat)
 case atStart => exact ⟨0, _, Nat.zero_le _, rfl, rfl, Lib.hid (by simp [lenFs]; omega), Lib.hid (Below.refl _ _)⟩
 case round =>
  obtain ⟨k, t, hk, rfl, rfl, Ht, HB⟩ := hrel
  have ht1 : t ≤ 2097152 := by have := Ht.out.1; omega
  have ht0 := Ht.out.2
  by_cases hlt : k < n
  ·obtain ⟨ad, f, xs, rfl, hf, hxl, hR, hC⟩ := wkSl_at (wkSfs.call H.out HB.out) (by omega) (k := k) (by rw [← Hn.out]; exact hlt)
   have hR2 := hR
   obtain ⟨d, rfl, hd⟩ := hR2
   have h1 := lenFs_take hf
   have k0 : (0 : Int) ≤ (k : Int) := by omega
   have k1 : (k : Int) < (n : Int) := by omega
   have c0 := hC.1
   simp only [sfCells, List.getElem?_cons_zero] at c0
   have c1 := hC.2 1 _ (by omega) rfl
   have c2 := hC.2 2 _ (by omega) rfl
   have c3 := hC.2 3 _ (by omega) rfl
   have c4 := hC.2 4 _ (by omega) rfl
   have c5 := hC.2 5 _ (by omega) rfl
   have c6 := hC.2 6 _ (by omega) rfl
   have c7 := hC.2 7 _ (by omega) rfl
   have c8 := hC.2 8 _ (by omega) rfl
   have c9 := hC.2 9 _ (by omega) rfl
   have c10 := hC.2 10 _ (by omega) rfl
   by_cases hle : ((f.data.length : Nat) : Int) ≤ t
   ·have HZ := Lib.hid (sz_sf_yes f d t wr hR hle ht1)
    have hn3 : ¬ t - ((f.data.length : Nat) : Int) < 0 := by omega
    have Ht2 : Hid (t - ((f.data.length : Nat) : Int) = l - (n : Int) - ((lenFs (L.take (k + 1)) : Nat) : Int) ∧ 0 ≤ t - ((f.data.length : Nat) : Int)) := Lib.hid (by have := Ht.out.1; rw [h1]; push_cast; omega)
    clear hf hR hd hC h1 hxl
    go_wp2_with fail
    refine HZ.out.mono ?_
    rintro e w1 ⟨rfl, hb⟩
    have HB2 := Lib.hid (belI_call HB.out hb)
    clear c0 c1 c2 c3 c4 c5 c6 c7 c8 c9 c10 hb
    go_wp2_with fail
    go_roundw
    case rel => exact ⟨k + 1, _, by omega, by go_num, rfl, Ht2, HB2⟩
    case measure => simp [intOf]; omega
   ·have HZ := Lib.hid (sz_sf_no f d t wr hR ht0 (by omega) ht1)
    clear hf hR hd hC h1 hxl
    go_wp2_with fail
    refine HZ.out.mono ?_
    rintro e w1 ⟨rfl, hb⟩
    have HB2 := Lib.hid (belI_call HB.out hb)
    clear c0 c1 c2 c3 c4 c5 c6 c7 c8 c9 c10 hb
    go_wp2_with fail
    go_ret
    exact ⟨rfl, HB2.out⟩
  ·obtain rfl : k = n := by omega
   have := Ht.out.1
   rw [List.take_of_length_le (by rw [← Hn.out]; exact Nat.le_refl _), ← HT.out] at this
   omega
end Go.Proofs.Ytnndifemkichmaa
