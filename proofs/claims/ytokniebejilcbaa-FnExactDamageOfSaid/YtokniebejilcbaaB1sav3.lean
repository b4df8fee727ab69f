/- Texts of mine in one file: Lk, SnL, SlE, SlT, SlM. No statement is proved here. -/
import Derived.Test.YtokniebejilcbaaMAv123
import Derived.Test.YtokniebejilcbaaMAv23
import Derived.Test.YtokniebejilcbaaMBv23
import Derived.Test.YtokniebejilcbaaMAv3
import Derived.Test.YtokniebejilcbaaSfLv3
import Derived.Test.YtokniebejilcbaaMA
import Derived.Test.YtokniebejilcbaaMBv3
import Derived.Test.YtokniebejilcbaaProg
import Derived.WalkKit
import Derived.ProofKit
import Derived.OpenShut
import Derived.WalkLawsBesides
import Derived.WalkSpells
import Derived.ShutString
import Derived.ChangeOld
import Derived.Below
import Derived.Lib.Hide
import Derived.BigQuiet
import Derived.Deep.QuietTactic
import Derived.Maps.AppendAt
import Derived.Deep.OwnRows
import Derived.Handy
import Derived.Deep.Draws
import Derived.OwnWalk
import Derived.Deep.AppendLies
import Derived.Deep.LoopGhost
import Derived.Deep.Onto
import Derived.Deep.MidRow
import Derived.Deep.WholeRow
import Derived.Laws.BitsAllLaws
import Derived.Lib.QuoteBits
import Derived.Deep.RegionHeld3
import Derived.Deep.DeepCutAuto
import Derived.Test.YtokniebejilcbaaShelf
import Derived.Laws.CopyOwn
import Derived.Deep.RegionLaw
import Derived.Great.BuildSlice
namespace Go.Proofs.Ytokniebejilcbaa
open Go.RowKit
theorem r_sf {w : World} {f : Sf} {d : Value} {bs : List Nat} (h : repSf.R w f [.int .i64 f.id, .int .i64 f.x, .int .i64 f.y, .int .i64 f.w, .int .i64 f.h, .int .i64 f.alpha, .int .i64 f.orient, .bool f.vis, .int .i64 f.bw, .int .i64 f.bh, d] bs) : repInts.R w f.data [d] bs := by
 obtain ⟨d', e, h⟩ := h
 have e2 : d = d' := by simpa [sfCells] using e
 subst e2
 exact h
theorem form_sf {w : World} {f : Sf} {d : Value} {bs : List Nat} (h : repSf.R w f [.int .i64 f.id, .int .i64 f.x, .int .i64 f.y, .int .i64 f.w, .int .i64 f.h, .int .i64 f.alpha, .int .i64 f.orient, .bool f.vis, .int .i64 f.bw, .int .i64 f.bh, d] bs) : ∃ A c, d = .slice A f.data.length c := (ints_form (r_sf h)).1
theorem wr_sf {w : World} {f : Sf} {d : Value} (h : wkSf.R w f [.int .i64 f.id, .int .i64 f.x, .int .i64 f.y, .int .i64 f.w, .int .i64 f.h, .int .i64 f.alpha, .int .i64 f.orient, .bool f.vis, .int .i64 f.bw, .int .i64 f.bh, d]) : Rd w d f.data.length (intCells f.data) := by
 obtain ⟨d', e, h⟩ := h
 have e2 : d = d' := by simpa [sfCells] using e
 subst e2
 exact h
theorem sz_sf_yes (f : Sf) (d : Value) (l : Int) (w : World) (hr : wkSf.R w f [.int .i64 f.id, .int .i64 f.x, .int .i64 f.y, .int .i64 f.w, .int .i64 f.h, .int .i64 f.alpha, .int .i64 f.orient, .bool f.vis, .int .i64 f.bw, .int .i64 f.bh, d]) (h : ((f.data.length : Nat) : Int) ≤ l) (hl : l ≤ 2097152) : Calls Try.prog 119 #[.agg #[.int .i64 f.id, .int .i64 f.x, .int .i64 f.y, .int .i64 f.w, .int .i64 f.h, .int .i64 f.alpha, .int .i64 f.orient, .bool f.vis, .int .i64 f.bw, .int .i64 f.bh, d], .int .i64 l] w fun e w' => e = .returned (.int .i64 (l - ((f.data.length : Nat) : Int))) ∧ Below w.heap.size w w' := by
 obtain ⟨A, c, rfl⟩ := (wr_sf hr).form
 exact szSf_yes f _ A c l h hl w
theorem sz_sf_no (f : Sf) (d : Value) (l : Int) (w : World) (hr : wkSf.R w f [.int .i64 f.id, .int .i64 f.x, .int .i64 f.y, .int .i64 f.w, .int .i64 f.h, .int .i64 f.alpha, .int .i64 f.orient, .bool f.vis, .int .i64 f.bw, .int .i64 f.bh, d]) (h0 : 0 ≤ l) (h : l < ((f.data.length : Nat) : Int)) (_ : l ≤ 2097152) : Calls Try.prog 119 #[.agg #[.int .i64 f.id, .int .i64 f.x, .int .i64 f.y, .int .i64 f.w, .int .i64 f.h, .int .i64 f.alpha, .int .i64 f.orient, .bool f.vis, .int .i64 f.bw, .int .i64 f.bh, d], .int .i64 l] w fun e w' => e = .returned (.int .i64 (-1)) ∧ Below w.heap.size w w' := by
 obtain ⟨A, c, rfl⟩ := (wr_sf hr).form
 exact szSf_no f _ A c (wr_sf hr).len.2 l h0 h w
theorem to_sf (f : Sf) (d : Value) (w : World) (hr : wkSf.R w f [.int .i64 f.id, .int .i64 f.x, .int .i64 f.y, .int .i64 f.w, .int .i64 f.h, .int .i64 f.alpha, .int .i64 f.orient, .bool f.vis, .int .i64 f.bw, .int .i64 f.bh, d]) (hm : f.data.length ≤ 1048576) : Calls Try.prog 123 #[.agg #[.int .i64 f.id, .int .i64 f.x, .int .i64 f.y, .int .i64 f.w, .int .i64 f.h, .int .i64 f.alpha, .int .i64 f.orient, .bool f.vis, .int .i64 f.bw, .int .i64 f.bh, d]] w fun e w' => ∃ u bs, e = .returned (.agg #[.int .i64 f.id, .int .i64 f.x, .int .i64 f.y, .int .i64 f.w, .int .i64 f.h, .int .i64 f.alpha, .int .i64 f.orient, .bool f.vis, .int .i64 f.bw, .int .i64 f.bh, u]) ∧ repSf.Own w.heap.size w' f [.int .i64 f.id, .int .i64 f.x, .int .i64 f.y, .int .i64 f.w, .int .i64 f.h, .int .i64 f.alpha, .int .i64 f.orient, .bool f.vis, .int .i64 f.bw, .int .i64 f.bh, u] bs ∧ Below w.heap.size w w' := by
 refine (toSf f d w hm (wr_sf hr)).mono ?_
 rintro e w1 ⟨u, rfl, ho, hb⟩
 have h := ints_own ho
 exact ⟨u, _, rfl, ⟨⟨u, rfl, h.r⟩, h.nd, h.lo⟩, hb⟩
theorem eq_sf (f : Sf) (d u : Value) (bs cs : List Nat) (w : World) (h1 : repSf.R w f [.int .i64 f.id, .int .i64 f.x, .int .i64 f.y, .int .i64 f.w, .int .i64 f.h, .int .i64 f.alpha, .int .i64 f.orient, .bool f.vis, .int .i64 f.bw, .int .i64 f.bh, d] bs) (h2 : repSf.R w f [.int .i64 f.id, .int .i64 f.x, .int .i64 f.y, .int .i64 f.w, .int .i64 f.h, .int .i64 f.alpha, .int .i64 f.orient, .bool f.vis, .int .i64 f.bw, .int .i64 f.bh, u] cs) : Calls Try.prog 127 #[.agg #[.int .i64 f.id, .int .i64 f.x, .int .i64 f.y, .int .i64 f.w, .int .i64 f.h, .int .i64 f.alpha, .int .i64 f.orient, .bool f.vis, .int .i64 f.bw, .int .i64 f.bh, d], .agg #[.int .i64 f.id, .int .i64 f.x, .int .i64 f.y, .int .i64 f.w, .int .i64 f.h, .int .i64 f.alpha, .int .i64 f.orient, .bool f.vis, .int .i64 f.bw, .int .i64 f.bh, u]] w fun e w' => e = .returned (.bool true) ∧ Below w.heap.size w w' :=
 eqSf_same f d u w (repInts_rd (r_sf h1)) (repInts_rd (r_sf h2))
end Go.Proofs.Ytokniebejilcbaa
namespace Go.Proofs.Ytokniebejilcbaa
open Go.RowKit
def cellsW (w : World) (a : Addr) (xs : List Value) : Prop := w.cell? a = xs[0]? ∧ ∀ j u, 0 < j → xs[j]? = some u → w.cell? ⟨a.block, a.off + j, none⟩ = some u
theorem wkSl_at {α : Type} {F : Wk α} {s : Nat} {w : World} {L : List α} {A : Option Addr} {n c k : Nat} (h : (wkSl F s).R w L [.slice A n c]) (hs : 0 < s) (hk : k < L.length) : ∃ ad a xs, A = some ad ∧ L[k]? = some a ∧ xs.length = s ∧ F.R w a xs ∧ cellsW w (ad.add (k * s)) xs := by
 obtain ⟨hm, A', c', e, hr⟩ := h
 have e2 : Value.slice A n c = Value.slice A' L.length c' := by simpa using e
 injection e2 with e3 e4 e5
 subst e3
 have hL := List.getElem?_eq_getElem hk
 obtain ⟨ad, xs, e1, hl, hR, hc⟩ := hr k _ hL
 refine ⟨ad, _, xs, e1, hL, hl, hR, ?_, fun j u hj hu => ?_⟩
 ·have h0 : xs[0]? = some (xs[0]'(by omega)) := List.getElem?_eq_getElem _
  rw [h0]; have := hc 0 _ h0; simpa using this
 ·have := hc j u hu
  rw [show ad.add (k * s + j) = ⟨(ad.add (k * s)).block, (ad.add (k * s)).off + j, none⟩ by unfold Addr.add; by_cases e1 : k * s = 0 <;> simp [e1] <;> omega] at this
  exact this
set_option maxHeartbeats 2000000 in
set_option maxRecDepth 10000 in
theorem szFs_yes (L : List Sf) (v : Value) (l : Int) (w : World) (h : wkSfs.R w L [v]) (hl : ((sizFs L : Nat) : Int) ≤ l) (hl2 : l ≤ 2097152) :
  Calls Try.prog 77 #[v, .int .i64 l] w fun e w' => e = .returned (.int .i64 (l - ((sizFs L : Nat) : Int))) ∧ Below w.heap.size w w' := by
 obtain ⟨⟨A, c, rfl⟩, hm⟩ := wkSl_form h
 obtain ⟨n, hn⟩ : ∃ n, n = L.length := ⟨_, rfl⟩
 rw [← hn] at h hm ⊢
 unfold maxLen at hm
 unfold sizFs at hl ⊢
 rw [← hn] at hl ⊢
 have H := Lib.hid h
 have Hn := Lib.hid hn
 clear h hn
 have hn0 : ¬ l - (n : Int) < 0 := by omega
 obtain ⟨T, hT⟩ : ∃ T, T = lenFs L := ⟨_, rfl⟩
 rw [← hT] at hl ⊢
 have HT := Lib.hid hT
 clear hT
 go_enter Try.func77, Try.ntmps77
 go_wp2_with fail
 go_loopw [1, 5] (fun s1 s5 wr => ∃ (k : Nat) (t : Int), k ≤ n ∧ s5 = .int .i64 k ∧ s1 = .int .i64 t ∧ Hid (t = l - (n : Int) - ((lenFs (L.take k) : Nat) : Int)) ∧ Hid (Below w.heap.size w wr)) (fun _ s5 _ => n - (intOf s5).toNat)
 case atStart => exact ⟨0, _, Nat.zero_le _, rfl, rfl, Lib.hid (by simp [lenFs]), Lib.hid (Below.refl _ _)⟩
 case round =>
  obtain ⟨k, t, hk, rfl, rfl, Ht, HB⟩ := hrel
  have ht1 : t ≤ 2097152 := by have := Ht.out; omega
  by_cases hlt : k < n
  ·obtain ⟨ad, f, xs, rfl, hf, hxl, hR, hC⟩ := wkSl_at (wkSfs.call H.out HB.out) (by omega) (k := k) (by rw [← Hn.out]; exact hlt)
   have hR2 := hR
   obtain ⟨d, rfl, hd⟩ := hR2
   have h1 := lenFs_take hf
   have h2 := lenFs_le L (k + 1)
   rw [← HT.out] at h2
   have hle : ((f.data.length : Nat) : Int) ≤ t := by have := Ht.out; omega
   have hz := sz_sf_yes f d t wr hR hle ht1
   have hn1 : ¬ t - ((f.data.length : Nat) : Int) < 0 := by omega
   have HZ := Lib.hid hz
   have Ht2 : Hid (t - ((f.data.length : Nat) : Int) = l - (n : Int) - ((lenFs (L.take (k + 1)) : Nat) : Int)) := Lib.hid (by have := Ht.out; rw [h1]; push_cast; omega)
   have k0 : (0 : Int) ≤ (k : Int) := by omega
   have k1 : (k : Int) < (n : Int) := by omega
   have c0 := hC.1
   simp only [sfCells, List.getElem?_cons_zero] at c0
   have c1 := hC.2 1 _ (by omega) rfl
   have c2 := hC.2 2 _ (by omega) rfl
   have c3 := hC.2 3 _ (by omega) rfl
   have c4 := hC.2 4 _ (by omega) rfl
   have c5 := hC.2 5 _ (by omega) rfl
   have c6 := hC.2 6 _ (by omega) rfl
   have c7 := hC.2 7 _ (by omega) rfl
   have c8 := hC.2 8 _ (by omega) rfl
   have c9 := hC.2 9 _ (by omega) rfl
   have c10 := hC.2 10 _ (by omega) rfl
   clear hf hR hd hC hz h1 h2 hxl
   go_wp2_with fail
   refine HZ.out.mono ?_
   rintro e w1 ⟨rfl, hb⟩
   have HB2 := Lib.hid (belI_call HB.out hb)
   clear c0 c1 c2 c3 c4 c5 c6 c7 c8 c9 c10 hb
   go_wp2_with fail
   go_roundw
   case rel => exact ⟨k + 1, _, by omega, by go_num, rfl, Ht2, HB2⟩
   case measure => simp [intOf]; omega
  ·obtain rfl : k = n := by omega
   have he : t = l - ((k + T : Nat) : Int) := by have := Ht.out; rw [List.take_of_length_le (by rw [← Hn.out]; exact Nat.le_refl _), ← HT.out] at this; push_cast; omega
   have He := Lib.hid he
   clear he
   go_wp2_with fail
   go_ret
   exact ⟨ret_int He.out, HB.out⟩
set_option maxHeartbeats 2000000 in
set_option maxRecDepth 10000 in
theorem szFs_no (L : List Sf) (v : Value) (l : Int) (w : World) (h : wkSfs.R w L [v]) (h0 : 0 ≤ l) (hl : l < ((sizFs L : Nat) : Int)) (hl2 : l ≤ 2097152) :
  Calls Try.prog 77 #[v, .int .i64 l] w fun e w' => e = .returned (.int .i64 (-1)) ∧ Below w.heap.size w w' := by
 obtain ⟨⟨A, c, rfl⟩, hm⟩ := wkSl_form h
 obtain ⟨n, hn⟩ : ∃ n, n = L.length := ⟨_, rfl⟩
 rw [← hn] at h hm ⊢
 unfold maxLen at hm
 unfold sizFs at hl
 rw [← hn] at hl
 have H := Lib.hid h
 have Hn := Lib.hid hn
 clear h hn
 by_cases hn1 : l - (n : Int) < 0
 ·clear hl
  go_enter Try.func77, Try.ntmps77
  go_wp2_with fail
  go_ret
  exact ⟨rfl, Below.refl _ _⟩
 obtain ⟨T, hT⟩ : ∃ T, T = lenFs L := ⟨_, rfl⟩
 rw [← hT] at hl
 have HT := Lib.hid hT
 clear hT
 go_enter Try.func77, Try.ntmps77
 go_wp2_with fail
 go_loopw [1, 5] (fun s1 s5 wr => ∃ (k : Nat) (t : Int), k ≤ n ∧ s5 = .int .i64 k ∧ s1 = .int .i64 t ∧ Hid (t = l - (n : Int) - ((lenFs (L.take k) : Nat) : Int) ∧ 0 ≤ t) ∧ Hid (Below w.heap.size w wr)) (fun _ s5 _ => n - (intOf s5).toNat)
 case atStart => exact ⟨0, _, Nat.zero_le _, rfl, rfl, Lib.hid (by simp [lenFs]; omega), Lib.hid (Below.refl _ _)⟩
 case round =>
  obtain ⟨k, t, hk, rfl, rfl, Ht, HB⟩ := hrel
  have ht1 : t ≤ 2097152 := by have := Ht.out.1; omega
  have ht0 := Ht.out.2
  by_cases hlt : k < n
  ·obtain ⟨ad, f, xs, rfl, hf, hxl, hR, hC⟩ := wkSl_at (wkSfs.call H.out HB.out) (by omega) (k := k) (by rw [← Hn.out]; exact hlt)
   have hR2 := hR
   obtain ⟨d, rfl, hd⟩ := hR2
   have h1 := lenFs_take hf
   have k0 : (0 : Int) ≤ (k : Int) := by omega
   have k1 : (k : Int) < (n : Int) := by omega
   have c0 := hC.1
   simp only [sfCells, List.getElem?_cons_zero] at c0
   have c1 := hC.2 1 _ (by omega) rfl
   have c2 := hC.2 2 _ (by omega) rfl
   have c3 := hC.2 3 _ (by omega) rfl
   have c4 := hC.2 4 _ (by omega) rfl
   have c5 := hC.2 5 _ (by omega) rfl
   have c6 := hC.2 6 _ (by omega) rfl
   have c7 := hC.2 7 _ (by omega) rfl
   have c8 := hC.2 8 _ (by omega) rfl
   have c9 := hC.2 9 _ (by omega) rfl
   have c10 := hC.2 10 _ (by omega) rfl
   by_cases hle : ((f.data.length : Nat) : Int) ≤ t
   ·have HZ := Lib.hid (sz_sf_yes f d t wr hR hle ht1)
    have hn3 : ¬ t - ((f.data.length : Nat) : Int) < 0 := by omega
    have Ht2 : Hid (t - ((f.data.length : Nat) : Int) = l - (n : Int) - ((lenFs (L.take (k + 1)) : Nat) : Int) ∧ 0 ≤ t - ((f.data.length : Nat) : Int)) := Lib.hid (by have := Ht.out.1; rw [h1]; push_cast; omega)
    clear hf hR hd hC h1 hxl
    go_wp2_with fail
    refine HZ.out.mono ?_
    rintro e w1 ⟨rfl, hb⟩
    have HB2 := Lib.hid (belI_call HB.out hb)
    clear c0 c1 c2 c3 c4 c5 c6 c7 c8 c9 c10 hb
    go_wp2_with fail
    go_roundw
    case rel => exact ⟨k + 1, _, by omega, by go_num, rfl, Ht2, HB2⟩
    case measure => simp [intOf]; omega
   ·have HZ := Lib.hid (sz_sf_no f d t wr hR ht0 (by omega) ht1)
    clear hf hR hd hC h1 hxl
    go_wp2_with fail
    refine HZ.out.mono ?_
    rintro e w1 ⟨rfl, hb⟩
    have HB2 := Lib.hid (belI_call HB.out hb)
    clear c0 c1 c2 c3 c4 c5 c6 c7 c8 c9 c10 hb
    go_wp2_with fail
    go_ret
    exact ⟨rfl, HB2.out⟩
  ·obtain rfl : k = n := by omega
   have := Ht.out.1
   rw [List.take_of_length_le (by rw [← Hn.out]; exact Nat.le_refl _), ← HT.out] at this
   omega
end Go.Proofs.Ytokniebejilcbaa
namespace Go.Proofs.Ytokniebejilcbaa
open Go.RowKit
theorem form_lFs {w : World} {v : Value} {L : List Sf} {bs : List Nat} (h : repSfs.R w L [v] bs) : (∃ A c, v = .slice A L.length c) ∧ L.length ≤ maxLen := by
 rcases SlU.of_rep h with ⟨rfl, rfl, rfl⟩ | ⟨g, c, xs, bss, rfl, hU, rfl⟩
 ·exact ⟨⟨none, 0, rfl⟩, Nat.zero_le _⟩
 ·rcases hU.ow.2 with ⟨he, _⟩ | ⟨g', cap, cur, he, _, _, hn, hc, _⟩
  ·cases he
  ·exact ⟨⟨_, _, rfl⟩, by omega⟩
theorem at_lFs {w : World} {A : Option Addr} {n c k : Nat} {L : List Sf} {bs : List Nat} (h : repSfs.R w L [.slice A n c] bs) (hk : k < L.length) : ∃ g f d b, A = some ⟨g, 0, none⟩ ∧ L[k]? = some f ∧ repSf.R w f (sfCells f d) b ∧ ∀ j u, (sfCells f d)[j]? = some u → w.cell? ⟨g, k * 11 + j, none⟩ = some u := by
 rcases SlU.of_rep h with ⟨_, rfl, _⟩ | ⟨g, c', xs, bss, he, hU, _⟩
 ·simp at hk
 ·injection he with e1 e2 e3
  subst e1
  obtain ⟨f, x, b, hf, hx, hb, hl, hR, hc⟩ := hU.at_ hk
  have hR2 := hR
  obtain ⟨d, rfl, _⟩ := hR2
  exact ⟨g, f, d, b, rfl, hf, hR, hc⟩
structure EqSFs (w : World) (g g' k : Nat) (f : Sf) (d d' : Value) (b b' : List Nat) (W : World) : Prop where
 c : ∀ j u, (sfCells f d)[j]? = some u → W.cell? ⟨g, k * 11 + j, none⟩ = some u
 c' : ∀ j u, (sfCells f d')[j]? = some u → W.cell? ⟨g', k * 11 + j, none⟩ = some u
 r : repSf.R W f (sfCells f d) b
 r' : repSf.R W f (sfCells f d') b'
 bw : Below w.heap.size w W
theorem EqSFs.call {w : World} {g g' k : Nat} {f : Sf} {d d' : Value} {b b' : List Nat} {W W' : World} (h : EqSFs w g g' k f d d' b b' W) (hb : Below W.heap.size W W') : EqSFs w g g' k f d d' b b' W' :=
 ⟨fun j u hu => (hb.cell (World.block_lt_of_cell? W _ (h.c j u hu))).trans (h.c j u hu), fun j u hu => (hb.cell (World.block_lt_of_cell? W _ (h.c' j u hu))).trans (h.c' j u hu), Rep.call h.r hb, Rep.call h.r' hb, belI_call h.bw hb⟩
set_option maxHeartbeats 2000000 in
set_option maxRecDepth 10000 in
theorem eqFs_same (L : List Sf) (v u : Value) (bs cs : List Nat) (w : World) (h1 : repSfs.R w L [v] bs) (h2 : repSfs.R w L [u] cs) : Calls Try.prog 84 #[v, u] w fun e w' => e = .returned (.bool true) ∧ Below w.heap.size w w' := by
 obtain ⟨⟨A, c, rfl⟩, hm⟩ := form_lFs h1
 obtain ⟨⟨A', c', rfl⟩, _⟩ := form_lFs h2
 obtain ⟨n, hn⟩ : ∃ n, n = L.length := ⟨_, rfl⟩
 rw [← hn] at h1 h2 hm ⊢
 unfold maxLen at hm
 have H1 := Lib.hid h1
 have H2 := Lib.hid h2
 have Hn := Lib.hid hn
 clear h1 h2 hn
 go_enter Try.func84, Try.ntmps84
 go_wp2_with fail
 go_loopw [5] (fun s5 wr => ∃ k : Nat, k ≤ n ∧ s5 = .int .i64 k ∧ Hid (Below w.heap.size w wr)) (fun s5 _ => n - (intOf s5).toNat)
 case atStart => exact ⟨0, Nat.zero_le _, rfl, Lib.hid (Below.refl _ _)⟩
 case round =>
  obtain ⟨k, hk, rfl, HB⟩ := hrel
  by_cases hlt : k < n
  ·obtain ⟨g, f, d, b, rfl, hf, hR, hC⟩ := at_lFs (Rep.call H1.out HB.out) (k := k) (by rw [← Hn.out]; exact hlt)
   obtain ⟨g', f', d', b', rfl, hf', hR', hC'⟩ := at_lFs (Rep.call H2.out HB.out) (k := k) (by rw [← Hn.out]; exact hlt)
   obtain rfl : f = f' := Option.some.inj (hf.symm.trans hf')
   have hT : EqSFs w g g' k f d d' b b' wr := ⟨hC, hC', hR, hR', HB.out⟩
   have k0 : (0 : Int) ≤ (k : Int) := by omega
   have k1 : (k : Int) < (n : Int) := by omega
   clear hf hf' hR hR' hC hC'
   go_upto_region 6 with fail
   refine wp_region_held_drew (S := fun W => EqSFs w g g' k f d d' b b' W) (by kernel_rfl) (hT.call (belI_drew _)) (fun hS => ?_)
   refine tcH (i := 0) (v := .slice (some ⟨g, 0, none⟩) n c) rfl (by intro w' hSw; (try dsimp only at hSw); (have a0 := hSw.c 0 _ rfl); (rw [Nat.add_zero] at a0); (have a1 := hSw.c 1 _ rfl); (have a2 := hSw.c 2 _ rfl); (have a3 := hSw.c 3 _ rfl); (have a4 := hSw.c 4 _ rfl); (have a5 := hSw.c 5 _ rfl); (have a6 := hSw.c 6 _ rfl); (have a7 := hSw.c 7 _ rfl); (have a8 := hSw.c 8 _ rfl); (have a9 := hSw.c 9 _ rfl); (have a10 := hSw.c 10 _ rfl); (have b0 := hSw.c' 0 _ rfl); (rw [Nat.add_zero] at b0); (have b1 := hSw.c' 1 _ rfl); (have b2 := hSw.c' 2 _ rfl); (have b3 := hSw.c' 3 _ rfl); (have b4 := hSw.c' 4 _ rfl); (have b5 := hSw.c' 5 _ rfl); (have b6 := hSw.c' 6 _ rfl); (have b7 := hSw.c' 7 _ rfl); (have b8 := hSw.c' 8 _ rfl); (have b9 := hSw.c' 9 _ rfl); (have b10 := hSw.c' 10 _ rfl); go_simp) ?_
   refine tcH (i := 1) (v := .int .i64 (k : Int)) rfl (by intro w' hSw; (try dsimp only at hSw); (have a0 := hSw.c 0 _ rfl); (rw [Nat.add_zero] at a0); (have a1 := hSw.c 1 _ rfl); (have a2 := hSw.c 2 _ rfl); (have a3 := hSw.c 3 _ rfl); (have a4 := hSw.c 4 _ rfl); (have a5 := hSw.c 5 _ rfl); (have a6 := hSw.c 6 _ rfl); (have a7 := hSw.c 7 _ rfl); (have a8 := hSw.c 8 _ rfl); (have a9 := hSw.c 9 _ rfl); (have a10 := hSw.c 10 _ rfl); (have b0 := hSw.c' 0 _ rfl); (rw [Nat.add_zero] at b0); (have b1 := hSw.c' 1 _ rfl); (have b2 := hSw.c' 2 _ rfl); (have b3 := hSw.c' 3 _ rfl); (have b4 := hSw.c' 4 _ rfl); (have b5 := hSw.c' 5 _ rfl); (have b6 := hSw.c' 6 _ rfl); (have b7 := hSw.c' 7 _ rfl); (have b8 := hSw.c' 8 _ rfl); (have b9 := hSw.c' 9 _ rfl); (have b10 := hSw.c' 10 _ rfl); go_simp) ?_
   refine tcH (i := 2) (v := .pointer (some ⟨g, k * 11, none⟩)) rfl (by intro w' hSw; (try dsimp only at hSw); (have a0 := hSw.c 0 _ rfl); (rw [Nat.add_zero] at a0); (have a1 := hSw.c 1 _ rfl); (have a2 := hSw.c 2 _ rfl); (have a3 := hSw.c 3 _ rfl); (have a4 := hSw.c 4 _ rfl); (have a5 := hSw.c 5 _ rfl); (have a6 := hSw.c 6 _ rfl); (have a7 := hSw.c 7 _ rfl); (have a8 := hSw.c 8 _ rfl); (have a9 := hSw.c 9 _ rfl); (have a10 := hSw.c 10 _ rfl); (have b0 := hSw.c' 0 _ rfl); (rw [Nat.add_zero] at b0); (have b1 := hSw.c' 1 _ rfl); (have b2 := hSw.c' 2 _ rfl); (have b3 := hSw.c' 3 _ rfl); (have b4 := hSw.c' 4 _ rfl); (have b5 := hSw.c' 5 _ rfl); (have b6 := hSw.c' 6 _ rfl); (have b7 := hSw.c' 7 _ rfl); (have b8 := hSw.c' 8 _ rfl); (have b9 := hSw.c' 9 _ rfl); (have b10 := hSw.c' 10 _ rfl); go_simp) ?_
   refine tcH (i := 3) (v := .agg #[.int .i64 f.id, .int .i64 f.x, .int .i64 f.y, .int .i64 f.w, .int .i64 f.h, .int .i64 f.alpha, .int .i64 f.orient, .bool f.vis, .int .i64 f.bw, .int .i64 f.bh, d]) rfl (by intro w' hSw; (try dsimp only at hSw); (have a0 := hSw.c 0 _ rfl); (rw [Nat.add_zero] at a0); (have a1 := hSw.c 1 _ rfl); (have a2 := hSw.c 2 _ rfl); (have a3 := hSw.c 3 _ rfl); (have a4 := hSw.c 4 _ rfl); (have a5 := hSw.c 5 _ rfl); (have a6 := hSw.c 6 _ rfl); (have a7 := hSw.c 7 _ rfl); (have a8 := hSw.c 8 _ rfl); (have a9 := hSw.c 9 _ rfl); (have a10 := hSw.c 10 _ rfl); (have b0 := hSw.c' 0 _ rfl); (rw [Nat.add_zero] at b0); (have b1 := hSw.c' 1 _ rfl); (have b2 := hSw.c' 2 _ rfl); (have b3 := hSw.c' 3 _ rfl); (have b4 := hSw.c' 4 _ rfl); (have b5 := hSw.c' 5 _ rfl); (have b6 := hSw.c' 6 _ rfl); (have b7 := hSw.c' 7 _ rfl); (have b8 := hSw.c' 8 _ rfl); (have b9 := hSw.c' 9 _ rfl); (have b10 := hSw.c' 10 _ rfl); go_simp) ?_
   refine tcH (i := 4) (v := .slice (some ⟨g', 0, none⟩) n c') rfl (by intro w' hSw; (try dsimp only at hSw); (have a0 := hSw.c 0 _ rfl); (rw [Nat.add_zero] at a0); (have a1 := hSw.c 1 _ rfl); (have a2 := hSw.c 2 _ rfl); (have a3 := hSw.c 3 _ rfl); (have a4 := hSw.c 4 _ rfl); (have a5 := hSw.c 5 _ rfl); (have a6 := hSw.c 6 _ rfl); (have a7 := hSw.c 7 _ rfl); (have a8 := hSw.c 8 _ rfl); (have a9 := hSw.c 9 _ rfl); (have a10 := hSw.c 10 _ rfl); (have b0 := hSw.c' 0 _ rfl); (rw [Nat.add_zero] at b0); (have b1 := hSw.c' 1 _ rfl); (have b2 := hSw.c' 2 _ rfl); (have b3 := hSw.c' 3 _ rfl); (have b4 := hSw.c' 4 _ rfl); (have b5 := hSw.c' 5 _ rfl); (have b6 := hSw.c' 6 _ rfl); (have b7 := hSw.c' 7 _ rfl); (have b8 := hSw.c' 8 _ rfl); (have b9 := hSw.c' 9 _ rfl); (have b10 := hSw.c' 10 _ rfl); go_simp) ?_
   refine tcH (i := 5) (v := .int .i64 (k : Int)) rfl (by intro w' hSw; (try dsimp only at hSw); (have a0 := hSw.c 0 _ rfl); (rw [Nat.add_zero] at a0); (have a1 := hSw.c 1 _ rfl); (have a2 := hSw.c 2 _ rfl); (have a3 := hSw.c 3 _ rfl); (have a4 := hSw.c 4 _ rfl); (have a5 := hSw.c 5 _ rfl); (have a6 := hSw.c 6 _ rfl); (have a7 := hSw.c 7 _ rfl); (have a8 := hSw.c 8 _ rfl); (have a9 := hSw.c 9 _ rfl); (have a10 := hSw.c 10 _ rfl); (have b0 := hSw.c' 0 _ rfl); (rw [Nat.add_zero] at b0); (have b1 := hSw.c' 1 _ rfl); (have b2 := hSw.c' 2 _ rfl); (have b3 := hSw.c' 3 _ rfl); (have b4 := hSw.c' 4 _ rfl); (have b5 := hSw.c' 5 _ rfl); (have b6 := hSw.c' 6 _ rfl); (have b7 := hSw.c' 7 _ rfl); (have b8 := hSw.c' 8 _ rfl); (have b9 := hSw.c' 9 _ rfl); (have b10 := hSw.c' 10 _ rfl); go_simp) ?_
   refine tcH (i := 6) (v := .pointer (some ⟨g', k * 11, none⟩)) rfl (by intro w' hSw; (try dsimp only at hSw); (have a0 := hSw.c 0 _ rfl); (rw [Nat.add_zero] at a0); (have a1 := hSw.c 1 _ rfl); (have a2 := hSw.c 2 _ rfl); (have a3 := hSw.c 3 _ rfl); (have a4 := hSw.c 4 _ rfl); (have a5 := hSw.c 5 _ rfl); (have a6 := hSw.c 6 _ rfl); (have a7 := hSw.c 7 _ rfl); (have a8 := hSw.c 8 _ rfl); (have a9 := hSw.c 9 _ rfl); (have a10 := hSw.c 10 _ rfl); (have b0 := hSw.c' 0 _ rfl); (rw [Nat.add_zero] at b0); (have b1 := hSw.c' 1 _ rfl); (have b2 := hSw.c' 2 _ rfl); (have b3 := hSw.c' 3 _ rfl); (have b4 := hSw.c' 4 _ rfl); (have b5 := hSw.c' 5 _ rfl); (have b6 := hSw.c' 6 _ rfl); (have b7 := hSw.c' 7 _ rfl); (have b8 := hSw.c' 8 _ rfl); (have b9 := hSw.c' 9 _ rfl); (have b10 := hSw.c' 10 _ rfl); go_simp) ?_
   refine tcH (i := 7) (v := .agg #[.int .i64 f.id, .int .i64 f.x, .int .i64 f.y, .int .i64 f.w, .int .i64 f.h, .int .i64 f.alpha, .int .i64 f.orient, .bool f.vis, .int .i64 f.bw, .int .i64 f.bh, d']) rfl (by intro w' hSw; (try dsimp only at hSw); (have a0 := hSw.c 0 _ rfl); (rw [Nat.add_zero] at a0); (have a1 := hSw.c 1 _ rfl); (have a2 := hSw.c 2 _ rfl); (have a3 := hSw.c 3 _ rfl); (have a4 := hSw.c 4 _ rfl); (have a5 := hSw.c 5 _ rfl); (have a6 := hSw.c 6 _ rfl); (have a7 := hSw.c 7 _ rfl); (have a8 := hSw.c 8 _ rfl); (have a9 := hSw.c 9 _ rfl); (have a10 := hSw.c 10 _ rfl); (have b0 := hSw.c' 0 _ rfl); (rw [Nat.add_zero] at b0); (have b1 := hSw.c' 1 _ rfl); (have b2 := hSw.c' 2 _ rfl); (have b3 := hSw.c' 3 _ rfl); (have b4 := hSw.c' 4 _ rfl); (have b5 := hSw.c' 5 _ rfl); (have b6 := hSw.c' 6 _ rfl); (have b7 := hSw.c' 7 _ rfl); (have b8 := hSw.c' 8 _ rfl); (have b9 := hSw.c' 9 _ rfl); (have b10 := hSw.c' 10 _ rfl); go_simp) ?_
   (try simp only [Act.put]); (try simp only [zPa]); (try simp only [zPb, zPc])
   refine wpAnyH_ready (rs := [8]) (by kernel_rfl) (by simp) ?_
   refine (AllReadyH.cons rfl (fun K hK => ?_) AllReadyH.nil)
   ·rw [if_pos (by kernel_rfl)]
    (try simp only [zGa]); (try simp only [zGb]); (try simp only [zGc])
    go_simp
    with_reducible refine (eq_sf f d d' b b' _ hS.r hS.r').mono ?_
    rintro e W' ⟨rfl, hb⟩
    dsimp only
    refine hK.out _ _ (hS.call hb) (fun hS => ?_)
    clear hK
    (try simp only [Act.put]); (try simp only [zPa]); (try simp only [zPb, zPc])
    refine tcH (i := 9) (v := .bool false) rfl (by intro w' hSw; (try dsimp only at hSw); (have a0 := hSw.c 0 _ rfl); (rw [Nat.add_zero] at a0); (have a1 := hSw.c 1 _ rfl); (have a2 := hSw.c 2 _ rfl); (have a3 := hSw.c 3 _ rfl); (have a4 := hSw.c 4 _ rfl); (have a5 := hSw.c 5 _ rfl); (have a6 := hSw.c 6 _ rfl); (have a7 := hSw.c 7 _ rfl); (have a8 := hSw.c 8 _ rfl); (have a9 := hSw.c 9 _ rfl); (have a10 := hSw.c 10 _ rfl); (have b0 := hSw.c' 0 _ rfl); (rw [Nat.add_zero] at b0); (have b1 := hSw.c' 1 _ rfl); (have b2 := hSw.c' 2 _ rfl); (have b3 := hSw.c' 3 _ rfl); (have b4 := hSw.c' 4 _ rfl); (have b5 := hSw.c' 5 _ rfl); (have b6 := hSw.c' 6 _ rfl); (have b7 := hSw.c' 7 _ rfl); (have b8 := hSw.c' 8 _ rfl); (have b9 := hSw.c' 9 _ rfl); (have b10 := hSw.c' 10 _ rfl); go_simp) ?_
    refine wpAnyH_done (by kernel_rfl) ?_ _
    go_wp2_with fail
    go_roundw
    case rel => exact ⟨k + 1, by omega, by go_num, Lib.hid hS.bw⟩
    case measure => simp [intOf]; omega
  ·obtain rfl : k = n := by omega
   go_wp2_with fail
   go_ret
   exact ⟨rfl, HB.out⟩
set_option maxHeartbeats 1000000 in
set_option maxRecDepth 10000 in
theorem eq_sn (f : Sn) (d u : Value) (bs cs : List Nat) (w : World) (h1 : repSn.R w f [.int .i64 f.w, .int .i64 f.h, .int .i64 f.back, d] bs) (h2 : repSn.R w f [.int .i64 f.w, .int .i64 f.h, .int .i64 f.back, u] cs) : Calls Try.prog 39 #[.agg #[.int .i64 f.w, .int .i64 f.h, .int .i64 f.back, d], .agg #[.int .i64 f.w, .int .i64 f.h, .int .i64 f.back, u]] w fun e w' => e = .returned (.bool true) ∧ Below w.heap.size w w' := by
 have HB := Lib.hid (belI_call (belI_box w (.cells #[.int .i64 f.w, .int .i64 f.h, .int .i64 f.back, d] 56)) (belI_box _ (.cells #[.int .i64 f.w, .int .i64 f.h, .int .i64 f.back, u] 56)))
 have H1 := Lib.hid (Rep.call (r_sn h1) HB.out)
 have H2 := Lib.hid (Rep.call (r_sn h2) HB.out)
 obtain ⟨A, c, rfl⟩ := form_sn h1
 obtain ⟨A', c', rfl⟩ := form_sn h2
 clear h1 h2
 go_enter Try.func39, Try.ntmps39
 go_wp2_with fail
 refine (eqFs_same f.fs _ _ _ _ _ H1.out H2.out).mono ?_
 rintro e w1 ⟨rfl, hb⟩
 go_wp2_with fail
 go_ret
 exact ⟨rfl, belI_call HB.out hb⟩
set_option maxHeartbeats 1000000 in
theorem sz_sn_yes (f : Sn) (d : Value) (l : Int) (w : World) (hr : wkSn.R w f [.int .i64 f.w, .int .i64 f.h, .int .i64 f.back, d]) (h : (((sizFs f.fs) : Nat) : Int) ≤ l) (hl : l ≤ 2097152) : Calls Try.prog 33 #[.agg #[.int .i64 f.w, .int .i64 f.h, .int .i64 f.back, d], .int .i64 l] w fun e w' => e = .returned (.int .i64 (l - (((sizFs f.fs) : Nat) : Int))) ∧ Below w.heap.size w w' := by
 have HB := Lib.hid (belI_box w (.cells #[.int .i64 f.w, .int .i64 f.h, .int .i64 f.back, d] 49))
 have H1 := Lib.hid (wkSfs.call (wr_sn hr) HB.out)
 obtain ⟨A, c, rfl⟩ := wform_sn hr
 have h1 : ¬ (l - (((sizFs f.fs) : Nat) : Int) < 0) := by omega
 clear hr
 go_enter Try.func33, Try.ntmps33
 go_wp2_with fail
 refine (szFs_yes f.fs _ l _ H1.out h hl).mono ?_
 rintro e w1 ⟨rfl, hb⟩
 go_wp2_with fail
 go_ret
 exact ⟨rfl, belI_call HB.out hb⟩
set_option maxHeartbeats 1000000 in
theorem sz_sn_no (f : Sn) (d : Value) (l : Int) (w : World) (hr : wkSn.R w f [.int .i64 f.w, .int .i64 f.h, .int .i64 f.back, d]) (h0 : 0 ≤ l) (h : l < (((sizFs f.fs) : Nat) : Int)) (hl : l ≤ 2097152) : Calls Try.prog 33 #[.agg #[.int .i64 f.w, .int .i64 f.h, .int .i64 f.back, d], .int .i64 l] w fun e w' => e = .returned (.int .i64 (-1)) ∧ Below w.heap.size w w' := by
 have HB := Lib.hid (belI_box w (.cells #[.int .i64 f.w, .int .i64 f.h, .int .i64 f.back, d] 49))
 have H1 := Lib.hid (wkSfs.call (wr_sn hr) HB.out)
 obtain ⟨A, c, rfl⟩ := wform_sn hr
 clear hr
 go_enter Try.func33, Try.ntmps33
 go_wp2_with fail
 refine (szFs_no f.fs _ l _ H1.out h0 h hl).mono ?_
 rintro e w1 ⟨rfl, hb⟩
 go_wp2_with fail
 go_ret
 exact ⟨rfl, belI_call HB.out hb⟩
end Go.Proofs.Ytokniebejilcbaa
namespace Go.Proofs.Ytokniebejilcbaa
open Go.RowKit
theorem made_rows {zs : List Value} {n : Nat} (hs : 0 < zs.length) : (madeCells zs.toArray (n * zs.length)).toList = (List.replicate n zs).flatten := by
 apply List.ext_getElem?
 intro i
 by_cases hi : i < n * zs.length
 ·have hk : i / zs.length < n := Nat.div_lt_of_lt_mul (by rwa [Nat.mul_comm])
  have hj : i % zs.length < zs.length := Nat.mod_lt _ hs
  have h1 := flat_at (xs := List.replicate n zs) (s := zs.length) (fun x hx => by rw [List.eq_of_mem_replicate hx]) (i / zs.length) (i % zs.length) (x := zs) (by rw [List.getElem?_replicate, if_pos hk]) hj
  rw [show i / zs.length * zs.length + i % zs.length = i by rw [Nat.mul_comm]; exact Nat.div_add_mod _ _] at h1
  rw [h1]
  simp only [madeCells, Array.toList_map, Array.toList_range, List.getElem?_map]
  rw [List.getElem?_range hi]
  simp [hj]
 ·have hl : (List.replicate n zs).flatten.length = n * zs.length := by rw [flat_len (s := zs.length) fun x hx => by rw [List.eq_of_mem_replicate hx], List.length_replicate]
  rw [List.getElem?_eq_none (by rw [Array.length_toList, size_madeCells]; omega), List.getElem?_eq_none (by omega)]
theorem rows_repl {α : Type} {E : Rep α} {w : World} {a : α} {x : List Value} (h : E.R w a x []) : ∀ n, rowsR E w (List.replicate n a) (List.replicate n x) (List.replicate n [])
 | 0 => trivial
 | n + 1 => ⟨h, rows_repl h n⟩
theorem flat_set_nodup {bss : List (List Nat)} {k : Nat} {d e : List Nat} (hn : bss.flatten.Nodup) (hk : bss[k]? = some d) (he : e.Nodup) (hd : ∀ b ∈ e, b ∉ bss.flatten) : (bss.set k e).flatten.Nodup ∧ ∀ b, b ∈ (bss.set k e).flatten → b ∈ bss.flatten ∨ b ∈ e := by
  induction bss generalizing k with
  | nil => simp at hk
  | cons c t ih =>
    rw [List.flatten_cons, List.nodup_append] at hn
    obtain ⟨h1, h2, h3⟩ := hn
    cases k with
    | zero =>
      refine ⟨?_, fun b hb => ?_⟩
      · show (e ++ t.flatten).Nodup
        rw [List.nodup_append]
        exact ⟨he, h2, fun x hx y hy e => hd x hx (by rw [List.flatten_cons, List.mem_append, e]; exact .inr hy)⟩
      · have hb : b ∈ e ++ t.flatten := hb
        rw [List.mem_append] at hb
        rcases hb with hb | hb
        · exact .inr hb
        · exact .inl (by rw [List.flatten_cons, List.mem_append]; exact .inr hb)
    | succ k =>
      obtain ⟨i1, i2⟩ := ih h2 (by simpa using hk) fun b hb hm => hd b hb (by rw [List.flatten_cons, List.mem_append]; exact .inr hm)
      refine ⟨?_, fun b hb => ?_⟩
      · show (c ++ (t.set k e).flatten).Nodup
        rw [List.nodup_append]
        refine ⟨h1, i1, fun x hx y hy e' => ?_⟩
        subst e'
        rcases i2 x hy with h | h
        · exact h3 x hx x h rfl
        · exact hd x h (by rw [List.flatten_cons, List.mem_append]; exact .inl hx)
      · have hb : b ∈ c ++ (t.set k e).flatten := hb
        rw [List.mem_append] at hb
        rw [List.flatten_cons, List.mem_append]
        rcases hb with hb | hb
        · exact .inl (.inl hb)
        · rcases i2 b hb with h | h
          · exact .inl (.inr h)
          · exact .inr h
theorem infosf : (Try.prog.info? 81).map (fun i => (i.zero, i.size)) = some (some (.agg #[.int .i64 0, .int .i64 0, .int .i64 0, .int .i64 0, .int .i64 0, .int .i64 0, .int .i64 0, .bool false, .int .i64 0, .int .i64 0, .slice none 0 0]), 11) := by kernel_rfl
theorem make_sf (n : Nat) (hn : n ≤ 2097152) (W : World) : (Instr.makeSlice 54 (.int .i64 (n : Int)) (.int .i64 (n : Int))).run Try.prog W =
  .ok (.slice (some ⟨W.heap.size, 0, none⟩) n n) (W.alloc (.cells (madeCells #[.int .i64 0, .int .i64 0, .int .i64 0, .int .i64 0, .int .i64 0, .int .i64 0, .int .i64 0, .bool false, .int .i64 0, .int .i64 0, .slice none 0 0] (n * 11)) 81)) := by
 obtain ⟨i0, hi, hz0, hz1⟩ : ∃ i0, Try.prog.info? 81 = some i0 ∧ i0.zero = some (.agg #[.int .i64 0, .int .i64 0, .int .i64 0, .int .i64 0, .int .i64 0, .int .i64 0, .int .i64 0, .bool false, .int .i64 0, .int .i64 0, .slice none 0 0]) ∧ i0.size = 11 := by
  have h := infosf
  cases e : Try.prog.info? 81 with
  | none => rw [e] at h; simp at h
  | some i => rw [e] at h; simp at h; exact ⟨i, rfl, h.1, h.2⟩
 have hby : i0.bytes ≤ 1000 := by
  have h : (Try.prog.info? 81).map (fun i => decide (i.bytes ≤ 1000)) = some true := by kernel_rfl
  rw [hi] at h
  simpa using h
 have hbn : n * i0.bytes ≤ 2097152 * 1000 := Nat.mul_le_mul hn hby
 have hbn2 : i0.bytes * n ≤ 2097152 * 1000 := by rw [Nat.mul_comm]; exact hbn
 have h := run_make (P := Try.prog) W 54 81 i0 _ Try.underlying54 hi hz0 .i64 .i64 n n (by omega) (by omega) (by omega) (by omega)
 rw [hz1] at h
 simpa [Value.cells] using h
theorem slu_made_sf (W : World) (n : Nat) (hn : n ≤ 2097152) : SlU repSf 81 11 (W.alloc (.cells (madeCells #[.int .i64 0, .int .i64 0, .int .i64 0, .int .i64 0, .int .i64 0, .int .i64 0, .int .i64 0, .bool false, .int .i64 0, .int .i64 0, .slice none 0 0] (n * 11)) 81)) (List.replicate n sfZero) W.heap.size n n (List.replicate n [.int .i64 0, .int .i64 0, .int .i64 0, .int .i64 0, .int .i64 0, .int .i64 0, .int .i64 0, .bool false, .int .i64 0, .int .i64 0, .slice none 0 0]) (List.replicate n []) := by
 refine ⟨rows_repl (show repSf.R _ sfZero [.int .i64 0, .int .i64 0, .int .i64 0, .int .i64 0, .int .i64 0, .int .i64 0, .int .i64 0, .bool false, .int .i64 0, .int .i64 0, .slice none 0 0] [] from ⟨.slice none 0 0, rfl, .slice none 0 0, rfl, ⟨rfl, .inl ⟨rfl, rfl⟩⟩, rfl⟩) n, fun x hx => by rw [List.eq_of_mem_replicate hx]; rfl, ?_, by simp⟩
 refine ⟨by rw [flat_len (s := 11) fun x hx => by rw [List.eq_of_mem_replicate hx]; rfl, List.length_replicate], .inr ⟨W.heap.size, n, _, rfl, Nat.zero_le _, heap_alloc_new W _, Nat.le_refl _, by unfold maxLen; omega, size_madeCells _ _, ?_⟩⟩
 have h := made_rows (zs := [.int .i64 0, .int .i64 0, .int .i64 0, .int .i64 0, .int .i64 0, .int .i64 0, .int .i64 0, .bool false, .int .i64 0, .int .i64 0, .slice none 0 0]) (n := n) (by simp)
 rw [List.take_of_length_le (by rw [Array.length_toList, size_madeCells]; exact Nat.le_refl _)]
 exact h
def ToFs (L : List Sf) (w : World) (e : Ending) (w' : World) : Prop := ∃ u bs, e = .returned u ∧ repSfs.Own w.heap.size w' L [u] bs ∧ Below w.heap.size w w'
set_option maxHeartbeats 4000000 in
set_option maxRecDepth 10000 in
theorem toFs (L : List Sf) (v : Value) (w : World) (hm : sizFs L ≤ 1048576) (h : wkSfs.R w L [v]) : Calls Try.prog 81 #[v] w (ToFs L w) := by
 obtain ⟨⟨A, c, rfl⟩, _⟩ := wkSl_form h
 obtain ⟨n, hn⟩ : ∃ n, n = L.length := ⟨_, rfl⟩
 have hsz := hm
 unfold sizFs at hsz
 rw [← hn] at h hsz ⊢
 have Hn := Lib.hid hn
 have H := Lib.hid h
 have Hl := Lib.hid (show lenFs L ≤ 1048576 by omega)
 have hn2 : n ≤ 1048576 := by omega
 have hmk := fun W => make_sf n (by omega) W
 have hlz : (List.replicate n sfZero).length = L.length := by rw [List.length_replicate, hn]
 have Hlz := Lib.hid hlz
 clear h hn hm hsz hlz
 go_enter Try.func81, Try.ntmps81
 go_wp2_with fail
 go_loopw [4] (fun s4 wr => ∃ (k : Nat) (xs : List (List Value)) (bss : List (List Nat)), k ≤ n ∧ s4 = .int .i64 k ∧ SlU repSf 81 11 wr (mixG L (List.replicate n sfZero) k) w.heap.size n n xs bss ∧ Hid (w.heap.size ∉ bss.flatten ∧ bss.flatten.Nodup ∧ ∀ b ∈ bss.flatten, w.heap.size ≤ b) ∧ Hid (Below w.heap.size w wr)) (fun s4 _ => n - (intOf s4).toNat)
 case atStart => exact ⟨0, _, _, Nat.zero_le _, rfl, by rw [mix_zero]; exact slu_made_sf w n (by omega), Lib.hid (by simp), Lib.hid ((Below.refl _ _).alloc (Nat.le_refl _) _)⟩
 case round =>
  clear hmk
  obtain ⟨k, xs, bss, hk, rfl, hU, Hnd, HB⟩ := hrel
  by_cases hlt : k < n
  ·obtain ⟨ad, f, ys, rfl, hf, hyl, hR, hC⟩ := wkSl_at (wkSfs.call H.out HB.out) (by omega) (k := k) (by rw [← Hn.out]; exact hlt)
   have hR2 := hR
   obtain ⟨d, rfl, hd⟩ := hR2
   have HZ := Lib.hid (to_sf f d wr hR (by have := lenFs_at hf; have := Hl.out; omega))
   have Hf := Lib.hid hf
   have k0 : (0 : Int) ≤ (k : Int) := by omega
   have k1 : (k : Int) < (n : Int) := by omega
   have c0 := hC.1
   simp only [sfCells, List.getElem?_cons_zero] at c0
   have c1 := hC.2 1 _ (by omega) rfl
   have c2 := hC.2 2 _ (by omega) rfl
   have c3 := hC.2 3 _ (by omega) rfl
   have c4 := hC.2 4 _ (by omega) rfl
   have c5 := hC.2 5 _ (by omega) rfl
   have c6 := hC.2 6 _ (by omega) rfl
   have c7 := hC.2 7 _ (by omega) rfl
   have c8 := hC.2 8 _ (by omega) rfl
   have c9 := hC.2 9 _ (by omega) rfl
   have c10 := hC.2 10 _ (by omega) rfl
   clear hf hR hd hC hyl
   go_wp2_with fail
   refine HZ.out.mono ?_
   rintro e w1 ⟨u, bsU, rfl, ho, hb⟩
   obtain ⟨Au, cu, hu⟩ := form_sf ho.r
   subst hu
   clear c0 c1 c2 c3 c4 c5 c6 c7 c8 c9 c10
   have hlo1 := hU.lt
   have HRO := Lib.hid (rowsR_ex hU.rr)
   replace hU := hU.call hb
   have HB1 := Lib.hid (belI_call HB.out hb)
   clear hb
   obtain ⟨a0, x, b, ha0, hx, hbk, hxl, hRx, hcx⟩ := hU.at_ hlt
   obtain ⟨v0, hv0⟩ : ∃ v, x[0]? = some v := ⟨_, List.getElem?_eq_getElem (by omega)⟩
   have y0 := hcx 0 _ hv0
   rw [Nat.add_zero] at y0
   obtain ⟨v1, hv1⟩ : ∃ v, x[1]? = some v := ⟨_, List.getElem?_eq_getElem (by omega)⟩
   have y1 := hcx 1 _ hv1
   obtain ⟨v2, hv2⟩ : ∃ v, x[2]? = some v := ⟨_, List.getElem?_eq_getElem (by omega)⟩
   have y2 := hcx 2 _ hv2
   obtain ⟨v3, hv3⟩ : ∃ v, x[3]? = some v := ⟨_, List.getElem?_eq_getElem (by omega)⟩
   have y3 := hcx 3 _ hv3
   obtain ⟨v4, hv4⟩ : ∃ v, x[4]? = some v := ⟨_, List.getElem?_eq_getElem (by omega)⟩
   have y4 := hcx 4 _ hv4
   obtain ⟨v5, hv5⟩ : ∃ v, x[5]? = some v := ⟨_, List.getElem?_eq_getElem (by omega)⟩
   have y5 := hcx 5 _ hv5
   obtain ⟨v6, hv6⟩ : ∃ v, x[6]? = some v := ⟨_, List.getElem?_eq_getElem (by omega)⟩
   have y6 := hcx 6 _ hv6
   obtain ⟨v7, hv7⟩ : ∃ v, x[7]? = some v := ⟨_, List.getElem?_eq_getElem (by omega)⟩
   have y7 := hcx 7 _ hv7
   obtain ⟨v8, hv8⟩ : ∃ v, x[8]? = some v := ⟨_, List.getElem?_eq_getElem (by omega)⟩
   have y8 := hcx 8 _ hv8
   obtain ⟨v9, hv9⟩ : ∃ v, x[9]? = some v := ⟨_, List.getElem?_eq_getElem (by omega)⟩
   have y9 := hcx 9 _ hv9
   obtain ⟨v10, hv10⟩ : ∃ v, x[10]? = some v := ⟨_, List.getElem?_eq_getElem (by omega)⟩
   have y10 := hcx 10 _ hv10
   have z0 := hU.frozen (k * 11)
   have z1 := hU.frozen (k * 11 + 1)
   have z2 := hU.frozen (k * 11 + 2)
   have z3 := hU.frozen (k * 11 + 3)
   have z4 := hU.frozen (k * 11 + 4)
   have z5 := hU.frozen (k * 11 + 5)
   have z6 := hU.frozen (k * 11 + 6)
   have z7 := hU.frozen (k * 11 + 7)
   have z8 := hU.frozen (k * 11 + 8)
   have z9 := hU.frozen (k * 11 + 9)
   have z10 := hU.frozen (k * 11 + 10)
   have hkx : k < xs.length := (List.getElem?_eq_some_iff.1 hx).1
   have hS0 := SetK.zero hU hx
   have hS1 := hS0.put hkx 0 (by omega) (.int .i64 f.id) rfl
   have hS2 := hS1.put hkx 1 (by omega) (.int .i64 f.x) rfl
   have hS3 := hS2.put hkx 2 (by omega) (.int .i64 f.y) rfl
   have hS4 := hS3.put hkx 3 (by omega) (.int .i64 f.w) rfl
   have hS5 := hS4.put hkx 4 (by omega) (.int .i64 f.h) rfl
   have hS6 := hS5.put hkx 5 (by omega) (.int .i64 f.alpha) rfl
   have hS7 := hS6.put hkx 6 (by omega) (.int .i64 f.orient) rfl
   have hS8 := hS7.put hkx 7 (by omega) (.bool f.vis) rfl
   have hS9 := hS8.put hkx 8 (by omega) (.int .i64 f.bw) rfl
   have hS10 := hS9.put hkx 9 (by omega) (.int .i64 f.bh) rfl
   have hS11 := hS10.put hkx 10 (by omega) (.slice Au f.data.length cu) rfl
   have hSN : SetK 81 11 w1 (((((((((((w1.setCell ⟨w.heap.size, k * 11, none⟩ (.int .i64 f.id)).setCell ⟨w.heap.size, k * 11 + 1, none⟩ (.int .i64 f.x)).setCell ⟨w.heap.size, k * 11 + 2, none⟩ (.int .i64 f.y)).setCell ⟨w.heap.size, k * 11 + 3, none⟩ (.int .i64 f.w)).setCell ⟨w.heap.size, k * 11 + 4, none⟩ (.int .i64 f.h)).setCell ⟨w.heap.size, k * 11 + 5, none⟩ (.int .i64 f.alpha)).setCell ⟨w.heap.size, k * 11 + 6, none⟩ (.int .i64 f.orient)).setCell ⟨w.heap.size, k * 11 + 7, none⟩ (.bool f.vis)).setCell ⟨w.heap.size, k * 11 + 8, none⟩ (.int .i64 f.bw)).setCell ⟨w.heap.size, k * 11 + 9, none⟩ (.int .i64 f.bh)).setCell ⟨w.heap.size, k * 11 + 10, none⟩ (.slice Au f.data.length cu)) w.heap.size n n k xs (sfCells f (.slice Au f.data.length cu)) := by
    have h := hS11
    have hx' : x.length = 11 := hxl
    match x, hx' with
    | [q0, q1, q2, q3, q4, q5, q6, q7, q8, q9, q10], _ => exact h
   have Hfin : Hid (∃ xs' bss', SlU repSf 81 11 ((((((((((((w1.setCell ⟨w.heap.size, k * 11, none⟩ (.int .i64 f.id)).setCell ⟨w.heap.size, k * 11 + 1, none⟩ (.int .i64 f.x)).setCell ⟨w.heap.size, k * 11 + 2, none⟩ (.int .i64 f.y)).setCell ⟨w.heap.size, k * 11 + 3, none⟩ (.int .i64 f.w)).setCell ⟨w.heap.size, k * 11 + 4, none⟩ (.int .i64 f.h)).setCell ⟨w.heap.size, k * 11 + 5, none⟩ (.int .i64 f.alpha)).setCell ⟨w.heap.size, k * 11 + 6, none⟩ (.int .i64 f.orient)).setCell ⟨w.heap.size, k * 11 + 7, none⟩ (.bool f.vis)).setCell ⟨w.heap.size, k * 11 + 8, none⟩ (.int .i64 f.bw)).setCell ⟨w.heap.size, k * 11 + 9, none⟩ (.int .i64 f.bh)).setCell ⟨w.heap.size, k * 11 + 10, none⟩ (.slice Au f.data.length cu))) (mixG L (List.replicate n sfZero) (k + 1)) w.heap.size n n xs' bss' ∧ (w.heap.size ∉ bss'.flatten ∧ bss'.flatten.Nodup ∧ ∀ b ∈ bss'.flatten, w.heap.size ≤ b) ∧ Below w.heap.size w ((((((((((((w1.setCell ⟨w.heap.size, k * 11, none⟩ (.int .i64 f.id)).setCell ⟨w.heap.size, k * 11 + 1, none⟩ (.int .i64 f.x)).setCell ⟨w.heap.size, k * 11 + 2, none⟩ (.int .i64 f.y)).setCell ⟨w.heap.size, k * 11 + 3, none⟩ (.int .i64 f.w)).setCell ⟨w.heap.size, k * 11 + 4, none⟩ (.int .i64 f.h)).setCell ⟨w.heap.size, k * 11 + 5, none⟩ (.int .i64 f.alpha)).setCell ⟨w.heap.size, k * 11 + 6, none⟩ (.int .i64 f.orient)).setCell ⟨w.heap.size, k * 11 + 7, none⟩ (.bool f.vis)).setCell ⟨w.heap.size, k * 11 + 8, none⟩ (.int .i64 f.bw)).setCell ⟨w.heap.size, k * 11 + 9, none⟩ (.int .i64 f.bh)).setCell ⟨w.heap.size, k * 11 + 10, none⟩ (.slice Au f.data.length cu)))) := by
    obtain ⟨n1, n2, n3⟩ := Hnd.out
    have hfresh : ∀ b ∈ bsU, b ∉ bss.flatten := fun b hb hm => by
     have h1 := ho.lo b hb
     have h2 := HRO.out b hm
     omega
    have hch := Chg.of_grown hSN.gr
    have hUn := SlU.upd (a' := f) (b' := bsU) hU hlt hSN.ow hSN.ls (Rep.chg ho.r hch (fun b hb e => by have h7 := ho.lo b hb; have h8 : b = w.heap.size := (by simpa using e); omega)) (fun j d hj hd b hb => hch.block b (by have := rowsR_ex hU.rr b (flat_mem hd hb); exact this) (fun e => n1 (by rw [← show b = w.heap.size by simpa using e]; exact flat_mem hd hb)))
    obtain ⟨m1, m2⟩ := flat_set_nodup n2 hbk ho.nd hfresh
    rw [mix_set Hlz.out.symm Hf.out] at hUn
    refine ⟨_, _, hUn, ⟨fun e => ?_, m1, fun b hb => ?_⟩, HB1.out.grown hSN.gr HB1.out.size (fun q hq => by have := Option.some.inj hq; omega)⟩
    ·rcases m2 _ e with h | h
     ·exact n1 h
     ·have := ho.lo _ h; omega
    ·rcases m2 _ hb with h | h
     ·exact n3 b h
     ·have := ho.lo b h; omega
   clear hS0 hS1 hS2 hS3 hS4 hS5 hS6 hS7 hS8 hS9 hS10 hS11 hSN hv0 hv1 hv2 hv3 hv4 hv5 hv6 hv7 hv8 hv9 hv10 ho hU hRx hcx ha0 hx hbk
   go_wp2_with fail
   go_roundw
   case rel =>
    obtain ⟨xs', bss', q1, q2, q3⟩ := Hfin.out
    exact ⟨k + 1, xs', bss', by omega, by go_num, q1, Lib.hid q2, Lib.hid q3⟩
   case measure => simp [intOf]; omega
  ·obtain rfl : k = n := by omega
   obtain ⟨n1, n2, n3⟩ := Hnd.out
   have HO := Lib.hid (hU.own (B := w.heap.size) n1 n2 (Nat.le_refl _) n3)
   clear hU
   go_wp2_with fail
   go_ret
   have h := HO.out
   rw [show mixG L (List.replicate k sfZero) k = L from by have := mix_all Hlz.out.symm; rwa [List.length_replicate] at this] at h
   exact ⟨.slice (some ⟨w.heap.size, 0, none⟩) k k, _, rfl, h, HB.out⟩
set_option maxHeartbeats 2000000 in
set_option maxRecDepth 10000 in
theorem to_sn (f : Sn) (d : Value) (w : World) (hr : wkSn.R w f [.int .i64 f.w, .int .i64 f.h, .int .i64 f.back, d]) (hm : (sizFs f.fs) ≤ 1048576) : Calls Try.prog 36 #[.agg #[.int .i64 f.w, .int .i64 f.h, .int .i64 f.back, d]] w fun e w' => ∃ u bs, e = .returned (.agg #[.int .i64 f.w, .int .i64 f.h, .int .i64 f.back, u]) ∧ repSn.Own w.heap.size w' f [.int .i64 f.w, .int .i64 f.h, .int .i64 f.back, u] bs ∧ Below w.heap.size w w' := by
 have hB : Below w.heap.size w (((w.alloc (.cells #[.int .i64 f.w, .int .i64 f.h, .int .i64 f.back, d] 49)).alloc (.cells #[.int .i64 0, .int .i64 0, .int .i64 0, .slice none 0 0] 56)).alloc (.cells #[.int .i64 f.w, .int .i64 f.h, .int .i64 f.back, .slice none 0 0] 56)) := belI_call (belI_call (belI_box _ _) (belI_box _ _)) (belI_box _ _)
 have hI : BkAt (((w.alloc (.cells #[.int .i64 f.w, .int .i64 f.h, .int .i64 f.back, d] 49)).alloc (.cells #[.int .i64 0, .int .i64 0, .int .i64 0, .slice none 0 0] 56)).alloc (.cells #[.int .i64 f.w, .int .i64 f.h, .int .i64 f.back, .slice none 0 0] 56)) (w.heap.size + 1 + 1) 56 #[.int .i64 f.w, .int .i64 f.h, .int .i64 f.back, .slice none 0 0] := BkAt.newAt (by simp) _ _
 have hZ : BkAt (((w.alloc (.cells #[.int .i64 f.w, .int .i64 f.h, .int .i64 f.back, d] 49)).alloc (.cells #[.int .i64 0, .int .i64 0, .int .i64 0, .slice none 0 0] 56)).alloc (.cells #[.int .i64 f.w, .int .i64 f.h, .int .i64 f.back, .slice none 0 0] 56)) (w.heap.size + 1) 56 #[.int .i64 0, .int .i64 0, .int .i64 0, .slice none 0 0] := BkAt.alloc (BkAt.newAt (by simp) _ _) _
 have HR := Lib.hid (wkSfs.call (wr_sn hr) hB)
 obtain ⟨W0, hW0⟩ : ∃ W, W = (((w.alloc (.cells #[.int .i64 f.w, .int .i64 f.h, .int .i64 f.back, d] 49)).alloc (.cells #[.int .i64 0, .int .i64 0, .int .i64 0, .slice none 0 0] 56)).alloc (.cells #[.int .i64 f.w, .int .i64 f.h, .int .i64 f.back, .slice none 0 0] 56)) := ⟨_, rfl⟩
 rw [← hW0] at hB hI hZ HR
 have HW := Lib.hid hW0
 have Hm := Lib.hid hm
 obtain ⟨A0, c0, rfl⟩ := wform_sn hr
 clear hm hr hW0
 go_enter Try.func36, Try.ntmps36
 go_wp2_with fail
 rw [← HW.out]
 refine (toFs f.fs _ _ Hm.out HR.out).mono ?_
 rintro e w1 ⟨u, bs, rfl, ho, hb1⟩
 have hlo := hI.lt
 replace hI := hI.call hb1
 replace hZ := hZ.call hb1
 replace hB := belI_call hB hb1
 obtain ⟨A, c, hu⟩ := (repSfs_form ho.r).1
 subst hu
 have Ho := Lib.hid ho
 clear ho hb1
 obtain ⟨a0, a1, a2, a3⟩ := hI.cells4
 obtain ⟨b0, b1, b2, b3⟩ := hZ.cells4
 have fa3 := hI.frozen 3
 have f0 := hZ.frozen 0
 have f1 := hZ.frozen 1
 have f2 := hZ.frozen 2
 have f3 := hZ.frozen 3
 have HI := Lib.hid hI
 have HZ := Lib.hid hZ
 have HB := Lib.hid hB
 clear hI hZ hB
 go_wp2_with fail
 have hJ := (HZ.out.far (p := ⟨w.heap.size + 1 + 1, 3, none⟩) (by dsimp only; omega) (.slice A f.fs.length c)).all4 (.int .i64 f.w) (.int .i64 f.h) (.int .i64 f.back) (.slice A f.fs.length c)
 obtain ⟨x0, x1, x2, x3⟩ := hJ.cells4
 have hC := ((((Chg.setB w1 (w.heap.size + 1 + 1) 3 (.slice A f.fs.length c) [w.heap.size + 1, w.heap.size + 1 + 1] (by simp)).trans (Chg.setB _ (w.heap.size + 1) 0 (.int .i64 f.w) _ (by simp))).trans (Chg.setB _ (w.heap.size + 1) 1 (.int .i64 f.h) _ (by simp))).trans (Chg.setB _ (w.heap.size + 1) 2 (.int .i64 f.back) _ (by simp))).trans (Chg.setB _ (w.heap.size + 1) 3 (.slice A f.fs.length c) _ (by simp))
 have hown := Rep.Own.chg Ho.out hC (fun k hk e => by have := Ho.out.lo k hk; rcases mem2 e with rfl | rfl <;> omega)
 have hbel := hC.below HB.out HB.out.size (fun b hb => by rcases mem2 hb with rfl | rfl <;> omega)
 exact bodyPost_ret (v := .agg #[.int .i64 f.w, .int .i64 f.h, .int .i64 f.back, .slice A f.fs.length c]) (by simp [results, Try.results36, go_sem, x0, x1, x2, x3]) rfl ⟨_, _, rfl, own_sn' (hown.mono (by omega)), hbel⟩
end Go.Proofs.Ytokniebejilcbaa
namespace Go.Proofs.Ytokniebejilcbaa
open Go.RowKit
set_option maxHeartbeats 8000000 in
set_option maxRecDepth 10000 in
theorem markFs (B : Nat) (L : List Sf) (v : Value) (bs : List Nat) (k0 : Nat) (w : World) (hm : k0 + cntFs L ≤ 1000000000) (ho : repSfs.Own B w L [v] bs) :
  Calls Try.prog 85 #[v, .int .i64 k0] w fun e w' => e = .returned (.int .i64 ((k0 + cntFs L : Nat) : Int)) ∧ repSfs.R w' (mkFs k0 L) [v] bs ∧ Chg w w' bs := by
 rcases SlU.of_rep ho.r with ⟨rfl, rfl, rfl⟩ | ⟨g, c, xs0, bss, rfl, hU0, rfl⟩
 ·have HR := Lib.hid ho.r
  clear ho
  have hz : cntFs [] = 0 := rfl
  have Hz := Lib.hid hz
  clear hz hm
  go_enter Try.func85, Try.ntmps85
  go_wp2_with fail
  go_loopw [1, 5] (fun s1 s5 wr => s1 = .int .i64 k0 ∧ s5 = .int .i64 0 ∧ wr = w) (fun _ _ _ => 0)
  case atStart => exact ⟨rfl, rfl, rfl⟩
  case round =>
   obtain ⟨rfl, rfl, rfl⟩ := hrel
   go_wp2_with fail
   go_ret
   exact ⟨ret_int (by rw [Hz.out, Nat.add_zero]), HR.out, Chg.refl _ _⟩
 obtain ⟨n1, n2, _, _⟩ := hU0.nodup ho
 obtain ⟨n, hn⟩ : ∃ n, n = L.length := ⟨_, rfl⟩
 have hmL : L.length ≤ 9223372036854775807 := by have := (form_lFs ho.r).2; unfold maxLen at this; omega
 rw [← hn] at hU0 hmL ⊢
 have Hn := Lib.hid hn
 have Hm := Lib.hid hm
 have HN := Lib.hid (And.intro n1 n2)
 have HU0 := Lib.hid hU0
 clear ho hn hm n1 n2 hU0
 go_enter Try.func85, Try.ntmps85
 go_wp2_with fail
 go_loopw [1, 5] (fun s1 s5 wr => ∃ (k m : Nat) (xs : List (List Value)), k ≤ n ∧ s5 = .int .i64 k ∧ s1 = .int .i64 (m : Int) ∧ Hid (m = k0 + cntFs (L.take k)) ∧ SlU repSf 81 11 wr (mixG (mkFs k0 L) L k) g c n xs bss ∧ Hid (Chg w wr (g :: bss.flatten))) (fun _ s5 _ => n - (intOf s5).toNat)
 case atStart => exact ⟨0, k0, xs0, Nat.zero_le _, rfl, rfl, Lib.hid rfl, by rw [mix_zero]; exact HU0.out, Lib.hid (Chg.refl _ _)⟩
 case round =>
  obtain ⟨k, m, xs, hk, rfl, rfl, HM, hU, HCh⟩ := hrel
  by_cases hlt : k < n
  ·obtain ⟨f0, x, b, hf0, hx, hb, hxl, hR, hC⟩ := hU.at_ hlt
   obtain ⟨f, hf⟩ : ∃ f, L[k]? = some f := ⟨_, List.getElem?_eq_getElem (by rw [← Hn.out]; exact hlt)⟩
   obtain rfl : f0 = f := Option.some.inj (hf0.symm.trans (mix_get (mkFs_length k0 L) hf))
   have h1 := cntFs_take hf
   have hmx : m + 10 + f0.data.length ≤ 1000000000 := by
    have h2 := HM.out
    have h3 := cntFs_le L (k + 1)
    have h4 := Hm.out
    omega
   obtain ⟨d, rfl, hd⟩ := hR
   have hd2 := hd
   obtain ⟨d', e1, how, e2⟩ := hd2
   obtain rfl : d = d' := by simpa using e1
   obtain ⟨Ad, cd, hdd⟩ := (ints_form hd).1
   have hkx : k < xs.length := (List.getElem?_eq_some_iff.1 hx).1
   have hS0 := SetK.zero hU hx
   have hgd : ∀ q ∈ d.ownBlock.toList, q ≠ g := fun q hq e => HN.out.1 (by rw [← e]; exact flat_mem hb (by rw [e2]; exact hq))
   have k0' : (0 : Int) ≤ (k : Int) := by omega
   have k1 : (k : Int) < (n : Int) := by omega
   have m0 : (0 : Int) ≤ (m : Int) := by omega
   have m1 : (m : Int) ≤ 1000000000 := by omega
   have y0 := hC 0 _ rfl
   rw [Nat.add_zero] at y0
   have z0 := hU.frozen (k * 11)
   have y1 := hC 1 _ rfl
   have z1 := hU.frozen (k * 11 + 1)
   have y2 := hC 2 _ rfl
   have z2 := hU.frozen (k * 11 + 2)
   have y3 := hC 3 _ rfl
   have z3 := hU.frozen (k * 11 + 3)
   have y4 := hC 4 _ rfl
   have z4 := hU.frozen (k * 11 + 4)
   have y5 := hC 5 _ rfl
   have z5 := hU.frozen (k * 11 + 5)
   have y6 := hC 6 _ rfl
   have z6 := hU.frozen (k * 11 + 6)
   have y7 := hC 7 _ rfl
   have z7 := hU.frozen (k * 11 + 7)
   have y8 := hC 8 _ rfl
   have z8 := hU.frozen (k * 11 + 8)
   have y9 := hC 9 _ rfl
   have z9 := hU.frozen (k * 11 + 9)
   have y10 := hC 10 _ rfl
   have z10 := hU.frozen (k * 11 + 10)
   obtain ⟨B7, hB7⟩ : ∃ B : Bool, B = (((m + 7 : Nat) : Int) % 3 == 0) := ⟨_, rfl⟩
   have t7 : ((m : Int) + 1 + 1 + 1 + 1 + 1 + 1 + 1).tmod 3 = ((m : Int) + 1 + 1 + 1 + 1 + 1 + 1 + 1) % 3 := Int.tmod_eq_emod_of_nonneg (by omega)
   have q7 : (((m : Int) + 1 + 1 + 1 + 1 + 1 + 1 + 1) % 3 == 0) = B7 := by rw [hB7]; push_cast; rw [show (m : Int) + 1 + 1 + 1 + 1 + 1 + 1 + 1 = (m : Int) + 7 by omega]
   have HB7 := Lib.hid hB7
   clear hB7
   clear hf0
   have HX := Lib.hid hx
   have HBb := Lib.hid hb
   have HUk := Lib.hid hU
   have HS0 := Lib.hid hS0
   have Hf := Lib.hid hf
   have How := Lib.hid how
   have He2 := Lib.hid e2
   have Hgd := Lib.hid hgd
   have H1 := Lib.hid h1
   clear hx hb hU hS0 hf how e1 e2 hgd hd h1 hC hxl
   subst hdd
   go_wp2_with fail
   obtain ⟨WS, hWS⟩ : ∃ W, W = ((((((((((wr.setCell ⟨g, k * 11, none⟩ (.int .i64 ((m : Int)))).setCell ⟨g, k * 11 + 1, none⟩ (.int .i64 ((m : Int) + 1))).setCell ⟨g, k * 11 + 2, none⟩ (.int .i64 ((m : Int) + 1 + 1))).setCell ⟨g, k * 11 + 3, none⟩ (.int .i64 ((m : Int) + 1 + 1 + 1))).setCell ⟨g, k * 11 + 4, none⟩ (.int .i64 ((m : Int) + 1 + 1 + 1 + 1))).setCell ⟨g, k * 11 + 5, none⟩ (.int .i64 ((m : Int) + 1 + 1 + 1 + 1 + 1))).setCell ⟨g, k * 11 + 6, none⟩ (.int .i64 ((m : Int) + 1 + 1 + 1 + 1 + 1 + 1))).setCell ⟨g, k * 11 + 7, none⟩ (.bool B7)).setCell ⟨g, k * 11 + 8, none⟩ (.int .i64 ((m : Int) + 1 + 1 + 1 + 1 + 1 + 1 + 1 + 1))).setCell ⟨g, k * 11 + 8 + 1, none⟩ (.int .i64 ((m : Int) + 1 + 1 + 1 + 1 + 1 + 1 + 1 + 1 + 1))) := ⟨_, rfl⟩
   rw [← hWS]
   have hS1 := HS0.out.put hkx 0 (by omega) (.int .i64 ((m : Int))) rfl
   have hS2 := hS1.put hkx 1 (by omega) (.int .i64 ((m : Int) + 1)) rfl
   have hS3 := hS2.put hkx 2 (by omega) (.int .i64 ((m : Int) + 1 + 1)) rfl
   have hS4 := hS3.put hkx 3 (by omega) (.int .i64 ((m : Int) + 1 + 1 + 1)) rfl
   have hS5 := hS4.put hkx 4 (by omega) (.int .i64 ((m : Int) + 1 + 1 + 1 + 1)) rfl
   have hS6 := hS5.put hkx 5 (by omega) (.int .i64 ((m : Int) + 1 + 1 + 1 + 1 + 1)) rfl
   have hS7 := hS6.put hkx 6 (by omega) (.int .i64 ((m : Int) + 1 + 1 + 1 + 1 + 1 + 1)) rfl
   have hS8 := hS7.put hkx 7 (by omega) (.bool B7) rfl
   have hS9 := hS8.put hkx 8 (by omega) (.int .i64 ((m : Int) + 1 + 1 + 1 + 1 + 1 + 1 + 1 + 1)) rfl
   have hS10 := hS9.put hkx 9 (by omega) (.int .i64 ((m : Int) + 1 + 1 + 1 + 1 + 1 + 1 + 1 + 1 + 1)) rfl
   have hSN : SetK 81 11 wr ((((((((((wr.setCell ⟨g, k * 11, none⟩ (.int .i64 ((m : Int)))).setCell ⟨g, k * 11 + 1, none⟩ (.int .i64 ((m : Int) + 1))).setCell ⟨g, k * 11 + 2, none⟩ (.int .i64 ((m : Int) + 1 + 1))).setCell ⟨g, k * 11 + 3, none⟩ (.int .i64 ((m : Int) + 1 + 1 + 1))).setCell ⟨g, k * 11 + 4, none⟩ (.int .i64 ((m : Int) + 1 + 1 + 1 + 1))).setCell ⟨g, k * 11 + 5, none⟩ (.int .i64 ((m : Int) + 1 + 1 + 1 + 1 + 1))).setCell ⟨g, k * 11 + 6, none⟩ (.int .i64 ((m : Int) + 1 + 1 + 1 + 1 + 1 + 1))).setCell ⟨g, k * 11 + 7, none⟩ (.bool B7)).setCell ⟨g, k * 11 + 8, none⟩ (.int .i64 ((m : Int) + 1 + 1 + 1 + 1 + 1 + 1 + 1 + 1))).setCell ⟨g, k * 11 + 8 + 1, none⟩ (.int .i64 ((m : Int) + 1 + 1 + 1 + 1 + 1 + 1 + 1 + 1 + 1))) g c n k xs [.int .i64 ((m : Int)), .int .i64 ((m : Int) + 1), .int .i64 ((m : Int) + 1 + 1), .int .i64 ((m : Int) + 1 + 1 + 1), .int .i64 ((m : Int) + 1 + 1 + 1 + 1), .int .i64 ((m : Int) + 1 + 1 + 1 + 1 + 1), .int .i64 ((m : Int) + 1 + 1 + 1 + 1 + 1 + 1), .bool B7, .int .i64 ((m : Int) + 1 + 1 + 1 + 1 + 1 + 1 + 1 + 1), .int .i64 ((m : Int) + 1 + 1 + 1 + 1 + 1 + 1 + 1 + 1 + 1), .slice Ad f0.data.length cd] := hS10
   rw [← hWS] at hSN
   have p1 : (m : Int) + 1 = ((m + 1 : Nat) : Int) := by push_cast; omega
   have p2 : (m : Int) + 1 + 1 = ((m + 2 : Nat) : Int) := by push_cast; omega
   have p3 : (m : Int) + 1 + 1 + 1 = ((m + 3 : Nat) : Int) := by push_cast; omega
   have p4 : (m : Int) + 1 + 1 + 1 + 1 = ((m + 4 : Nat) : Int) := by push_cast; omega
   have p5 : (m : Int) + 1 + 1 + 1 + 1 + 1 = ((m + 5 : Nat) : Int) := by push_cast; omega
   have p6 : (m : Int) + 1 + 1 + 1 + 1 + 1 + 1 = ((m + 6 : Nat) : Int) := by push_cast; omega
   have p7 : (m : Int) + 1 + 1 + 1 + 1 + 1 + 1 + 1 = ((m + 7 : Nat) : Int) := by push_cast; omega
   have p8 : (m : Int) + 1 + 1 + 1 + 1 + 1 + 1 + 1 + 1 = ((m + 8 : Nat) : Int) := by push_cast; omega
   have p9 : (m : Int) + 1 + 1 + 1 + 1 + 1 + 1 + 1 + 1 + 1 = ((m + 9 : Nat) : Int) := by push_cast; omega
   have p10 : (m : Int) + 1 + 1 + 1 + 1 + 1 + 1 + 1 + 1 + 1 + 1 = ((m + 10 : Nat) : Int) := by push_cast; omega
   have hcells : [Value.int .i64 ((m : Int)), Value.int .i64 ((m : Int) + 1), Value.int .i64 ((m : Int) + 1 + 1), Value.int .i64 ((m : Int) + 1 + 1 + 1), Value.int .i64 ((m : Int) + 1 + 1 + 1 + 1), Value.int .i64 ((m : Int) + 1 + 1 + 1 + 1 + 1), Value.int .i64 ((m : Int) + 1 + 1 + 1 + 1 + 1 + 1), Value.bool B7, Value.int .i64 ((m : Int) + 1 + 1 + 1 + 1 + 1 + 1 + 1 + 1), Value.int .i64 ((m : Int) + 1 + 1 + 1 + 1 + 1 + 1 + 1 + 1 + 1), Value.slice Ad f0.data.length cd] = sfCells (mkSfK m f0) (.slice Ad f0.data.length cd) := by rw [p9, p8, p6, p5, p4, p3, p2, p1]; rw [HB7.out]; rfl
   rw [hcells] at hSN
   have hch := Chg.of_grown hSN.gr
   have hown := own_chgN How.out hch (fun b hb e => Hgd.out b hb (by simpa using e))
   have HSN := Lib.hid hSN
   have HCG := Lib.hid hch
   have HOWN := Lib.hid hown
   clear hSN hch hown hWS hcells hS1 hS2 hS3 hS4 hS5 hS6 hS7 hS8 hS9 hS10
   clear y0 z0 y1 z1 y2 z2 y3 z3 y4 z4 y5 z5 y6 z6 y7 z7 y8 z8 y9 z9 y10 z10
   rw [p10]
   refine (markIS 0 _ _ f0.data (m + 10) _ hmx HOWN.out).mono ?_
   rintro e w1 ⟨rfl, hmk, hgr⟩
   have hch2 := Chg.of_grown hgr
   have hb2 := He2.out
   have hfin : SlU repSf 81 11 w1 (mixG (mkFs k0 L) L (k + 1)) g c n (xs.set k (sfCells (mkSfK m f0) (.slice Ad f0.data.length cd))) bss ∧ Chg w w1 (g :: bss.flatten) := by
    have hm2 := HM.out
    have ow' := own_chgN HSN.out.ow hch2 (fun q hq e => Hgd.out q e (by simpa [Value.ownBlock] using hq))
    have hR' : repSf.R w1 (mkSfK m f0) (sfCells (mkSfK m f0) (.slice Ad f0.data.length cd)) b := ⟨_, rfl, _, rfl, by
     have h := own_rebase hmk (C := 0) fun _ _ => Nat.zero_le _
     rwa [show (mkSfK m f0).data.length = f0.data.length from marksI_length _ _], hb2⟩
    have hU2 := SlU.upd HUk.out hlt ow' HSN.out.ls hR' (fun j dd hj hdd q hq => by
     have hqf := flat_mem hdd hq
     have h1 : q ≠ g := fun e => HN.out.1 (e ▸ hqf)
     have h2 : q ∉ (Value.slice Ad f0.data.length cd).ownBlock.toList := fun e => rows_nodup HN.out.2 hdd HBb.out hj q hq (by rw [hb2]; exact e)
     have hlt2 := rowsR_ex HUk.out.rr q hqf
     rw [hch2.block q (Nat.lt_of_lt_of_le hlt2 HCG.out.size) h2]
     exact HCG.out.block q hlt2 (fun e => h1 (by simpa using e)))
    rw [set_same HBb.out, mix_set (mkFs_length k0 L) (by have h := mkFs_get k0 Hf.out; rwa [← hm2] at h)] at hU2
    exact ⟨hU2, (HCh.out.trans (HCG.out.mono fun q hq => by rw [show q = g by simpa using hq]; simp)).trans (hch2.mono fun q hq => List.mem_cons.2 (.inr (flat_mem HBb.out (by rw [hb2]; exact hq))))⟩
   have HF := Lib.hid hfin
   have HM2 : Hid (m + 10 + f0.data.length = k0 + cntFs (L.take (k + 1))) := Lib.hid (by have := HM.out; have := H1.out; omega)
   clear hfin hmk hgr hch2 hb2 p1 p2 p3 p4 p5 p6 p7 p8 p9 p10
   clear t7 q7
   go_wp2_with fail
   go_roundw
   case rel => exact ⟨k + 1, m + 10 + f0.data.length, _, by omega, by go_num, rfl, HM2, HF.out.1, Lib.hid HF.out.2⟩
   case measure => simp [intOf]; omega
  ·obtain rfl : k = n := by omega
   have he : m = k0 + cntFs L := by have := HM.out; rwa [List.take_of_length_le (by rw [← Hn.out]; exact Nat.le_refl _)] at this
   have HE := Lib.hid he
   have hU2 := hU
   rw [show mixG (mkFs k0 L) L k = mkFs k0 L from by rw [Hn.out]; exact mix_all (mkFs_length k0 L)] at hU2
   have HU2 := Lib.hid hU2
   clear he hU hU2
   go_wp2_with fail
   go_ret
   refine ⟨ret_int (by rw [HE.out]), ?_, HCh.out⟩
   have h := HU2.out.rep
   exact h
set_option maxHeartbeats 1000000 in
set_option maxRecDepth 10000 in
theorem mark_sn (B : Nat) (f : Sn) (d : Value) (bs : List Nat) (k0 : Nat) (w : World) (hm : k0 + (cntFs f.fs) ≤ 1000000000) (ho : repSn.Own B w f [.int .i64 f.w, .int .i64 f.h, .int .i64 f.back, d] bs) : Calls Try.prog 41 #[.agg #[.int .i64 f.w, .int .i64 f.h, .int .i64 f.back, d], .int .i64 k0] w fun e w' => e = .returned (.int .i64 ((k0 + (cntFs f.fs) : Nat) : Int)) ∧ repSn.R w' (mkSn k0 f) [.int .i64 f.w, .int .i64 f.h, .int .i64 f.back, d] bs ∧ Chg w w' bs := by
 have hb := belI_box w (.cells #[.int .i64 f.w, .int .i64 f.h, .int .i64 f.back, d] 56)
 have HO := Lib.hid ((own_sn ho).call hb)
 have HC := Lib.hid (Chg.of_below bs hb)
 obtain ⟨A, c, rfl⟩ := form_sn ho.r
 clear ho hb
 go_enter Try.func41, Try.ntmps41
 go_wp2_with fail
 refine (markFs B f.fs _ bs k0 _ hm HO.out).mono ?_
 rintro e w1 ⟨rfl, hr, hc⟩
 have HR := Lib.hid hr
 have HC2 := Lib.hid (HC.out.trans hc)
 clear hr hc
 go_wp2_with fail
 go_ret
 exact ⟨rfl, ⟨_, rfl, HR.out⟩, HC2.out⟩
end Go.Proofs.Ytokniebejilcbaa
