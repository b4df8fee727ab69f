/- The walk of the law FnHexText: it returns true for every code, where the library's table of powers lies as its text lays it. -/
import Derived.Test.YteichodalcdbcaaDoorHexD
import Derived.Test.YteichodalcdbcaaDoorHexI
import Derived.Test.YteichodalcdbcaaDoorDecI
import Derived.Test.YteichodalcdbcaaDoorFmtI
import Derived.Test.YteichodalcdbcaaDoorBig
namespace Go.Proofs.YteichodalcdbcaaDoor
open Go.RowKit

theorem hv_fig (k : Nat) (h : k < 16) : hv (fig k) = k := by
  have : k = 0 ∨ k = 1 ∨ k = 2 ∨ k = 3 ∨ k = 4 ∨ k = 5 ∨ k = 6 ∨ k = 7 ∨ k = 8 ∨ k = 9 ∨ k = 10 ∨ k = 11 ∨ k = 12 ∨ k = 13 ∨ k = 14 ∨ k = 15 := by omega
  rcases this with rfl | rfl | rfl | rfl | rfl | rfl | rfl | rfl | rfl | rfl | rfl | rfl | rfl | rfl | rfl | rfl <;> decide
theorem hexOf_get (l : List UInt8) (i : Nat) (h : i < l.length) : (hexOf l).getD (2 * i) 0 = fig (l[i].toNat / 16) ∧ (hexOf l).getD (2 * i + 1) 0 = fig (l[i].toNat % 16) := by
  induction l generalizing i with
  | nil => simp at h
  | cons c l ih =>
    cases i with
    | zero => simp [hexOf]
    | succ i =>
      have h2 := ih i (by simpa using h)
      have e1 : hexOf (c :: l) = fig (c.toNat / 16) :: fig (c.toNat % 16) :: hexOf l := by simp [hexOf]
      have e2 : 2 * (i + 1) = (2 * i) + 1 + 1 := by omega
      rw [e1, e2]
      simpa using h2
theorem dec_hex (l : List UInt8) : decR (hexOf l) = .tuple #[.string ⟨l.toArray⟩, .bool true] := by
  have hl : (hexOf l).length / 2 = l.length := by rw [hexOf_length]; omega
  have hg : ∀ i (hi : i < l.length), hv ((hexOf l).getD (2 * i) 0) = ((l[i].toNat / 16 : Nat) : Int) ∧ hv ((hexOf l).getD (2 * i + 1) 0) = ((l[i].toNat % 16 : Nat) : Int) := fun i hi => by
    have hc := l[i].toNat_lt
    rw [(hexOf_get l i hi).1, (hexOf_get l i hi).2, hv_fig _ (by omega), hv_fig _ (by omega)]
    exact ⟨rfl, rfl⟩
  rw [decR_good (l := hexOf l) (fun i hi => by
    have h := hg i (by omega)
    unfold good
    rw [h.1, h.2]
    omega), hl]
  have e : decOf (hexOf l) l.length = l := List.ext_getElem (by rw [decOf_length]) fun i h1 h2 => by
    have h := hg i h2
    have hc := l[i].toNat_lt
    simp only [decOf, List.getElem_map, List.getElem_range, decAt, h.1, h.2]
    apply UInt8.toNat_inj.1
    have e3 : (16 * ((l[i].toNat / 16 : Nat) : Int) + ((l[i].toNat % 16 : Nat) : Int)).toNat = l[i].toNat := by omega
    rw [e3]
    simp
  rw [e]

set_option maxHeartbeats 400000 in
theorem walk_FnHexText (a : Option Addr) (len cap : Nat) (zs : List Int) (w : World) (hrow : IsRow .u8 w a len cap zs) (ht : Tab w) :
    Calls Tryd.prog 3 #[.slice a len cap] w fun e w' => e = .returned (.bool true) ∧ Below w.heap.size w w' := by
  have Ht := Lib.hid ht
  clear ht
  by_cases hbig : len ≤ 1048576
  · go_enter Tryd.func3, Tryd.ntmps3
    go_wp2_with fail
    refine (big_no _ _ _ _ hbig).mono ?_
    rintro e w1 ⟨rfl, rfl⟩
    go_wp2_with fail
    refine (drawEnc_any _ _ _ _ zs hrow).mono ?_
    rintro e w1 ⟨s, rfl, hs, hb1⟩
    have Hb1 := Lib.hid hb1
    clear hrow hb1
    by_cases hlen : s.size ≤ 20000
    · have hd := dec_hex s.data.toList
      have hsz : (ByteArray.mk (hexOf s.data.toList).toArray).size = 2 * s.size := by
        show (hexOf s.data.toList).toArray.size = _
        rw [List.size_toArray, hexOf_length, Array.length_toList]; rfl
      have e3 : (ByteArray.mk (hexOf s.data.toList).toArray).data.toList = hexOf s.data.toList := by simp
      have e4 : ByteArray.mk s.data.toList.toArray = s := by simp
      rw [e4] at hd
      obtain ⟨t, htt⟩ : ∃ t, t = ByteArray.mk (hexOf s.data.toList).toArray := ⟨_, rfl⟩
      rw [← htt] at hsz e3
      rw [← e3] at hd
      have Htt := Lib.hid htt
      have Hd := Lib.hid hd
      have Hsz := Lib.hid hsz
      clear hd htt e3 e4
      go_wp2_with fail
      refine (encI s hlen _).mono ?_
      rintro e w2 ⟨rfl, hb2⟩
      rw [← Htt.out]
      have Hb2 := Lib.hid (Hb1.out.trans (hb2.mono Hb1.out.size))
      clear hb2
      go_wp2_with fail
      refine (decI t (by omega) (by omega) _).mono ?_
      rintro e w3 ⟨rfl, hb3⟩
      rw [Hd.out]
      have Hb3 := Lib.hid (Hb2.out.trans (hb3.mono Hb2.out.size))
      clear hb3
      go_wp2_with fail
      go_ret
      exact ⟨rfl, Hb3.out⟩
    · have h10 : dec 10 = ⟨#[49, 48]⟩ := by
        unfold dec Lib.itoa
        rw [if_neg (by omega), show (10 : Int).toNat = 10 from rfl, Lib.decDigits_two (by omega) (by omega)]; rfl
      have H10 := Lib.hid h10
      clear h10
      go_wp2_with fail
      refine (encI_no s (by omega) (by omega) _).mono ?_
      rintro e w2 ⟨rfl, rfl⟩
      go_wp2_with fail
      refine (fmtI 10 (by omega) (by omega) _ (Ht.out.on Hb1.out)).mono ?_
      rintro e w3 ⟨rfl, hb3⟩
      rw [H10.out]
      have Hb3 := Lib.hid (Hb1.out.trans (hb3.mono Hb1.out.size))
      clear hb3
      go_wp2_with fail
      go_ret
      exact ⟨rfl, Hb3.out⟩
  · go_enter Tryd.func3, Tryd.ntmps3
    go_wp2_with fail
    refine (big_yes _ _ _ _ (by omega)).mono ?_
    rintro e w1 ⟨rfl, rfl⟩
    go_wp2_with fail
    go_ret
    exact ⟨rfl, Below.refl _ _⟩
end Go.Proofs.YteichodalcdbcaaDoor
