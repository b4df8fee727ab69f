/- The contract of spec.DrawEncodeHex. No statement is proved here. -/
import Derived.Test.YteichodalcdbcaaDoorTextD
namespace Go.Proofs.YteichodalcdbcaaDoor
open Go.RowKit
def DrawText (m : Nat) (w : World) (e : Ending) (w' : World) : Prop := ∃ s : ByteArray, e = .returned (.string s) ∧ s.size ≤ m ∧ Below w.heap.size w w'

set_option maxHeartbeats 400000 in
theorem drawEnc_any (w : World) (a : Option Addr) (len cap : Nat) (zs : List Int) (hrow : IsRow .u8 w a len cap zs) :
    Calls Tryd.prog 9 #[.slice a len cap] w (DrawText 20001 w) := by
  go_enter Tryd.func9, Tryd.ntmps9
  go_wp2_with fail
  refine (new_any _ _ _ _ zs hrow).mono ?_
  rintro e w1 ⟨g, rfl, hg, hc1, hb1⟩
  clear hrow
  go_wp2_with fail
  refine (once_any _ _ _ (by omega) hc1).mono ?_
  rintro e w2 ⟨b, rfl, hc2, hg2⟩
  have hb2 := hb1.grown hg2 hb1.size (fun k hk => by simp at hk; omega)
  clear hg2 hb1
  cases b
  · go_wp2_with fail
    refine (below_any _ _ _ (by omega) hc2).mono ?_
    rintro e w3 ⟨x, rfl, hx0, hx1, hx2, hc3, hg3⟩
    have hb3 := hb2.grown hg3 hb2.size (fun k hk => by simp at hk; omega)
    have hx4 : x < 30 := hx1 (by omega)
    clear hg3 hb2 hx1 hx2
    obtain ⟨k, rfl⟩ := Int.eq_ofNat_of_zero_le hx0
    go_wp2_with fail
    refine (text_any _ g k (by omega) hc3).mono ?_
    rintro e w4 ⟨s, rfl, hs, hc4, hg4⟩
    have hb4 := hb3.grown hg4 hb3.size (fun k hk => by simp at hk; omega)
    have Hs := Lib.hid hs
    clear hg4 hb3 hs
    go_wp2_with fail
    go_ret
    exact ⟨s, rfl, by have := Hs.out; omega, hb4⟩
  · go_wp2_with fail
    refine (below_any _ _ _ (by omega) hc2).mono ?_
    rintro e w3 ⟨x, rfl, hx0, hx1, hx2, hc3, hg3⟩
    have hb3 := hb2.grown hg3 hb2.size (fun k hk => by simp at hk; omega)
    have hx4 : x < 2 := hx1 (by omega)
    clear hg3 hb2 hx1 hx2
    obtain ⟨k, rfl⟩ := Int.eq_ofNat_of_zero_le hx0
    go_wp2_with fail
    have hl := long_any (20000 + k) 200 w3 (by omega)
    refine hl.mono ?_
    rintro e w4 ⟨rfl, hb4⟩
    have hsz : (ByteArray.mk (List.replicate (20000 + k) (200 : UInt8)).toArray).size = 20000 + k := by
      show (List.replicate (20000 + k) (200 : UInt8)).toArray.size = _
      simp
    obtain ⟨s, hs⟩ : ∃ s, s = ByteArray.mk (List.replicate (20000 + k) (200 : UInt8)).toArray := ⟨_, rfl⟩
    rw [← hs] at hsz ⊢
    have Hsz := Lib.hid hsz
    have Hb4 := Lib.hid (hb3.trans (hb4.mono hb3.size))
    clear hs hsz hb4 hl
    go_wp2_with fail
    go_ret
    exact ⟨s, rfl, by have := Hsz.out; omega, Hb4.out⟩
end Go.Proofs.YteichodalcdbcaaDoor
