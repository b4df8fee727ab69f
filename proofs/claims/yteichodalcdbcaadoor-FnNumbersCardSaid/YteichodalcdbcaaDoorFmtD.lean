/- The contract of spec.DrawFormatInt. No statement is proved here. -/
import Derived.Test.YteichodalcdbcaaDoorNumD
namespace Go.Proofs.YteichodalcdbcaaDoor
open Go.RowKit

def Draw1 (w : World) (e : Ending) (w' : World) : Prop := ∃ x : Int, e = .returned (.int .i64 x) ∧ (Lit.int .i64 x).wf = true ∧ Below w.heap.size w w'

set_option maxHeartbeats 400000 in
theorem drawFormat_any (w : World) (a : Option Addr) (len cap : Nat) (zs : List Int) (hrow : IsRow .u8 w a len cap zs) :
    Calls Tryd.prog 13 #[.slice a len cap] w (Draw1 w) := by
  go_enter Tryd.func13, Tryd.ntmps13
  go_wp2_with fail
  refine (new_any _ _ _ _ zs hrow).mono ?_
  rintro e w1 ⟨g, rfl, hg, hc1, hb1⟩
  clear hrow
  go_wp2_with fail
  refine (once_any _ _ _ (by omega) hc1).mono ?_
  rintro e w2 ⟨b, rfl, hc2, hg2⟩
  have hb2 := hb1.grown hg2 hb1.size (fun k hk => by simp at hk; omega)
  clear hg2 hb1
  cases b
  · go_wp2_with fail
    refine (number_any _ _ hc2).mono ?_
    rintro e w3 ⟨x, rfl, hx, hc3, hg3⟩
    have hb3 := hb2.grown hg3 hb2.size (fun k hk => by simp at hk; omega)
    have Hx := Lib.hid hx
    clear hg3 hb2 hx
    go_wp2_with fail
    go_ret
    exact ⟨_, rfl, Hx.out, hb3⟩
  · go_wp2_with fail
    refine (below_any _ _ _ (by omega) hc2).mono ?_
    rintro e w3 ⟨x, rfl, hx0, hx1, hx2, hc3, hg3⟩
    have hb3 := hb2.grown hg3 hb2.size (fun k hk => by simp at hk; omega)
    have hx4 : x < 1000000 := hx1 (by omega)
    clear hg3 hb2 hx1 hx2
    go_wp2_with fail
    refine (below_any _ _ _ (by omega) hc3).mono ?_
    rintro e w4 ⟨y, rfl, hy0, hy1, hy2, hc4, hg4⟩
    have hb4 := hb3.grown hg4 hb3.size (fun k hk => by simp at hk; omega)
    have hy4 : y < 2000000 := hy1 (by omega)
    clear hg4 hb3 hy1 hy2
    go_wp2_with fail
    go_ret
    exact ⟨_, rfl, by rw [← IntWalk.i64_left]; exact wf_wrap _ _, hb4⟩
end Go.Proofs.YteichodalcdbcaaDoor
