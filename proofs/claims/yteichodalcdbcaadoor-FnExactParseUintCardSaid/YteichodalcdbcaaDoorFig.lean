/- The contract of spec.l01Figure. No statement is proved here. -/
import Derived.Test.YteichodalcdbcaaDoorStrP
namespace Go.Proofs.YteichodalcdbcaaDoor
open Go.RowKit

theorem figS (x : Int) (h0 : 0 ≤ x) (h1 : x < 16) (w : World) :
    Calls Tryd.prog 32 #[.int .i64 x] w fun e w' => e = .returned (.int .u8 (fig x.toNat).toNat) ∧ w = w' := by
  obtain ⟨k, rfl⟩ := Int.eq_ofNat_of_zero_le h0
  by_cases h : k < 10
  · go_enter Tryd.func32, Tryd.ntmps32
    go_wp2
    go_ret
    refine ⟨ret_int ?_, rfl⟩
    unfold fig
    simp [h]
    omega
  · go_enter Tryd.func32, Tryd.ntmps32
    go_wp2
    go_ret
    refine ⟨ret_int ?_, rfl⟩
    unfold fig
    simp [h]
    omega

theorem figHi (c : UInt8) (w : World) : Calls Tryd.prog 32 #[.int .i64 ((c.toNat : Int) / 16)] w fun e w' => e = .returned (.int .u8 (fig (c.toNat / 16)).toNat) ∧ w = w' := by
  have h : c.toNat < 256 := c.toNat_lt
  exact figS ((c.toNat : Int) / 16) (by omega) (by omega) w
theorem figLo (c : UInt8) (w : World) : Calls Tryd.prog 32 #[.int .i64 ((c.toNat : Int) % 16)] w fun e w' => e = .returned (.int .u8 (fig (c.toNat % 16)).toNat) ∧ w = w' := by
  have h : c.toNat < 256 := c.toNat_lt
  exact figS ((c.toNat : Int) % 16) (by omega) (by omega) w
theorem figHiW (c : UInt8) (w : World) : Calls Tryd.prog 32 #[.int .i64 (IntKind.i64.wrap ((IntKind.i64.wrap (c.toNat : Int)).tdiv 16))] w fun e w' => e = .returned (.int .u8 (fig (c.toNat / 16)).toNat) ∧ w = w' := by
  have h : c.toNat < 256 := c.toNat_lt
  have e1 : IntKind.i64.wrap (c.toNat : Int) = c.toNat := IntWalk.i64_in _ (by omega)
  rw [e1, Int.tdiv_eq_ediv_of_nonneg (by omega), IntWalk.i64_in _ (by omega)]; exact figHi c w
theorem figLoW (c : UInt8) (w : World) : Calls Tryd.prog 32 #[.int .i64 ((IntKind.i64.wrap (c.toNat : Int)).tmod 16)] w fun e w' => e = .returned (.int .u8 (fig (c.toNat % 16)).toNat) ∧ w = w' := by
  have h : c.toNat < 256 := c.toNat_lt
  have e1 : IntKind.i64.wrap (c.toNat : Int) = c.toNat := IntWalk.i64_in _ (by omega)
  rw [e1, Int.tmod_eq_emod_of_nonneg (by omega)]; exact figLo c w
end Go.Proofs.YteichodalcdbcaaDoor
