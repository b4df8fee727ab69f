/- The contract of laws.at: a number from 0 to 255, and the world as it was. No statement is proved here. -/
import Derived.Test.YtmffbjicjpgimaaBase
import Derived.Test.YtmffbjicjpgimaaProg
import Derived.WalkKit
import Derived.ProofKit
import Derived.OpenShut
import Derived.WalkLawsBesides
import Derived.WalkSpells
import Derived.ShutString
import Derived.ChangeOld
import Derived.Below
import Derived.Lib.Hide
import Derived.BigQuiet
import Derived.Deep.QuietTactic
import Derived.Maps.AppendAt
import Derived.Handy
namespace Go.Proofs.Ytmffbjicjpgimaa
open Go.RowKit
/-- What at answers. -/
def AtInt (w : World) (e : Ending) (w' : World) : Prop := ∃ x : Int, e = .returned (.int .i64 x) ∧ 0 ≤ x ∧ x ≤ 255 ∧ w = w'
theorem at_any (w : World) (a : Option Addr) (len cap : Nat) (zs : List Int) (hrow : IsRow .u8 w a len cap zs) (i : Int) (h0 : 0 ≤ i) (h1 : i ≤ 1000000) :
    Calls Try.prog 12 #[.slice a len cap, .int .i64 i] w (AtInt w) := by
  have hm : len ≤ 9223372036854775807 := by rcases hrow with ⟨_, h, _⟩ | ⟨_, _, h1, h2, _⟩ <;> (try unfold maxLen at h2) <;> omega
  rcases Nat.eq_zero_or_pos len with hl | hl
  · subst hl
    clear hrow
    go_enter Try.func12, Try.ntmps12
    go_wp2_with fail
    go_ret
    exact ⟨0, rfl, by omega, by omega, rfl⟩
  · rcases hrow with ⟨_, hz, _⟩ | ⟨x, rfl, hlc, hcm, hz0, hcell, hwf⟩
    · omega
    · have hne : ((len : Int) == 0) = false := by simp; omega
      have i0 : 0 ≤ (i * 5 + 1) % (len : Int) := Int.emod_nonneg _ (by omega)
      have i1 : (i * 5 + 1) % (len : Int) < (len : Int) := Int.emod_lt_of_pos _ (by omega)
      have hci := hcell ((i * 5 + 1) % (len : Int)).toNat (by omega)
      have hwi : (Lit.int .u8 (zs.getD ((i * 5 + 1) % (len : Int)).toNat 0)).wf = true := hwf _ (by rw [List.getD_eq_getElem?_getD, List.getElem?_eq_getElem (by omega)]; exact List.getElem_mem _)
      obtain ⟨z, hzz⟩ : ∃ z, z = zs.getD ((i * 5 + 1) % (len : Int)).toNat 0 := ⟨_, rfl⟩
      rw [← hzz] at hci hwi
      clear hzz
      have hz : 0 ≤ z ∧ z ≤ 255 := by simpa [Lit.wf, IntKind.min, IntKind.max, IntKind.signed, IntKind.bits] using hwi
      obtain ⟨z0, z1⟩ := hz
      clear hwf hcell hwi
      go_enter Try.func12, Try.ntmps12
      go_wp2_with fail
      go_ret
      exact ⟨z, rfl, z0, z1, rfl⟩
end Go.Proofs.Ytmffbjicjpgimaa
