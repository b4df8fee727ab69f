/- The contract of laws.at with its value: the same at each call. No statement is proved here. -/
import Derived.Test.YtaggldhlnjbnhaaBase
import Derived.Test.YtaggldhlnjbnhaaProg
import Derived.WalkKit
import Derived.ProofKit
import Derived.OpenShut
import Derived.WalkLawsBesides
import Derived.WalkSpells
import Derived.ShutString
import Derived.ChangeOld
import Derived.Below
import Derived.Lib.Hide
import Derived.BigQuiet
import Derived.Deep.QuietTactic
import Derived.Maps.AppendAt
import Derived.Handy
namespace Go.Proofs.Ytaggldhlnjbnhaa
open Go.RowKit
/-- What at answers. -/
def atV (len : Nat) (zs : List Int) (i : Int) : Int := if len = 0 then 0 else zs.getD ((i * 5 + 1) % (len : Int)).toNat 0
theorem atV_bd {k : IntKind} {w : World} {a : Option Addr} {len cap : Nat} {zs : List Int} (hk : k = .u8) (h : IsRow k w a len cap zs) (i : Int) : 0 ≤ atV len zs i ∧ atV len zs i ≤ 255 := by
  subst hk
  unfold atV
  rcases Nat.eq_zero_or_pos len with hl | hl
  · rw [if_pos hl]; omega
  · rw [if_neg (by omega)]
    rcases h with ⟨_, hz, _⟩ | ⟨x, rfl, hlc, hcm, hz0, hcell, hwf⟩
    · omega
    · have i0 : 0 ≤ (i * 5 + 1) % (len : Int) := Int.emod_nonneg _ (by omega)
      have i1 : (i * 5 + 1) % (len : Int) < (len : Int) := Int.emod_lt_of_pos _ (by omega)
      have hwi : (Lit.int .u8 (zs.getD ((i * 5 + 1) % (len : Int)).toNat 0)).wf = true := hwf _ (by rw [List.getD_eq_getElem?_getD, List.getElem?_eq_getElem (by omega)]; exact List.getElem_mem _)
      simpa [Lit.wf, IntKind.min, IntKind.max, IntKind.signed, IntKind.bits] using hwi
theorem at_val (w : World) (a : Option Addr) (len cap : Nat) (zs : List Int) (hrow : IsRow .u8 w a len cap zs) (i : Int) (h0 : 0 ≤ i) (h1 : i ≤ 1000000) :
    Calls Try.prog 16 #[.slice a len cap, .int .i64 i] w (fun e w' => e = .returned (.int .i64 (atV len zs i)) ∧ w = w') := by
  have hm : len ≤ 9223372036854775807 := by rcases hrow with ⟨_, h, _⟩ | ⟨_, _, h1, h2, _⟩ <;> (try unfold maxLen at h2) <;> omega
  rcases Nat.eq_zero_or_pos len with hl | hl
  · subst hl
    clear hrow
    go_enter Try.func16, Try.ntmps16
    go_wp2_with fail
    go_ret
    exact ⟨rfl, rfl⟩
  · rcases hrow with ⟨_, hz, _⟩ | ⟨x, rfl, hlc, hcm, hz0, hcell, hwf⟩
    · omega
    · have hne : ((len : Int) == 0) = false := by simp; omega
      have i0 : 0 ≤ (i * 5 + 1) % (len : Int) := Int.emod_nonneg _ (by omega)
      have i1 : (i * 5 + 1) % (len : Int) < (len : Int) := Int.emod_lt_of_pos _ (by omega)
      have hci := hcell ((i * 5 + 1) % (len : Int)).toNat (by omega)
      have hwi : (Lit.int .u8 (zs.getD ((i * 5 + 1) % (len : Int)).toNat 0)).wf = true := hwf _ (by rw [List.getD_eq_getElem?_getD, List.getElem?_eq_getElem (by omega)]; exact List.getElem_mem _)
      obtain ⟨z, hzz⟩ : ∃ z, z = zs.getD ((i * 5 + 1) % (len : Int)).toNat 0 := ⟨_, rfl⟩
      have HZ : Hid (atV len zs i = z) := Lib.hid (by unfold atV; rw [if_neg (by omega), hzz])
      rw [← hzz] at hci hwi
      clear hzz
      have hz : 0 ≤ z ∧ z ≤ 255 := by simpa [Lit.wf, IntKind.min, IntKind.max, IntKind.signed, IntKind.bits] using hwi
      obtain ⟨z0, z1⟩ := hz
      clear hwf hcell hwi
      go_enter Try.func16, Try.ntmps16
      go_wp2_with fail
      go_ret
      exact ⟨ret_int HZ.out.symm, rfl⟩
end Go.Proofs.Ytaggldhlnjbnhaa
