/- The walk of the law FnOrientClosed: it returns true for every code. -/
import Derived.Test.YtmffbjicjpgimaaBase
import Derived.Test.YtmffbjicjpgimaaRd
import Derived.Test.YtmffbjicjpgimaaPixM
import Derived.Test.YtmffbjicjpgimaaImR
import Derived.Test.YtmffbjicjpgimaaHasC
import Derived.Test.YtmffbjicjpgimaaAt
import Derived.Test.YtmffbjicjpgimaaBig
import Derived.Test.YtmffbjicjpgimaaOriM
import Derived.Test.YtmffbjicjpgimaaOriP
import Derived.Test.YtmffbjicjpgimaaProg
import Derived.WalkKit
import Derived.ProofKit
import Derived.OpenShut
import Derived.WalkLawsBesides
import Derived.WalkSpells
import Derived.ShutString
import Derived.ChangeOld
import Derived.Below
import Derived.Lib.Hide
import Derived.Deep.MidRow
import Derived.Deep.WholeRow
import Derived.Maps.AppendAt
import Derived.BigQuiet
import Derived.Deep.QuietTactic
import Derived.Deep.OwnRows
import Derived.Handy
import Derived.Deep.Draws
import Derived.OwnWalk
import Derived.Deep.AppendLies
import Derived.Deep.LoopGhost
import Derived.Deep.Onto
import Derived.Laws.BitsAllLaws
import Derived.Lib.QuoteBits
import Derived.Deep.RegionHeld3
import Derived.Deep.DeepCutAuto
namespace Go.Proofs.Ytmffbjicjpgimaa
open Go.RowKit
theorem mod8_ok (x : Int) : orOk (x % 8) := by unfold orOk; omega
set_option maxHeartbeats 1000000 in
theorem walk_FnOrientClosed (a : Option Addr) (len cap : Nat) (zs : List Int) (w : World) (hrow : IsRow .u8 w a len cap zs) :
    Calls Try.prog 4 #[.slice a len cap] w fun e w' => e = .returned (.bool true) ∧ Below w.heap.size w w' := by
  by_cases hbig : len ≤ 1048576
  rotate_left
  · go_enter Try.func4, Try.ntmps4
    go_wp2_with fail
    refine (big_yes _ _ _ _ (by omega)).mono ?_
    rintro e w1 ⟨rfl, rfl⟩
    go_wp2_with fail
    go_ret
    exact ⟨rfl, Below.refl _ _⟩
  have Hrow := Lib.hid hrow
  clear hrow
  go_enter Try.func4, Try.ntmps4
  go_wp2_with fail
  refine (big_no _ _ _ _ hbig).mono ?_
  rintro e w1 ⟨rfl, rfl⟩
  clear hbig
  go_wp2_with fail
  refine (at_any _ a len cap zs Hrow.out 0 (by omega) (by omega)).mono ?_
  rintro e w1 ⟨x, rfl, x0, x1, rfl⟩
  go_wp2_with fail
  refine (at_any _ a len cap zs Hrow.out 1 (by omega) (by omega)).mono ?_
  rintro e w1 ⟨y, rfl, y0, y1, rfl⟩
  go_wp2_with fail
  refine (at_any _ a len cap zs Hrow.out 2 (by omega) (by omega)).mono ?_
  rintro e w1 ⟨z, rfl, z0, z1, rfl⟩
  go_upto_region 6 with fail
  have Hp := Lib.hid (mod8_ok x)
  have Hq := Lib.hid (mod8_ok y)
  have Hr := Lib.hid (mod8_ok z)
  clear x0 x1 y0 y1 z0 z1
  generalize x % 8 = p at Hp ⊢
  generalize y % 8 = q at Hq ⊢
  generalize z % 8 = r at Hr ⊢
  obtain ⟨pq, hpq⟩ : ∃ t, t = thenO p q := ⟨_, rfl⟩
  obtain ⟨qr, hqr⟩ : ∃ t, t = thenO q r := ⟨_, rfl⟩
  obtain ⟨s, hs⟩ : ∃ t, t = thenO pq r := ⟨_, rfl⟩
  obtain ⟨u, hu⟩ : ∃ t, t = undoO p := ⟨_, rfl⟩
  have o1 : orOk pq := hpq ▸ thenO_ok Hp.out Hq.out
  have o2 : orOk qr := hqr ▸ thenO_ok Hq.out Hr.out
  have o3 : orOk u := hu ▸ undoO_ok Hp.out
  have o0 : orOk 0 := by unfold orOk; omega
  have R1 : Hid (∀ W, Calls Try.prog 14 #[.int .i64 p, .int .i64 q] W fun e w' => e = .returned (.int .i64 pq) ∧ W = w') := Lib.hid (fun W => by have h := thI p q W; unfold OneAns at h; rw [th_yes Hp.out Hq.out, ← hpq] at h; exact h)
  have R2 : Hid (∀ W, Calls Try.prog 14 #[.int .i64 pq, .int .i64 r] W fun e w' => e = .returned (.int .i64 s) ∧ W = w') := Lib.hid (fun W => by have h := thI pq r W; unfold OneAns at h; rw [th_yes o1 Hr.out, ← hs] at h; exact h)
  have R3 : Hid (∀ W, Calls Try.prog 14 #[.int .i64 q, .int .i64 r] W fun e w' => e = .returned (.int .i64 qr) ∧ W = w') := Lib.hid (fun W => by have h := thI q r W; unfold OneAns at h; rw [th_yes Hq.out Hr.out, ← hqr] at h; exact h)
  have R4 : Hid (∀ W, Calls Try.prog 14 #[.int .i64 p, .int .i64 qr] W fun e w' => e = .returned (.int .i64 s) ∧ W = w') := Lib.hid (fun W => by have h := thI p qr W; unfold OneAns at h; rw [th_yes Hp.out o2, hqr, ← then_assoc Hp.out Hq.out Hr.out, ← hpq, ← hs, ← hqr] at h; exact h)
  have R5 : Hid (∀ W, Calls Try.prog 14 #[.int .i64 p, .int .i64 0] W fun e w' => e = .returned (.int .i64 p) ∧ W = w') := Lib.hid (fun W => by have h := thI p 0 W; unfold OneAns at h; rw [th_yes Hp.out o0, then_zero Hp.out] at h; exact h)
  have R6 : Hid (∀ W, Calls Try.prog 14 #[.int .i64 0, .int .i64 p] W fun e w' => e = .returned (.int .i64 p) ∧ W = w') := Lib.hid (fun W => by have h := thI 0 p W; unfold OneAns at h; rw [th_yes o0 Hp.out, zero_then Hp.out] at h; exact h)
  have R7 : Hid (∀ W, Calls Try.prog 15 #[.int .i64 p] W fun e w' => e = .returned (.int .i64 u) ∧ W = w') := Lib.hid (fun W => by have h := unI p W; unfold OneAns at h; rw [un_yes Hp.out, ← hu] at h; exact h)
  have R8 : Hid (∀ W, Calls Try.prog 14 #[.int .i64 p, .int .i64 u] W fun e w' => e = .returned (.int .i64 0) ∧ W = w') := Lib.hid (fun W => by have h := thI p u W; unfold OneAns at h; rw [th_yes Hp.out o3, hu, then_undo Hp.out, ← hu] at h; exact h)
  have R9 : Hid (∀ W, Calls Try.prog 14 #[.int .i64 u, .int .i64 p] W fun e w' => e = .returned (.int .i64 0) ∧ W = w') := Lib.hid (fun W => by have h := thI u p W; unfold OneAns at h; rw [th_yes o3 Hp.out, hu, undo_then Hp.out, ← hu] at h; exact h)
  clear o1 o2 o3 o0 hpq hqr hs hu
  go_wp2_with fail
  refine (R1.out _).mono ?_
  rintro e w' ⟨rfl, rfl⟩
  go_wp2_with fail
  refine (R2.out _).mono ?_
  rintro e w' ⟨rfl, rfl⟩
  go_wp2_with fail
  refine (R3.out _).mono ?_
  rintro e w' ⟨rfl, rfl⟩
  go_wp2_with fail
  refine (R4.out _).mono ?_
  rintro e w' ⟨rfl, rfl⟩
  go_wp2_with fail
  refine (R5.out _).mono ?_
  rintro e w' ⟨rfl, rfl⟩
  go_wp2_with fail
  refine (R6.out _).mono ?_
  rintro e w' ⟨rfl, rfl⟩
  go_wp2_with fail
  refine (R7.out _).mono ?_
  rintro e w' ⟨rfl, rfl⟩
  go_wp2_with fail
  refine (R8.out _).mono ?_
  rintro e w' ⟨rfl, rfl⟩
  go_wp2_with fail
  refine (R7.out _).mono ?_
  rintro e w' ⟨rfl, rfl⟩
  go_wp2_with fail
  refine (R9.out _).mono ?_
  rintro e w' ⟨rfl, rfl⟩
  go_wp2_with fail
  go_ret
  exact ⟨rfl, Below.refl _ _⟩
end Go.Proofs.Ytmffbjicjpgimaa
