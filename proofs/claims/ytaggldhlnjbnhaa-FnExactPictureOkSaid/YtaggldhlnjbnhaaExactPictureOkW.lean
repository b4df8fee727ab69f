/- The walk of the law FnExactPictureOk: it returns true for every list of integers and every two integers. -/
import Derived.Test.YtaggldhlnjbnhaaBase
import Derived.Test.YtaggldhlnjbnhaaRd
import Derived.Test.YtaggldhlnjbnhaaIntR
import Derived.Test.YtaggldhlnjbnhaaFrame
import Derived.Test.YtaggldhlnjbnhaaImR
import Derived.Test.YtaggldhlnjbnhaaPixM
import Derived.Test.YtaggldhlnjbnhaaImO
import Derived.Test.YtaggldhlnjbnhaaImV
import Derived.Test.YtaggldhlnjbnhaaThr
import Derived.Test.YtaggldhlnjbnhaaPixA
import Derived.Test.YtaggldhlnjbnhaaDitC
import Derived.Test.YtaggldhlnjbnhaaProg
import Derived.WalkKit
import Derived.ProofKit
import Derived.OpenShut
import Derived.WalkLawsBesides
import Derived.WalkSpells
import Derived.ShutString
import Derived.ChangeOld
import Derived.Below
import Derived.Lib.Hide
import Derived.Laws.BitsAllLaws
import Derived.Lib.QuoteBits
import Derived.BigQuiet
import Derived.Deep.QuietTactic
import Derived.Maps.AppendAt
import Derived.Deep.OwnRows
import Derived.Handy
import Derived.Deep.Draws
import Derived.OwnWalk
import Derived.Deep.AppendLies
import Derived.Deep.LoopGhost
import Derived.Deep.Onto
import Derived.Deep.RegionHeld3
import Derived.Deep.DeepCutAuto
import Derived.Test.YtaggldhlnjbnhaaShelf
import Derived.Laws.CopyOwn
import Derived.Deep.RegionLaw
import Derived.Great.BuildSlice
import Derived.Deep.MidRow
import Derived.Deep.WholeRow
import Derived.Carry
import Derived.Maps.Own
namespace Go.Proofs.Ytaggldhlnjbnhaa
open Go.RowKit
theorem walk_FnExactPictureOk (a : Option Addr) (len cap : Nat) (zs : List Int) (X : Int) (_ : (Lit.int .i64 X).wf = true) (Y : Int) (_ : (Lit.int .i64 Y).wf = true) (w : World) (h : IsRow .i64 w a len cap zs) :
    Calls Try.prog 10 #[.slice a len cap, .int .i64 X, .int .i64 Y] w fun e w' => e = .returned (.bool true) ∧ Below w.heap.size w w' := by
  have hR := Rd.of_row h
  have hlen : (zs.take len).length = len := by
    rcases h with ⟨rfl, rfl, rfl, rfl⟩ | ⟨x, rfl, h1, h2, h3, h4, h5⟩
    · rfl
    · rw [List.length_take]; omega
  have hm : len ≤ 9223372036854775807 := by have := hR.len.2; rw [hlen] at this; unfold maxLen at this; omega
  obtain ⟨L, hL⟩ : ∃ L, L = zs.take len := ⟨_, rfl⟩
  rw [← hL] at hR hlen
  clear h hL
  by_cases hbig : (1048576 : Int) < (len : Int)
  · clear hR hlen
    go_enter Try.func10, Try.ntmps10
    go_wp2_with fail
    go_ret
    exact ⟨rfl, Below.refl _ _⟩
  · have hlm : L.length ≤ 1048576 := by omega
    have HR := Lib.hid hR
    have HL := Lib.hid hlm
    obtain ⟨v, hv⟩ : ∃ v, v = fillB X Y L 262143 := ⟨_, rfl⟩
    have hS := fun u W H => pokS X Y u L W H
    have hI := fun u W H => pokI X Y u L W H
    rw [← hv] at hS hI
    have HS := Lib.hid hS
    have HI := Lib.hid hI
    clear hS hI hv hR hlm hlen
    go_enter Try.func10, Try.ntmps10
    go_wp2_with fail
    refine (toIO _ L _ HL.out HR.out).mono ?_
    rintro e w1 ⟨v1, rfl, O1, b1⟩
    have R1 := RdI.of_own O1
    clear O1
    have K := b1
    go_wp2_with fail
    refine (HS.out _ _ R1).mono ?_
    rintro e w' ⟨rfl, rfl⟩
    clear R1 b1
    go_wp2_with fail
    refine (toIO _ L _ HL.out (HR.out.call K)).mono ?_
    rintro e w2 ⟨v2, rfl, O2, b2⟩
    have R2 := RdI.of_own O2
    clear O2
    replace K := px_call K b2
    clear b2
    go_wp2_with fail
    refine (HI.out _ _ R2).mono ?_
    rintro e w3 ⟨rfl, rfl⟩
    go_wp2_with fail
    refine (toIO _ L _ HL.out (HR.out.call K)).mono ?_
    rintro e w4 ⟨v4, rfl, O4, b4⟩
    have R4 := RdI.of_own O4
    clear O4
    replace K := px_call K b4
    replace R2 := R2.call b4
    clear b4
    go_wp2_with fail
    refine (eqIS_same _ _ L _ R2.rd R4.rd).mono ?_
    rintro e w5 ⟨rfl, k, rfl⟩
    go_wp2_with fail
    go_ret
    exact ⟨rfl, below_drewN K k⟩
end Go.Proofs.Ytaggldhlnjbnhaa
