/- The contract of NextBuffer of the model. No statement is proved here. -/
import Derived.Test.YtnndifemkichmaaMA
import Derived.Test.YtnndifemkichmaaMC
import Derived.Test.YtnndifemkichmaaMB
import Derived.Test.YtnndifemkichmaaChM
import Derived.Test.YtnndifemkichmaaIsE
import Derived.Test.YtnndifemkichmaaSlE
import Derived.Test.YtnndifemkichmaaChL
import Derived.Test.YtnndifemkichmaaChO
import Derived.Test.YtnndifemkichmaaChJ
import Derived.Test.YtnndifemkichmaaSnS
import Derived.Test.YtnndifemkichmaaChS
import Derived.Test.YtnndifemkichmaaChN
import Derived.Test.YtnndifemkichmaaProg
import Derived.WalkKit
import Derived.ProofKit
import Derived.OpenShut
import Derived.WalkLawsBesides
import Derived.WalkSpells
import Derived.ShutString
import Derived.ChangeOld
import Derived.Below
import Derived.Lib.Hide
import Derived.BigQuiet
import Derived.Deep.QuietTactic
import Derived.Maps.AppendAt
import Derived.Deep.OwnRows
import Derived.Handy
import Derived.Deep.Draws
import Derived.OwnWalk
import Derived.Deep.AppendLies
import Derived.Deep.LoopGhost
import Derived.Deep.Onto
import Derived.Deep.MidRow
import Derived.Deep.WholeRow
import Derived.Laws.BitsAllLaws
import Derived.Lib.QuoteBits
import Derived.Deep.RegionHeld3
import Derived.Deep.DeepCutAuto
import Derived.Test.YtnndifemkichmaaShelf
import Derived.Laws.CopyOwn
import Derived.Deep.RegionLaw
import Derived.Great.BuildSlice
import Derived.Laws.AppendOwn
namespace Go.Proofs.Ytnndifemkichmaa
open Go.RowKit
structure Best (L : List Int) (k : Nat) (b : Nat) (m : Int) : Prop where
 lt : b < k
 at_ : L[b]? = some m
 lo : ∀ (j : Nat) (y : Int), j < b → L[j]? = some y → y < m
 hi : ∀ (j : Nat) (y : Int), j < k → L[j]? = some y → y ≤ m
theorem Best.first {L : List Int} {b : Nat} {m : Int} (h : Best L L.length b m) : fstI L (mxI L) = (b : Int) := by
 have hm : m = mxI L := mxI_is ⟨⟨b, h.lt, h.at_⟩, h.hi⟩
 rw [← hm]
 exact fstI_hit h.at_ fun j hj e => by have := h.lo j m hj e; omega
theorem Best.one {L : List Int} {x : Int} (hx : L[0]? = some x) : Best L 1 0 x := ⟨by omega, hx, fun j y hj => by omega, fun j y hj hy => by
 obtain rfl : j = 0 := by omega
 rw [hx] at hy; rw [Option.some.inj hy]; exact Int.le_refl _⟩
theorem Best.keep {L : List Int} {k b : Nat} {m x : Int} (h : Best L k b m) (hx : L[k]? = some x) (hle : x ≤ m) : Best L (k + 1) b m := ⟨by have := h.lt; omega, h.at_, h.lo, fun j y hj hy => by
 by_cases e : j < k
 ·exact h.hi j y e hy
 ·obtain rfl : j = k := by omega
  rw [hx] at hy; rw [← Option.some.inj hy]; exact hle⟩
theorem Best.step {L : List Int} {k b : Nat} {m x : Int} (h : Best L k b m) (hx : L[k]? = some x) (hlt : m < x) : Best L (k + 1) k x := ⟨by omega, hx, fun j y hj hy => by have := h.hi j y hj hy; omega, fun j y hj hy => by
 by_cases e : j < k
 ·have := h.hi j y e hy; omega
 ·obtain rfl : j = k := by omega
  rw [hx] at hy; rw [Option.some.inj hy]; exact Int.le_refl _⟩
def BestAt (L : List Int) (k : Nat) (b : Int) : Prop := (∀ j : Nat, j < k → L[j]? ≠ some 0) ∧ ((k = 0 ∧ b = -1) ∨ ∃ (i : Nat) (m : Int), b = (i : Int) ∧ Best L k i m)
set_option maxHeartbeats 2000000 in
set_option maxRecDepth 10000 in
theorem nextS (f : Ch) (a b e d : Value) (bs : List Nat) (w : World) (h : repCh.R w f [a, b, e, .int .i64 f.s.w, .int .i64 f.s.h, .int .i64 f.s.back, d] bs) :
  Calls Try.prog 22 #[.agg #[a, b, e, .int .i64 f.s.w, .int .i64 f.s.h, .int .i64 f.s.back, d]] w (NextAns f w) := by
 have hT := CnA.born h
 obtain ⟨A0, c0, A1, c1, A2, c2, A3, c3, rfl, rfl, rfl, rfl⟩ := form_cn h
 have hml := hT.g.len
 obtain ⟨p, hp⟩ : ∃ n, n = f.ages.length := ⟨_, rfl⟩
 have HC := Lib.hid (fun (W : World) (h : repCh.R W f [.slice A0 f.ims.length c0, .slice A1 f.ages.length c1, .slice A2 f.rgs.length c2, .int .i64 f.s.w, .int .i64 f.s.h, .int .i64 f.s.back, .slice A3 f.s.fs.length c3] bs) => cnS f _ _ _ _ bs W h)
 unfold CnOkAns at HC
 rw [← hp] at hT HC hml ⊢
 unfold maxLen at hml
 have Hp := Lib.hid hp
 obtain ⟨d0, d1, d2, d3, d4, d5, d6⟩ := hT.cells
 have HT := Lib.hid hT
 clear h hT hp
 by_cases hok : cnOk f
 rotate_left
 ·have hno := Lib.hid (nextM_no hok)
  rw [cnB_no hok] at HC
  clear hok
  by_cases h0 : p = 0
  ·subst h0
   go_enter Try.func22, Try.ntmps22
   go_wp2_with fail
   go_loopw [3, 4] (fun s3 s4 wr => s3 = .int .i64 (-1) ∧ s4 = .int .i64 0 ∧ CnA w f (.slice A0 f.ims.length c0) (.slice A1 0 c1) (.slice A2 f.rgs.length c2) (.slice A3 f.s.fs.length c3) bs wr) (fun _ _ _ => 0)
   case atStart => exact ⟨rfl, rfl, HT.out⟩
   case round =>
    clear d0 d1 d2 d3 d4 d5 d6
    obtain ⟨rfl, rfl, hA⟩ := hrel
    obtain ⟨d0, d1, d2, d3, d4, d5, d6⟩ := hA.cells
    go_wp2_with fail
    go_ret
    exact ⟨ret_int hno.out.symm, hA.bw⟩
  ·have p1 : (0 : Int) < (p : Int) := by omega
   go_enter Try.func22, Try.ntmps22
   go_wp2_with fail
   go_loopw [3, 4] (fun s3 s4 wr => s3 = .int .i64 (-1) ∧ s4 = .int .i64 0 ∧ CnA w f (.slice A0 f.ims.length c0) (.slice A1 p c1) (.slice A2 f.rgs.length c2) (.slice A3 f.s.fs.length c3) bs wr) (fun _ _ _ => 0)
   case atStart => exact ⟨rfl, rfl, HT.out⟩
   case round =>
    clear d0 d1 d2 d3 d4 d5 d6
    obtain ⟨rfl, rfl, hA⟩ := hrel
    obtain ⟨d0, d1, d2, d3, d4, d5, d6⟩ := hA.cells
    go_wp2_with fail
    refine (HC.out _ hA.r).mono ?_
    rintro e w1 ⟨rfl, hb⟩
    have HA := Lib.hid (hA.call hb)
    clear d0 d1 d2 d3 d4 d5 d6 hA hb
    go_wp2_with fail
    go_ret
    exact ⟨ret_int hno.out.symm, HA.out.bw⟩
 rw [cnB_yes hok] at HC
 have HK := Lib.hid hok
 have hp1 : 1 ≤ p := by rw [Hp.out, hok.2.2.2.1]; exact hok.2.1.1.1
 clear hok
 go_enter Try.func22, Try.ntmps22
 go_wp2_with fail
 go_loopw [3, 4] (fun s3 s4 wr => ∃ (k : Nat) (q : Int), k ≤ p ∧ s4 = .int .i64 k ∧ s3 = .int .i64 q ∧ Hid (BestAt f.ages k q) ∧ CnA w f (.slice A0 f.ims.length c0) (.slice A1 p c1) (.slice A2 f.rgs.length c2) (.slice A3 f.s.fs.length c3) bs wr) (fun _ s4 _ => p - (intOf s4).toNat)
 case atStart => exact ⟨0, -1, Nat.zero_le _, rfl, rfl, Lib.hid ⟨fun j hj => by omega, .inl ⟨rfl, rfl⟩⟩, HT.out⟩
 case round =>
  clear d0 d1 d2 d3 d4 d5 d6
  obtain ⟨k, q, hk, rfl, rfl, HB, hA⟩ := hrel
  obtain ⟨d0, d1, d2, d3, d4, d5, d6⟩ := hA.cells
  by_cases hlt : k < p
  rotate_left
  ·obtain rfl : k = p := by omega
   have hz : Hid (nextM f = q) := Lib.hid (by
    obtain ⟨h1, h2⟩ := HB.out
    have hn0 : fstI f.ages 0 = -1 := fstI_miss fun j e => h1 j (by rw [Hp.out]; exact (List.getElem?_eq_some_iff.1 e).1) e
    rw [nextM_mx HK.out (by rw [hn0]; omega)]
    rcases h2 with ⟨h2, _⟩ | ⟨i, m, rfl, h2⟩
    ·omega
    ·exact Best.first (by rw [← Hp.out]; exact h2))
   have HA := Lib.hid hA
   clear hA
   go_wp2_with fail
   clear d0 d1 d2 d3 d4 d5 d6
   go_wp2_with fail
   go_ret
   exact ⟨ret_int hz.out.symm, HA.out.bw⟩
  obtain ⟨g, x, rfl, hx, hcx⟩ := hA.g.at_ (k := k) (by rw [← Hp.out]; exact hlt)
  have Hx := Lib.hid hx
  have k0 : (0 : Int) ≤ (k : Int) := by omega
  have k1 : (k : Int) < (p : Int) := by omega
  have HA0 := Lib.hid hA
  clear hx hA
  go_wp2_with fail
  refine (HC.out _ HA0.out.r).mono ?_
  rintro e w1 ⟨rfl, hb⟩
  have hA := HA0.out.call hb
  have hcx := (hb.cell (World.block_lt_of_cell? _ _ hcx)).trans hcx
  clear d0 d1 d2 d3 d4 d5 d6 hb HA0
  obtain ⟨d0, d1, d2, d3, d4, d5, d6⟩ := hA.cells
  by_cases hx0 : x = 0
  ·subst hx0
   have hz : Hid (nextM f = (k : Int)) := Lib.hid (by
    have h := fstI_hit Hx.out fun j hj => HB.out.1 j hj
    rw [nextM_zero HK.out (by rw [h]; omega), h])
   go_wp2_with fail
   go_ret
   exact ⟨ret_int hz.out.symm, hA.bw⟩
  have x0 : (x == 0) = false := by simpa using hx0
  have hz0 : Hid (∀ j : Nat, j < k + 1 → f.ages[j]? ≠ some 0) := Lib.hid fun j hj e => by
   by_cases hjk : j < k
   ·exact HB.out.1 j hjk e
   ·obtain rfl : j = k := by omega
    rw [Hx.out] at e
    exact hx0 (Option.some.inj e)
  clear hx0
  by_cases hq : q < 0
  ·have hyes : Hid (BestAt f.ages (k + 1) (k : Int)) := Lib.hid ⟨hz0.out, .inr (by
    rcases HB.out.2 with ⟨rfl, _⟩ | ⟨i, m, h, _⟩
    ·exact ⟨0, x, rfl, Best.one Hx.out⟩
    ·omega)⟩
   have HA := Lib.hid hA
   clear hA
   go_upto_region 7 with fail
   go_quiet (fail)
   go_wp2_with fail
   go_roundw
   case rel => exact ⟨k + 1, (k : Int), by omega, by go_num, rfl, hyes, HA.out.call (below_drewN (Below.refl _ _) _)⟩
   case measure => simp [intOf]; omega
  ·obtain ⟨i, m, rfl, hB⟩ : ∃ (i : Nat) (m : Int), q = (i : Int) ∧ Best f.ages k i m := by
    rcases HB.out.2 with ⟨_, h⟩ | h
    ·omega
    ·exact h
   obtain ⟨g', m', he, hm', hci⟩ := hA.g.at_ (k := i) (by have := hB.lt; rw [← Hp.out]; omega)
   obtain rfl : g = g' := by simpa using he
   obtain rfl : m = m' := Option.some.inj (hB.at_.symm.trans hm')
   have i1 : (i : Int) < (p : Int) := by have := hB.lt; omega
   have i0 : (0 : Int) ≤ (i : Int) := by omega
   have HBB := Lib.hid hB
   have HA := Lib.hid hA
   clear hA he hm' hB
   by_cases hmx : m < x
   ·have hyes : Hid (BestAt f.ages (k + 1) (k : Int)) := Lib.hid ⟨hz0.out, .inr ⟨k, x, rfl, HBB.out.step Hx.out hmx⟩⟩
    go_upto_region 7 with fail
    go_quiet (fail)
    go_wp2_with fail
    go_roundw
    case rel => exact ⟨k + 1, (k : Int), by omega, by go_num, rfl, hyes, HA.out.call (below_drewN (Below.refl _ _) _)⟩
    case measure => simp [intOf]; omega
   ·have hyes : Hid (BestAt f.ages (k + 1) (i : Int)) := Lib.hid ⟨hz0.out, .inr ⟨i, m, rfl, HBB.out.keep Hx.out (by omega)⟩⟩
    go_upto_region 7 with fail
    go_quiet (fail)
    go_wp2_with fail
    go_roundw
    case rel => exact ⟨k + 1, (i : Int), by omega, by go_num, rfl, hyes, HA.out.call (below_drewN (Below.refl _ _) _)⟩
    case measure => simp [intOf]; omega
end Go.Proofs.Ytnndifemkichmaa
