/- Color maps in memory: boxes; the contracts of ColorOk, of the program and of its model. No statement is proved here. -/
import Derived.Test.YtaggldhlnjbnhaaBase
import Derived.Test.YtaggldhlnjbnhaaRd
import Derived.Test.YtaggldhlnjbnhaaIntR
import Derived.Test.YtaggldhlnjbnhaaImR
import Derived.Test.YtaggldhlnjbnhaaRectC
import Derived.Test.YtaggldhlnjbnhaaPixM
import Derived.Test.YtaggldhlnjbnhaaAllR
import Derived.Test.YtaggldhlnjbnhaaImV
import Derived.Test.YtaggldhlnjbnhaaBk
import Derived.Test.YtaggldhlnjbnhaaColM
import Derived.Test.YtaggldhlnjbnhaaProg
import Derived.WalkKit
import Derived.ProofKit
import Derived.OpenShut
import Derived.WalkLawsBesides
import Derived.WalkSpells
import Derived.ShutString
import Derived.ChangeOld
import Derived.Below
import Derived.Lib.Hide
import Derived.BigQuiet
import Derived.Deep.QuietTactic
import Derived.Maps.AppendAt
import Derived.Deep.OwnRows
import Derived.Handy
import Derived.Deep.Draws
import Derived.OwnWalk
import Derived.Deep.AppendLies
import Derived.Deep.LoopGhost
import Derived.Deep.Onto
import Derived.Laws.BitsAllLaws
import Derived.Lib.QuoteBits
import Derived.Test.YtaggldhlnjbnhaaShelf
import Derived.Laws.CopyOwn
import Derived.Deep.RegionLaw
import Derived.Deep.RegionHeld3
import Derived.Deep.DeepCutAuto
import Derived.Great.BuildSlice
import Derived.Deep.MidRow
import Derived.Deep.WholeRow
namespace Go.Proofs.Ytaggldhlnjbnhaa
open Go.RowKit
/-- Block b holds a color map; its slices read M and C. -/
structure CmB (b : Nat) (u v : Value) (M C : List Int) (W : World) : Prop where
  at_ : BkAt W b 49 #[u, v]
  rm : RdI W u M
  rc : RdI W v C
theorem CmB.call {b : Nat} {u v : Value} {M C : List Int} {W W' : World} (h : CmB b u v M C W) (hb : Below W.heap.size W W') : CmB b u v M C W' := ⟨h.at_.call hb, h.rm.call hb, h.rc.call hb⟩
theorem CmB.drew {b : Nat} {u v : Value} {M C : List Int} {W : World} (h : CmB b u v M C W) : CmB b u v M C W.drew := h.call (belI_drew _)
theorem CmB.cells {b : Nat} {u v : Value} {M C : List Int} {W : World} (h : CmB b u v M C W) : W.cell? ⟨b, 0, none⟩ = some u ∧ W.cell? ⟨b, 1, none⟩ = some v := ⟨h.at_.cell 0 rfl, h.at_.cell 1 rfl⟩
theorem CmB.lt {b : Nat} {u v : Value} {M C : List Int} {W : World} (h : CmB b u v M C W) : b < W.heap.size := h.at_.lt
theorem CmB.born {w : World} {u v : Value} {M C : List Int} (hu : RdI w u M) (hv : RdI w v C) : CmB w.heap.size u v M C (w.alloc (.cells #[u, v] 49)) :=
  ⟨BkAt.new _ _ _, hu.alloc _, hv.alloc _⟩
theorem CmB.bornAt {w : World} {b : Nat} {u v : Value} {M C : List Int} (hb : w.heap.size = b) (hu : RdI w u M) (hv : RdI w v C) : CmB b u v M C (w.alloc (.cells #[u, v] 49)) := hb ▸ CmB.born hu hv
set_option maxHeartbeats 600000 in
set_option maxRecDepth 10000 in
theorem colI (u v : Value) (M C : List Int) (w : World) (hu : RdI w u M) (hv : RdI w v C) :
    Calls Try.prog 67 #[.agg #[u, v]] w fun e w' => e = .returned (.bool (colB M C)) ∧ Below w.heap.size w w' := by
  have hB := CmB.born hu hv
  have K := belI_box w (.cells #[u, v] 49)
  obtain ⟨A, c, rfl⟩ := hu.form
  obtain ⟨A', c', rfl⟩ := hv.form
  have hm1 : M.length ≤ 9223372036854775807 := by have := hu.len; unfold maxLen at this; omega
  have hc1 : C.length ≤ 9223372036854775807 := by have := hv.len; unfold maxLen at this; omega
  have H1 := Lib.hid (allI _ M (-1024) 1024 _ hB.rm)
  have H2 := Lib.hid (allI _ C 0 256 _ hB.rc)
  have HM := Lib.hid hB
  have Hd : Hid (colOk M C ↔ M.length = 9 ∧ C.length = 17 ∧ allIn M (-1024) 1024 ∧ allIn C 0 256) := Lib.hid Iff.rfl
  obtain ⟨n, hn⟩ : ∃ n, n = M.length := ⟨_, rfl⟩
  obtain ⟨m, hm⟩ : ∃ m, m = C.length := ⟨_, rfl⟩
  rw [← hn] at hm1 H1 hB K HM ⊢
  rw [← hn, ← hm] at H2
  rw [← hm] at hc1 hB K H1 HM ⊢
  rw [← hn, ← hm] at Hd
  have HK := Lib.hid K
  obtain ⟨b0, b1⟩ := hB.cells
  clear hu hv hn hm hB K HM
  by_cases h1 : n = 9
  · by_cases h3 : allIn M (-1024) 1024
    · rw [allB_yes h3] at H1
      by_cases h2 : m = 17
      · obtain ⟨q, hq⟩ : ∃ q, q = allB C 0 256 := ⟨_, rfl⟩
        have hqi : colB M C = q := by
          rw [hq]
          by_cases ha : allIn C 0 256
          · rw [allB_yes ha]; exact colB_yes (Hd.out.2 ⟨h1, h2, h3, ha⟩)
          · rw [allB_no ha]; exact colB_no fun h => ha (Hd.out.1 h).2.2.2
        have Hqi := Lib.hid hqi
        rw [← hq] at H2
        clear hq hqi h3 Hd
        subst h1
        subst h2
        go_enter Try.func67, Try.ntmps67
        go_wp2_with fail
        refine H1.out.mono ?_
        rintro e w' ⟨rfl, rfl⟩
        go_wp2_with fail
        refine H2.out.mono ?_
        rintro e w' ⟨rfl, rfl⟩
        go_wp2_with fail
        go_ret
        exact ⟨ret_bool Hqi.out.symm, HK.out⟩
      · have Hno := Lib.hid (colB_no (M := M) (C := C) fun h => h2 (Hd.out.1 h).2.1)
        have h2' : ¬ (m : Int) = 17 := by omega
        clear h3 Hd
        subst h1
        go_enter Try.func67, Try.ntmps67
        go_wp2_with fail
        refine H1.out.mono ?_
        rintro e w' ⟨rfl, rfl⟩
        go_wp2_with fail
        go_ret
        exact ⟨ret_bool Hno.out.symm, HK.out⟩
    · have Hno := Lib.hid (colB_no (M := M) (C := C) fun h => h3 (Hd.out.1 h).2.2.1)
      rw [allB_no h3] at H1
      clear h3 Hd
      subst h1
      go_enter Try.func67, Try.ntmps67
      go_wp2_with fail
      refine H1.out.mono ?_
      rintro e w' ⟨rfl, rfl⟩
      go_wp2_with fail
      go_ret
      exact ⟨ret_bool Hno.out.symm, HK.out⟩
  · have Hno := Lib.hid (colB_no (M := M) (C := C) fun h => h1 (Hd.out.1 h).1)
    have h1' : ¬ (n : Int) = 9 := by omega
    go_enter Try.func67, Try.ntmps67
    go_wp2_with fail
    go_ret
    exact ⟨ret_bool Hno.out.symm, HK.out⟩
set_option maxHeartbeats 1000000 in
set_option maxRecDepth 10000 in
theorem colS (u v : Value) (M C : List Int) (w : World) (hu : RdI w u M) (hv : RdI w v C) :
    Calls Try.prog 65 #[.agg #[u, v]] w fun e w' => e = .returned (.bool (colB M C)) ∧ Below w.heap.size w w' := by
  have hB := CmB.born hu hv
  have K := belI_box w (.cells #[u, v] 49)
  obtain ⟨A, c, rfl⟩ := hu.form
  obtain ⟨A', c', rfl⟩ := hv.form
  have hm1 : M.length ≤ 9223372036854775807 := by have := hu.len; unfold maxLen at this; omega
  have hc1 : C.length ≤ 9223372036854775807 := by have := hv.len; unfold maxLen at this; omega
  have Hd : Hid (colOk M C ↔ M.length = 9 ∧ C.length = 17 ∧ allIn M (-1024) 1024 ∧ allIn C 0 256) := Lib.hid Iff.rfl
  obtain ⟨n, hn⟩ : ∃ n, n = M.length := ⟨_, rfl⟩
  obtain ⟨m, hm⟩ : ∃ m, m = C.length := ⟨_, rfl⟩
  rw [← hn] at hm1 hB K ⊢
  rw [← hm] at hc1 hB K ⊢
  have HM := Lib.hid hB.rm
  have HC := Lib.hid hB.rc
  have HK := Lib.hid K
  obtain ⟨b0, b1⟩ := hB.cells
  have Hn := Lib.hid hn
  have Hm := Lib.hid hm
  clear hu hv hn hm hB K
  by_cases h1 : n = 9
  · by_cases h2 : m = 17
    · subst h1
      subst h2
      go_enter Try.func65, Try.ntmps65
      go_wp2_with fail
      go_loopw [3] (fun i wr => ∃ k : Nat, k ≤ 9 ∧ i = .int .i64 k ∧ Hid (∀ (j : Nat) (x : Int), j < k → M[j]? = some x → -1024 ≤ x ∧ x ≤ 1024) ∧ wr = w.alloc (.cells #[.slice A 9 c, .slice A' 17 c'] 49)) (fun i _ => 9 - (intOf i).toNat)
      case atStart => exact ⟨0, Nat.zero_le _, rfl, Lib.hid (fun j x h => by omega), rfl⟩
      case round =>
        obtain ⟨k, hk, rfl, Hall, rfl⟩ := hrel
        by_cases hlt : k < 9
        · obtain ⟨g, x, rfl, hx, hc⟩ := HM.out.at_ (k := k) (by rw [← Hn.out]; exact hlt)
          have Hx := Lib.hid hx
          have k0 : (0 : Int) ≤ (k : Int) := by omega
          have k9 : (k : Int) < 9 := by omega
          clear hx
          by_cases hp : -1024 ≤ x ∧ x ≤ 1024
          · have Hp := Lib.hid hp
            clear hp
            go_wp2_with ((go_at_call 60; (with_reducible refine (inS_yes _ _ _ _ Hp.out.1 Hp.out.2).mono ?_); rintro e w' ⟨rfl, rfl⟩))
            go_roundw
            case rel =>
              refine ⟨k + 1, by omega, by go_num, Lib.hid (fun j y hj hy => ?_), by first | rfl | trivial⟩
              by_cases e : j < k
              · exact Hall.out j y e hy
              · obtain rfl : j = k := by omega
                rw [Hx.out] at hy
                rw [← Option.some.inj hy]
                exact Hp.out
            case measure => simp [intOf]; omega
          · have hp2 : x < -1024 ∨ 1024 < x := by omega
            have Hp := Lib.hid hp2
            have Hno := Lib.hid (colB_no (M := M) (C := C) fun h => hp ((Hd.out.1 h).2.2.1 k x Hx.out))
            clear hp hp2
            go_wp2_with ((go_at_call 60; (with_reducible refine (inS_no _ _ _ _ Hp.out).mono ?_); rintro e w' ⟨rfl, rfl⟩))
            go_ret
            exact ⟨ret_bool Hno.out.symm, HK.out⟩
        · have k9 : ¬ (k : Int) < 9 := by omega
          have HallM : Hid (allIn M (-1024) 1024) := Lib.hid fun j x hx => Hall.out j x (by have := (List.getElem?_eq_some_iff.1 hx).1; have := Hn.out; omega) hx
          clear hk hlt
          go_wp2_with fail
          go_loopw [4] (fun i wr => ∃ j : Nat, j ≤ 17 ∧ i = .int .i64 j ∧ Hid (∀ (y : Nat) (x : Int), y < j → C[y]? = some x → 0 ≤ x ∧ x ≤ 256) ∧ wr = w.alloc (.cells #[.slice A 9 c, .slice A' 17 c'] 49)) (fun i _ => 17 - (intOf i).toNat)
          case atStart => exact ⟨0, Nat.zero_le _, rfl, Lib.hid (fun j x h => by omega), rfl⟩
          case round =>
            obtain ⟨j, hj, rfl, Hal2, rfl⟩ := hrel
            by_cases hlt2 : j < 17
            · obtain ⟨g, x, rfl, hx, hc⟩ := HC.out.at_ (k := j) (by rw [← Hm.out]; exact hlt2)
              have Hx := Lib.hid hx
              have k0 : (0 : Int) ≤ (j : Int) := by omega
              have k17 : (j : Int) < 17 := by omega
              clear hx
              by_cases hp : 0 ≤ x ∧ x ≤ 256
              · have Hp := Lib.hid hp
                clear hp
                go_wp2_with ((go_at_call 60; (with_reducible refine (inS_yes _ _ _ _ Hp.out.1 Hp.out.2).mono ?_); rintro e w' ⟨rfl, rfl⟩))
                go_roundw
                case rel =>
                  refine ⟨j + 1, by omega, by go_num, Lib.hid (fun y z hy hz => ?_), by first | rfl | trivial⟩
                  by_cases e : y < j
                  · exact Hal2.out y z e hz
                  · obtain rfl : y = j := by omega
                    rw [Hx.out] at hz
                    rw [← Option.some.inj hz]
                    exact Hp.out
                case measure => simp [intOf]; omega
              · have hp2 : x < 0 ∨ 256 < x := by omega
                have Hp := Lib.hid hp2
                have Hno := Lib.hid (colB_no (M := M) (C := C) fun h => hp ((Hd.out.1 h).2.2.2 j x Hx.out))
                clear hp hp2
                go_wp2_with ((go_at_call 60; (with_reducible refine (inS_no _ _ _ _ Hp.out).mono ?_); rintro e w' ⟨rfl, rfl⟩))
                go_ret
                exact ⟨ret_bool Hno.out.symm, HK.out⟩
            · obtain rfl : j = 17 := by omega
              have Hyes := Lib.hid (colB_yes (M := M) (C := C) (Hd.out.2 ⟨Hn.out.symm, Hm.out.symm, HallM.out, fun y x hx => Hal2.out y x (by have := (List.getElem?_eq_some_iff.1 hx).1; have := Hm.out; omega) hx⟩))
              go_wp2_with fail
              go_ret
              exact ⟨ret_bool Hyes.out.symm, HK.out⟩
    · have Hno := Lib.hid (colB_no (M := M) (C := C) fun h => h2 (Hm.out.trans (Hd.out.1 h).2.1))
      have h2' : ¬ (m : Int) = 17 := by omega
      subst h1
      go_enter Try.func65, Try.ntmps65
      go_wp2_with fail
      go_ret
      exact ⟨ret_bool Hno.out.symm, HK.out⟩
  · have Hno := Lib.hid (colB_no (M := M) (C := C) fun h => h1 (Hn.out.trans (Hd.out.1 h).1))
    have h1' : ¬ (n : Int) = 9 := by omega
    go_enter Try.func65, Try.ntmps65
    go_wp2_with fail
    go_ret
    exact ⟨ret_bool Hno.out.symm, HK.out⟩
end Go.Proofs.Ytaggldhlnjbnhaa
