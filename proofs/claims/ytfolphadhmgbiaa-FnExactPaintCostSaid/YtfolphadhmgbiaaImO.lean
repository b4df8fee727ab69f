/- The contracts of isImageSize and ImageOk, of the program and of its model. No statement is proved here. -/
import Derived.Test.YtfolphadhmgbiaaMA
import Derived.Test.YtfolphadhmgbiaaImR
import Derived.Test.YtfolphadhmgbiaaAllR
import Derived.Test.YtfolphadhmgbiaaProg
import Derived.WalkKit
import Derived.ProofKit
import Derived.OpenShut
import Derived.WalkLawsBesides
import Derived.WalkSpells
import Derived.ShutString
import Derived.ChangeOld
import Derived.Below
import Derived.Lib.Hide
import Derived.BigQuiet
import Derived.Deep.QuietTactic
import Derived.Maps.AppendAt
import Derived.Deep.OwnRows
import Derived.Handy
import Derived.Deep.Draws
import Derived.OwnWalk
import Derived.Deep.AppendLies
import Derived.Deep.LoopGhost
import Derived.Deep.Onto
import Derived.Laws.BitsAllLaws
import Derived.Lib.QuoteBits
namespace Go.Proofs.Ytfolphadhmgbiaa
open Go.RowKit
def szOk (W H : Int) : Prop := 1 ≤ W ∧ W ≤ 16 ∧ 1 ≤ H ∧ H ≤ 16
/-- A valid image. -/
def imOk (W H : Int) (L : List Int) : Prop := szOk W H ∧ (L.length : Int) = W * H ∧ ∀ (k : Nat) (x : Int), L[k]? = some x → pixOk x
noncomputable def imB (W H : Int) (L : List Int) : Bool := @decide (imOk W H L) (Classical.propDecidable _)
theorem imB_yes {W H : Int} {L : List Int} (h : imOk W H L) : imB W H L = true := by unfold imB; simp [h]
theorem imB_no {W H : Int} {L : List Int} (h : ¬ imOk W H L) : imB W H L = false := by unfold imB; simp [h]
/-- A list of numbers from 0 to hi for each place of an image. -/
def fillOk (W H : Int) (L : List Int) (hi : Int) : Prop := szOk W H ∧ (L.length : Int) = W * H ∧ allIn L 0 hi
noncomputable def fillB (W H : Int) (L : List Int) (hi : Int) : Bool := @decide (fillOk W H L hi) (Classical.propDecidable _)
theorem fillB_yes {W H hi : Int} {L : List Int} (h : fillOk W H L hi) : fillB W H L hi = true := by unfold fillB; simp [h]
theorem fillB_no {W H hi : Int} {L : List Int} (h : ¬ fillOk W H L hi) : fillB W H L hi = false := by unfold fillB; simp [h]
theorem imB_fill {W H : Int} {L : List Int} : imB W H L = fillB W H L 4294967295 := by
  by_cases h : imOk W H L
  · rw [imB_yes h]; exact (fillB_yes (show fillOk W H L 4294967295 from h)).symm
  · rw [imB_no h]; exact (fillB_no (show ¬ fillOk W H L 4294967295 from h)).symm
theorem sz_mul {W H : Int} (h : szOk W H) : 0 ≤ W * H ∧ W * H ≤ 256 := by
  obtain ⟨h1, h2, h3, h4⟩ := h
  exact ⟨Int.mul_nonneg (by omega) (by omega), by have := Int.mul_le_mul (a := W) (b := H) (c := 16) (d := 16) h2 h4 (by omega) (by omega); omega⟩
theorem sz_pos {W H : Int} (h : szOk W H) : 1 ≤ W * H := by
  obtain ⟨h1, h2, h3, h4⟩ := h
  have := Int.mul_le_mul (a := 1) (b := 1) (c := W) (d := H) h1 h3 (by omega) (by omega)
  omega
/-- What ImageOk answers. -/
def ImOkAns (W H : Int) (L : List Int) (w : World) (e : Ending) (w' : World) : Prop := e = .returned (.bool (imB W H L)) ∧ Below w.heap.size w w'
theorem szI_yes (W H : Int) (h : szOk W H) (w : World) :
    Calls Try.prog 58 #[.int .i64 W, .int .i64 H] w fun e w' => e = .returned (.bool true) ∧ w = w' := by
  obtain ⟨h1, h2, h3, h4⟩ := h
  go_enter Try.func58, Try.ntmps58
  go_wp2_with ((go_at_call 100; (with_reducible refine (inI_yes _ _ _ _ (by omega) (by omega)).mono ?_); rintro e w' ⟨rfl, rfl⟩))
  go_ret
  exact ⟨rfl, rfl⟩
theorem szI_no (W H : Int) (h : ¬ szOk W H) (w : World) :
    Calls Try.prog 58 #[.int .i64 W, .int .i64 H] w fun e w' => e = .returned (.bool false) ∧ w = w' := by
  unfold szOk at h
  by_cases h1 : 1 ≤ W ∧ W ≤ 16
  · obtain ⟨h1, h2⟩ := h1
    have h7 : H < 1 ∨ 16 < H := by omega
    have H7 := Lib.hid h7
    clear h7 h
    go_enter Try.func58, Try.ntmps58
    go_wp2_with (first | (go_at_call 100; (with_reducible refine (inI_yes _ _ _ _ (by omega) (by omega)).mono ?_); rintro e w' ⟨rfl, rfl⟩) | (go_at_call 100; (with_reducible refine (inI_no _ _ _ _ H7.out).mono ?_); rintro e w' ⟨rfl, rfl⟩))
    go_ret
    exact ⟨rfl, rfl⟩
  · have h7 : W < 1 ∨ 16 < W := by omega
    have H7 := Lib.hid h7
    clear h7 h h1
    go_enter Try.func58, Try.ntmps58
    go_wp2_with (first | (go_at_call 100; (with_reducible refine (inI_no _ _ _ _ H7.out).mono ?_); rintro e w' ⟨rfl, rfl⟩))
    go_ret
    exact ⟨rfl, rfl⟩
set_option maxHeartbeats 600000 in
theorem fillI (W H hi : Int) (v : Value) (L : List Int) (w : World) (hv : RdI w v L) :
    Calls Try.prog 156 #[v, .int .i64 W, .int .i64 H, .int .i64 hi] w fun e w' => e = .returned (.bool (fillB W H L hi)) ∧ w = w' := by
  obtain ⟨A, c, rfl⟩ := hv.form
  have hnm := hv.len
  obtain ⟨n, hn⟩ : ∃ n, n = L.length := ⟨_, rfl⟩
  rw [← hn] at hv hnm ⊢
  have Hv := Lib.hid hv
  clear hv
  by_cases hs : szOk W H
  · obtain ⟨m0, m1⟩ := sz_mul hs
    have Hs := Lib.hid hs
    by_cases hl : (n : Int) = W * H
    · obtain ⟨q, hq⟩ : ∃ q, q = allB L 0 hi := ⟨_, rfl⟩
      have hqi : fillB W H L hi = q := by
        rw [hq]
        by_cases ha : allIn L 0 hi
        · rw [allB_yes ha]; exact fillB_yes ⟨hs, by rw [← hn]; exact hl, ha⟩
        · rw [allB_no ha]; exact fillB_no fun h => ha h.2.2
      have Hqi := Lib.hid hqi
      have HC := Lib.hid (allI (.slice A n c) L 0 hi _ Hv.out)
      rw [← hq] at HC
      have hn256 : n ≤ 256 := by omega
      clear hs hn hq hqi
      go_enter Try.func156, Try.ntmps156
      go_wp2_with fail
      refine (szI_yes _ _ Hs.out _).mono ?_
      rintro e w' ⟨rfl, rfl⟩
      go_wp2_with fail
      refine HC.out.mono ?_
      rintro e w' ⟨rfl, rfl⟩
      go_wp2_with fail
      go_ret
      exact ⟨ret_bool Hqi.out.symm, rfl⟩
    · have hno : fillB W H L hi = false := fillB_no fun h => hl (by rw [hn]; exact h.2.1)
      have Hno := Lib.hid hno
      unfold maxLen at hnm
      clear hs hno hn
      go_enter Try.func156, Try.ntmps156
      go_wp2_with fail
      refine (szI_yes _ _ Hs.out _).mono ?_
      rintro e w' ⟨rfl, rfl⟩
      go_wp2_with fail
      go_ret
      exact ⟨ret_bool Hno.out.symm, rfl⟩
  · have hno : fillB W H L hi = false := fillB_no fun h => hs h.1
    have Hno := Lib.hid hno
    have Hs := Lib.hid hs
    clear hs hno hn
    go_enter Try.func156, Try.ntmps156
    go_wp2_with fail
    refine (szI_no _ _ Hs.out _).mono ?_
    rintro e w' ⟨rfl, rfl⟩
    go_wp2_with fail
    go_ret
    exact ⟨ret_bool Hno.out.symm, rfl⟩
set_option maxHeartbeats 600000 in
theorem imI (W H : Int) (v : Value) (L : List Int) (w : World) (hv : RdI w v L) :
    Calls Try.prog 115 #[.agg #[.int .i64 W, .int .i64 H, v]] w (ImOkAns W H L w) := by
  have hv2 := hv.alloc (.cells #[.int .i64 W, .int .i64 H, v] 35)
  have hw := (Below.refl w.heap.size w).alloc (Nat.le_refl _) (.cells #[.int .i64 W, .int .i64 H, v] 35)
  obtain ⟨A, c, rfl⟩ := hv.form
  obtain ⟨n, hn⟩ : ∃ n, n = L.length := ⟨_, rfl⟩
  have HC := Lib.hid (fillI W H 4294967295 (.slice A L.length c) L _ hv2)
  obtain ⟨q, hq⟩ : ∃ q, q = fillB W H L 4294967295 := ⟨_, rfl⟩
  have hqi : imB W H L = q := by rw [hq, imB_fill]
  have Hqi := Lib.hid hqi
  rw [← hq] at HC
  rw [← hn] at HC hw ⊢
  have Hw := Lib.hid hw
  clear hv hv2 hw hqi hq hn
  go_enter Try.func115, Try.ntmps115
  go_wp2_with fail
  refine HC.out.mono ?_
  rintro e w' ⟨rfl, rfl⟩
  go_wp2_with fail
  go_ret
  exact ⟨ret_bool Hqi.out.symm, Hw.out⟩
set_option maxHeartbeats 600000 in
theorem imS (W H : Int) (v : Value) (L : List Int) (w : World) (hv : RdI w v L) :
    Calls Try.prog 79 #[.agg #[.int .i64 W, .int .i64 H, v]] w (ImOkAns W H L w) := by
  have hv2 := hv.alloc (.cells #[.int .i64 W, .int .i64 H, v] 35)
  have hw := (Below.refl w.heap.size w).alloc (Nat.le_refl _) (.cells #[.int .i64 W, .int .i64 H, v] 35)
  have hI := ImAt.new w 35 W H v
  obtain ⟨A, c, rfl⟩ := hv.form
  have hnm := hv.len
  obtain ⟨n, hn⟩ : ∃ n, n = L.length := ⟨_, rfl⟩
  rw [← hn] at hv2 hw hnm hI ⊢
  have Hv := Lib.hid hv2
  have Hw := Lib.hid hw
  obtain ⟨i0, i1, i2⟩ := hI.cells
  clear hv hv2 hw hI
  by_cases hs : szOk W H
  · obtain ⟨m0, m1⟩ := sz_mul hs
    have Hs := Lib.hid hs
    have hs2 := hs
    obtain ⟨s1, s2, s3, s4⟩ := hs2
    by_cases hl : (n : Int) = W * H
    · have hn256 : n ≤ 256 := by omega
      have Hl := Lib.hid hl
      have Hn := Lib.hid hn
      clear hs hn
      go_enter Try.func79, Try.ntmps79
      go_wp2_with ((go_at_call 85; (with_reducible refine (inS_yes _ _ _ _ (by omega) (by omega)).mono ?_); rintro e w' ⟨rfl, rfl⟩))
      go_loopw [3] (fun i wr => ∃ k : Nat, k ≤ n ∧ i = .int .i64 k ∧ Hid (∀ (j : Nat) (x : Int), j < k → L[j]? = some x → pixOk x) ∧ wr = w.alloc (.cells #[.int .i64 W, .int .i64 H, .slice A n c] 35)) (fun i _ => n - (intOf i).toNat)
      case atStart => exact ⟨0, Nat.zero_le _, rfl, Lib.hid (fun j x h => by omega), rfl⟩
      case round =>
        obtain ⟨k, hk, rfl, Hall, rfl⟩ := hrel
        by_cases hlt : k < n
        · obtain ⟨g, x, rfl, hx, hc⟩ := Hv.out.at_ (k := k) (by rw [← Hn.out]; exact hlt)
          have Hx := Lib.hid hx
          have k0 : (0 : Int) ≤ (k : Int) := by omega
          have k1 : (k : Int) < (n : Int) := by omega
          clear hx
          by_cases hp : pixOk x
          · have Hp := Lib.hid hp
            clear hp
            go_wp2_with ((go_at_call 76; (with_reducible refine (pixS_yes _ Hp.out _).mono ?_); rintro e w' ⟨rfl, rfl⟩))
            go_roundw
            case rel =>
              refine ⟨k + 1, by omega, by go_num, Lib.hid (fun j y hj hy => ?_), by first | rfl | trivial⟩
              by_cases e : j < k
              · exact Hall.out j y e hy
              · obtain rfl : j = k := by omega
                rw [Hx.out] at hy
                rw [← Option.some.inj hy]
                exact Hp.out
            case measure => simp [intOf]; omega
          · have Hp := Lib.hid hp
            have hno : imB W H L = false := imB_no fun h => hp (h.2.2 k x Hx.out)
            have Hno := Lib.hid hno
            clear hp hno
            go_wp2_with ((go_at_call 76; (with_reducible refine (pixS_no _ Hp.out _).mono ?_); rintro e w' ⟨rfl, rfl⟩))
            go_ret
            exact ⟨ret_bool Hno.out.symm, Hw.out⟩
        · obtain rfl : k = n := by omega
          have hyes : imB W H L = true := imB_yes ⟨Hs.out, by rw [← Hn.out]; exact Hl.out, fun j x hx => Hall.out j x (by rw [Hn.out]; exact (List.getElem?_eq_some_iff.1 hx).1) hx⟩
          have Hyes := Lib.hid hyes
          clear hyes
          go_wp2_with fail
          go_ret
          exact ⟨ret_bool Hyes.out.symm, Hw.out⟩
    · have hno : imB W H L = false := imB_no fun h => hl (by rw [hn]; exact h.2.1)
      have Hno := Lib.hid hno
      unfold maxLen at hnm
      clear hs hno hn
      go_enter Try.func79, Try.ntmps79
      go_wp2_with ((go_at_call 85; (with_reducible refine (inS_yes _ _ _ _ (by omega) (by omega)).mono ?_); rintro e w' ⟨rfl, rfl⟩))
      go_ret
      exact ⟨ret_bool Hno.out.symm, Hw.out⟩
  · have hno : imB W H L = false := imB_no fun h => hs h.1
    have Hno := Lib.hid hno
    unfold szOk at hs
    by_cases h1 : 1 ≤ W ∧ W ≤ 16
    · obtain ⟨h1, h2⟩ := h1
      have h7 : H < 1 ∨ 16 < H := by omega
      have H7 := Lib.hid h7
      clear h7 hs hno hn
      go_enter Try.func79, Try.ntmps79
      go_wp2_with (first | (go_at_call 85; (with_reducible refine (inS_yes _ _ _ _ (by omega) (by omega)).mono ?_); rintro e w' ⟨rfl, rfl⟩) | (go_at_call 85; (with_reducible refine (inS_no _ _ _ _ H7.out).mono ?_); rintro e w' ⟨rfl, rfl⟩))
      go_ret
      exact ⟨ret_bool Hno.out.symm, Hw.out⟩
    · have h7 : W < 1 ∨ 16 < W := by omega
      have H7 := Lib.hid h7
      clear h7 hs hno hn h1
      go_enter Try.func79, Try.ntmps79
      go_wp2_with (first | (go_at_call 85; (with_reducible refine (inS_no _ _ _ _ H7.out).mono ?_); rintro e w' ⟨rfl, rfl⟩))
      go_ret
      exact ⟨ret_bool Hno.out.symm, Hw.out⟩
end Go.Proofs.Ytfolphadhmgbiaa
