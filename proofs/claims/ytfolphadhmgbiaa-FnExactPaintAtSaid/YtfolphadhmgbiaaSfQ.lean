/- The contracts of IsOpaque, of the program and of its model. No statement is proved here. -/
import Derived.Test.YtfolphadhmgbiaaMA
import Derived.Test.YtfolphadhmgbiaaSfO
import Derived.Test.YtfolphadhmgbiaaMB
import Derived.Test.YtfolphadhmgbiaaSnO
import Derived.Test.YtfolphadhmgbiaaMC
import Derived.Test.YtfolphadhmgbiaaSfP
import Derived.Test.YtfolphadhmgbiaaProg
import Derived.WalkKit
import Derived.ProofKit
import Derived.OpenShut
import Derived.WalkLawsBesides
import Derived.WalkSpells
import Derived.ShutString
import Derived.ChangeOld
import Derived.Below
import Derived.Lib.Hide
import Derived.BigQuiet
import Derived.Deep.QuietTactic
import Derived.Maps.AppendAt
import Derived.Deep.OwnRows
import Derived.Handy
import Derived.Deep.Draws
import Derived.OwnWalk
import Derived.Deep.AppendLies
import Derived.Deep.LoopGhost
import Derived.Deep.Onto
import Derived.Deep.MidRow
import Derived.Deep.WholeRow
import Derived.Laws.BitsAllLaws
import Derived.Lib.QuoteBits
import Derived.Deep.RegionHeld3
import Derived.Deep.DeepCutAuto
import Derived.Test.YtfolphadhmgbiaaShelf
import Derived.Laws.CopyOwn
import Derived.Deep.RegionLaw
import Derived.Great.BuildSlice
import Derived.Laws.AppendOwn
import Derived.ChangeKeysEq
namespace Go.Proofs.Ytfolphadhmgbiaa
open Go.RowKit
def allOpq (L : List Int) : Prop := ∀ (k : Nat) (p : Int), L[k]? = some p → chan p 0 = 255
noncomputable def sfOpq (f : Sf) : Bool := @decide (sfOk f ∧ allOpq (sfPic f).d) (Classical.propDecidable _)
theorem sfOpq_yes {f : Sf} (h : sfOk f) (ha : allOpq (sfPic f).d) : sfOpq f = true := by unfold sfOpq; simp [h, ha]
theorem sfOpq_no {f : Sf} (h : ¬ (sfOk f ∧ allOpq (sfPic f).d)) : sfOpq f = false := by unfold sfOpq; simp only [decide_eq_false_iff_not]; exact h
/-- What IsOpaque answers. -/
def IsoAns (f : Sf) (w : World) (e : Ending) (w' : World) : Prop := e = .returned (.bool (sfOpq f)) ∧ Below w.heap.size w w'
theorem field_im (a b u : Value) (W : World) : (Instr.field 35 (.agg #[a, b, u]) 2).run Try.prog W = .ok u W := by kernel_rfl
set_option maxHeartbeats 2000000 in
set_option maxRecDepth 10000 in
theorem isoI (f : Sf) (d : Value) (w : World) (hv : RdI w d f.data) : Calls Try.prog 145 #[.agg #[.int .i64 f.id, .int .i64 f.x, .int .i64 f.y, .int .i64 f.w, .int .i64 f.h, .int .i64 f.alpha, .int .i64 f.orient, .bool f.vis, .int .i64 f.bw, .int .i64 f.bh, d]] w (IsoAns f w) := by
  obtain ⟨A, c, rfl⟩ := hv.form
  have hB := belI_box w (.cells #[.int .i64 f.id, .int .i64 f.x, .int .i64 f.y, .int .i64 f.w, .int .i64 f.h, .int .i64 f.alpha, .int .i64 f.orient, .bool f.vis, .int .i64 f.bw, .int .i64 f.bh, .slice A f.data.length c] 37)
  have hX := BkAt.new w 37 #[.int .i64 f.id, .int .i64 f.x, .int .i64 f.y, .int .i64 f.w, .int .i64 f.h, .int .i64 f.alpha, .int .i64 f.orient, .bool f.vis, .int .i64 f.bw, .int .i64 f.bh, .slice A f.data.length c]
  have HV := Lib.hid (hv.call hB)
  have HC := Lib.hid (sfI f _ _ HV.out)
  unfold SfOkAns at HC
  clear hv
  by_cases hs : sfOk f
  · rw [sfB_yes hs] at HC
    have HP := fun (W : World) (h : RdI W (.slice A f.data.length c) f.data) => picI f _ W h
    unfold PicAns AnsIm at HP
    obtain ⟨X, Y, L, hL⟩ : ∃ X Y L, sfPic f = ⟨X, Y, L⟩ := ⟨_, _, _, rfl⟩
    have hy : allOpq L → sfOpq f = true := fun h => sfOpq_yes hs (by rw [hL]; exact h)
    have hno : ¬ allOpq L → sfOpq f = false := fun h => sfOpq_no fun e => h (by have := e.2; rwa [hL] at this)
    rw [hL] at HP
    dsimp only at HP
    have HP := Lib.hid HP
    have Hy := Lib.hid hy
    have Hno := Lib.hid hno
    obtain ⟨n, hn⟩ : ∃ n, n = L.length := ⟨_, rfl⟩
    have hn2 : n ≤ 100000000 := by have := sfPic_len f; rw [hL] at this; rw [hn]; exact this
    have Hn := Lib.hid hn
    clear hs hL hy hno hn
    have e0 := hX.cell 0 rfl
    have e1 := hX.cell 1 rfl
    have e2 := hX.cell 2 rfl
    have e3 := hX.cell 3 rfl
    have e4 := hX.cell 4 rfl
    have e5 := hX.cell 5 rfl
    have e6 := hX.cell 6 rfl
    have e7 := hX.cell 7 rfl
    have e8 := hX.cell 8 rfl
    have e9 := hX.cell 9 rfl
    have e10 := hX.cell 10 rfl
    go_enter Try.func145, Try.ntmps145
    go_wp2_with fail
    refine HC.out.mono ?_
    rintro e w1 ⟨rfl, hb⟩
    have HV := Lib.hid (HV.out.call hb)
    replace hX := hX.call hb
    replace hB := belI_call hB hb
    clear e0 e1 e2 e3 e4 e5 e6 e7 e8 e9 e10
    clear hb
    have e0 := hX.cell 0 rfl
    have e1 := hX.cell 1 rfl
    have e2 := hX.cell 2 rfl
    have e3 := hX.cell 3 rfl
    have e4 := hX.cell 4 rfl
    have e5 := hX.cell 5 rfl
    have e6 := hX.cell 6 rfl
    have e7 := hX.cell 7 rfl
    have e8 := hX.cell 8 rfl
    have e9 := hX.cell 9 rfl
    have e10 := hX.cell 10 rfl
    go_wp2_with fail
    refine (HP.out _ HV.out).mono ?_
    rintro e w2 ⟨u, rfl, ho, hb⟩
    replace hB := belI_call hB hb
    have hrd := RdI.of_own ho
    clear e0 e1 e2 e3 e4 e5 e6 e7 e8 e9 e10
    obtain ⟨A2, c2, hu⟩ := hrd.form
    subst hu
    rw [← Hn.out] at hrd ⊢
    have HR := Lib.hid hrd
    have HB := Lib.hid hB
    have hfd := fun (a b u : Value) W => field_im a b u W
    clear hX hB hb ho hrd
    go_wp2_with fail
    clear hfd
    go_loopg [4, 12] n (fun gg _ s12 wr => ∃ k : Nat, k ≤ n ∧ n - k ≤ gg ∧ s12 = .int .i64 k ∧ Hid (∀ (j : Nat) (p : Int), j < k → L[j]? = some p → chan p 0 = 255) ∧ Hid (Below w2.heap.size w2 wr))
    case atStart => exact ⟨0, Nat.zero_le _, by omega, rfl, Lib.hid (fun j x h => by omega), Lib.hid (Below.refl _ _)⟩
    case round =>
      obtain ⟨k, hk, hgg, rfl, Hall, HW⟩ := hrel
      by_cases hlt : k < n
      · obtain ⟨g, x, rfl, hx, hc⟩ := (HR.out.call HW.out).at_ (k := k) (by rw [← Hn.out]; exact hlt)
        have Hx := Lib.hid hx
        have HK := fun W => opqI x W
        rw [opqB_ch] at HK
        have k0 : (0 : Int) ≤ (k : Int) := by omega
        have k1 : (k : Int) < (n : Int) := by omega
        clear hx
        by_cases hch : chan x 0 = 255
        · rw [hch] at HK
          have Hch := Lib.hid hch
          have HK := Lib.hid HK
          clear hch
          go_wp2_with fail
          refine (HK.out _).mono ?_
          rintro e w3 ⟨rfl, hb⟩
          have HW := Lib.hid (belI_call HW.out hb)
          clear hc hb
          go_wp2_with fail
          go_roundg (n - (k + 1))
          case measure => omega
          case rel =>
            refine ⟨k + 1, by omega, by omega, by go_num, Lib.hid (fun j y hj hy => ?_), HW⟩
            by_cases e : j < k
            · exact Hall.out j y e hy
            · obtain rfl : j = k := by omega
              rw [Hx.out] at hy
              rw [← Option.some.inj hy]
              exact Hch.out
        · rw [show (chan x 0 == 255) = false by simp [hch]] at HK
          have Hq := Lib.hid (Hno.out fun h => hch (h k x Hx.out))
          have HK := Lib.hid HK
          clear hch
          go_wp2_with fail
          refine (HK.out _).mono ?_
          rintro e w3 ⟨rfl, hb⟩
          have HW := Lib.hid (belI_call HW.out hb)
          clear hc hb
          go_wp2_with fail
          go_ret
          exact ⟨ret_bool Hq.out.symm, belI_call HB.out HW.out⟩
      · obtain rfl : k = n := by omega
        have Hq := Lib.hid (Hy.out fun j p hj => Hall.out j p (by rw [Hn.out]; exact (List.getElem?_eq_some_iff.1 hj).1) hj)
        go_wp2_with fail
        go_ret
        exact ⟨ret_bool Hq.out.symm, belI_call HB.out HW.out⟩
  · rw [sfB_no hs] at HC
    have Hq := Lib.hid (sfOpq_no (f := f) fun e => hs e.1)
    clear hs
    have e0 := hX.cell 0 rfl
    have e1 := hX.cell 1 rfl
    have e2 := hX.cell 2 rfl
    have e3 := hX.cell 3 rfl
    have e4 := hX.cell 4 rfl
    have e5 := hX.cell 5 rfl
    have e6 := hX.cell 6 rfl
    have e7 := hX.cell 7 rfl
    have e8 := hX.cell 8 rfl
    have e9 := hX.cell 9 rfl
    have e10 := hX.cell 10 rfl
    go_enter Try.func145, Try.ntmps145
    go_wp2_with fail
    refine HC.out.mono ?_
    rintro e w1 ⟨rfl, hb⟩
    replace hB := belI_call hB hb
    clear e0 e1 e2 e3 e4 e5 e6 e7 e8 e9 e10
    go_wp2_with fail
    go_ret
    exact ⟨ret_bool Hq.out.symm, hB⟩
set_option maxHeartbeats 2000000 in
set_option maxRecDepth 10000 in
theorem isoS (f : Sf) (d : Value) (w : World) (hv : RdI w d f.data) : Calls Try.prog 96 #[.agg #[.int .i64 f.id, .int .i64 f.x, .int .i64 f.y, .int .i64 f.w, .int .i64 f.h, .int .i64 f.alpha, .int .i64 f.orient, .bool f.vis, .int .i64 f.bw, .int .i64 f.bh, d]] w (IsoAns f w) := by
  obtain ⟨A, c, rfl⟩ := hv.form
  have hB := belI_box w (.cells #[.int .i64 f.id, .int .i64 f.x, .int .i64 f.y, .int .i64 f.w, .int .i64 f.h, .int .i64 f.alpha, .int .i64 f.orient, .bool f.vis, .int .i64 f.bw, .int .i64 f.bh, .slice A f.data.length c] 37)
  have hX := BkAt.new w 37 #[.int .i64 f.id, .int .i64 f.x, .int .i64 f.y, .int .i64 f.w, .int .i64 f.h, .int .i64 f.alpha, .int .i64 f.orient, .bool f.vis, .int .i64 f.bw, .int .i64 f.bh, .slice A f.data.length c]
  have HV := Lib.hid (hv.call hB)
  have HC := fun (W : World) (h : RdI W (.slice A f.data.length c) f.data) => sfS f _ W h
  unfold SfOkAns at HC
  clear hv
  have HP := fun (W : World) (h : RdI W (.slice A f.data.length c) f.data) => picS f _ W h
  unfold PicAns AnsIm at HP
  obtain ⟨X, Y, L, hL⟩ : ∃ X Y L, sfPic f = ⟨X, Y, L⟩ := ⟨_, _, _, rfl⟩
  have hy : allOpq L → sfB f = sfOpq f := fun h => by
    by_cases hs : sfOk f
    · rw [sfB_yes hs, sfOpq_yes hs (by rw [hL]; exact h)]
    · rw [sfB_no hs, sfOpq_no fun e => hs e.1]
  have hno : ¬ allOpq L → sfOpq f = false := fun h => sfOpq_no fun e => h (by have := e.2; rwa [hL] at this)
  rw [hL] at HP
  dsimp only at HP
  obtain ⟨q, hq⟩ : ∃ q, q = sfB f := ⟨_, rfl⟩
  rw [← hq] at HC hy
  have HC := Lib.hid HC
  have HP := Lib.hid HP
  have Hy := Lib.hid hy
  have Hno := Lib.hid hno
  obtain ⟨n, hn⟩ : ∃ n, n = L.length := ⟨_, rfl⟩
  have hn2 : n ≤ 100000000 := by have := sfPic_len f; rw [hL] at this; rw [hn]; exact this
  have Hn := Lib.hid hn
  clear hL hy hno hn hq
  have e0 := hX.cell 0 rfl
  have e1 := hX.cell 1 rfl
  have e2 := hX.cell 2 rfl
  have e3 := hX.cell 3 rfl
  have e4 := hX.cell 4 rfl
  have e5 := hX.cell 5 rfl
  have e6 := hX.cell 6 rfl
  have e7 := hX.cell 7 rfl
  have e8 := hX.cell 8 rfl
  have e9 := hX.cell 9 rfl
  have e10 := hX.cell 10 rfl
  go_enter Try.func96, Try.ntmps96
  go_wp2_with fail
  refine (HP.out _ HV.out).mono ?_
  rintro e w2 ⟨u, rfl, ho, hb⟩
  have HV := Lib.hid (HV.out.call hb)
  replace hX := hX.call hb
  replace hB := belI_call hB hb
  have hrd := RdI.of_own ho
  clear e0 e1 e2 e3 e4 e5 e6 e7 e8 e9 e10
  obtain ⟨A2, c2, hu⟩ := hrd.form
  subst hu
  rw [← Hn.out] at hrd ⊢
  have hb3 := belI_box w2 (.cells #[.int .i64 X, .int .i64 Y, .slice A2 n c2] 35)
  have hI := ImAt.new w2 35 X Y (.slice A2 n c2)
  obtain ⟨i0, i1, i2⟩ := hI.cells
  obtain ⟨bi, hbi⟩ : ∃ b, b = w2.heap.size := ⟨_, rfl⟩
  obtain ⟨w3, hw3⟩ : ∃ W, W = w2.alloc (.cells #[.int .i64 X, .int .i64 Y, .slice A2 n c2] 35) := ⟨_, rfl⟩
  have Hw3 := Lib.hid hw3
  have Hbi := Lib.hid hbi
  have HI := Lib.hid (show ImAt w3 bi 35 X Y (.slice A2 n c2) by rw [hw3, hbi]; exact hI)
  have HR := Lib.hid (show RdI w3 _ _ by rw [hw3]; exact hrd.call hb3)
  have HX := Lib.hid (show BkAt w3 _ _ _ by rw [hw3]; exact hX.call hb3)
  have HV := Lib.hid (show RdI w3 _ _ by rw [hw3]; exact HV.out.call hb3)
  have HB := Lib.hid (show Below w.heap.size w w3 by rw [hw3]; exact belI_call hB hb3)
  clear hX hB hb ho hrd hb3 hI hw3 hbi
  go_wp2_with fail
  rw [← Hw3.out, ← Hbi.out]
  clear i0 i1 i2
  go_loopg [4] n (fun gg s4 wr => ∃ k : Nat, k ≤ n ∧ n - k ≤ gg ∧ s4 = .int .i64 k ∧ Hid (∀ (j : Nat) (p : Int), j < k → L[j]? = some p → chan p 0 = 255) ∧ wr = w3)
  case atStart => exact ⟨0, Nat.zero_le _, by omega, rfl, Lib.hid (fun j x h => by omega), rfl⟩
  case round =>
    obtain ⟨k, hk, hgg, rfl, Hall, rfl⟩ := hrel
    obtain ⟨_, _, i2⟩ := HI.out.cells
    by_cases hlt : k < n
    · obtain ⟨g, x, rfl, hx, hc⟩ := HR.out.at_ (k := k) (by rw [← Hn.out]; exact hlt)
      have Hx := Lib.hid hx
      have HK := fun W => chS_any x 0 W
      have k0 : (0 : Int) ≤ (k : Int) := by omega
      have k1 : (k : Int) < (n : Int) := by omega
      clear hx
      by_cases hch : chan x 0 = 255
      · rw [hch] at HK
        have Hch := Lib.hid hch
        have HK := Lib.hid HK
        clear hch
        go_wp2_with fail
        refine (HK.out _).mono ?_
        rintro e w4 ⟨rfl, rfl⟩
        clear hc
        go_wp2_with fail
        go_roundg (n - (k + 1))
        case measure => omega
        case rel =>
          refine ⟨k + 1, by omega, by omega, by go_num, Lib.hid (fun j y hj hy => ?_), rfl⟩
          by_cases e : j < k
          · exact Hall.out j y e hy
          · obtain rfl : j = k := by omega
            rw [Hx.out] at hy
            rw [← Option.some.inj hy]
            exact Hch.out
      · have Hq := Lib.hid (Hno.out fun h => hch (h k x Hx.out))
        obtain ⟨y, hy⟩ : ∃ y, y = chan x 0 := ⟨_, rfl⟩
        rw [← hy] at HK hch
        have HK := Lib.hid HK
        clear hy
        go_wp2_with fail
        refine (HK.out _).mono ?_
        rintro e w4 ⟨rfl, rfl⟩
        clear hc
        go_wp2_with fail
        go_ret
        exact ⟨ret_bool Hq.out.symm, HB.out⟩
    · obtain rfl : k = n := by omega
      have Hq := Lib.hid (Hy.out fun j p hj => Hall.out j p (by rw [Hn.out]; exact (List.getElem?_eq_some_iff.1 hj).1) hj)
      have hX := HX.out
      have e0 := hX.cell 0 rfl
      have e1 := hX.cell 1 rfl
      have e2 := hX.cell 2 rfl
      have e3 := hX.cell 3 rfl
      have e4 := hX.cell 4 rfl
      have e5 := hX.cell 5 rfl
      have e6 := hX.cell 6 rfl
      have e7 := hX.cell 7 rfl
      have e8 := hX.cell 8 rfl
      have e9 := hX.cell 9 rfl
      have e10 := hX.cell 10 rfl
      go_wp2_with fail
      refine (HC.out _ HV.out).mono ?_
      rintro e w5 ⟨rfl, hb⟩
      have HB2 := Lib.hid (belI_call HB.out hb)
      clear e0 e1 e2 e3 e4 e5 e6 e7 e8 e9 e10
      clear hb hX
      go_wp2_with fail
      go_ret
      exact ⟨ret_bool Hq.out, HB2.out⟩
end Go.Proofs.Ytfolphadhmgbiaa
