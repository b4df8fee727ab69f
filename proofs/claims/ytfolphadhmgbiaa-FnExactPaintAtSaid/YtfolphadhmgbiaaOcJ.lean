/- The contract of coverBy of the program. No statement is proved here. -/
import Derived.Test.YtfolphadhmgbiaaMA
import Derived.Test.YtfolphadhmgbiaaMB
import Derived.Test.YtfolphadhmgbiaaSlE
import Derived.Test.YtfolphadhmgbiaaMC
import Derived.Test.YtfolphadhmgbiaaSfP
import Derived.Test.YtfolphadhmgbiaaSnS
import Derived.Test.YtfolphadhmgbiaaSfQ
import Derived.Test.YtfolphadhmgbiaaOcM
import Derived.Test.YtfolphadhmgbiaaPlH
import Derived.Test.YtfolphadhmgbiaaPlW
import Derived.Test.YtfolphadhmgbiaaOcI
import Derived.Test.YtfolphadhmgbiaaProg
import Derived.WalkKit
import Derived.ProofKit
import Derived.OpenShut
import Derived.WalkLawsBesides
import Derived.WalkSpells
import Derived.ShutString
import Derived.ChangeOld
import Derived.Below
import Derived.Lib.Hide
import Derived.BigQuiet
import Derived.Deep.QuietTactic
import Derived.Maps.AppendAt
import Derived.Deep.OwnRows
import Derived.Handy
import Derived.Deep.Draws
import Derived.OwnWalk
import Derived.Deep.AppendLies
import Derived.Deep.LoopGhost
import Derived.Deep.Onto
import Derived.Deep.MidRow
import Derived.Deep.WholeRow
import Derived.Laws.BitsAllLaws
import Derived.Lib.QuoteBits
import Derived.Deep.RegionHeld3
import Derived.Deep.DeepCutAuto
import Derived.Test.YtfolphadhmgbiaaShelf
import Derived.Laws.CopyOwn
import Derived.Deep.RegionLaw
import Derived.Great.BuildSlice
import Derived.Shelf.RegionOpenPlain
import Derived.Lib.SliceRun
import Derived.Deep.RegionWith
import Derived.Laws.AppendOwn
import Derived.ChangeKeysEq
import Derived.Deep.DeepAppendRoom
namespace Go.Proofs.Ytfolphadhmgbiaa
open Go.RowKit
/-- The rectangles of the regions of the opaque ones. -/
noncomputable def cbQ (M : List Pl) : List Rc := (M.filter fun p => sfOpq p.1).flatMap fun p => p.2
theorem cbQ_nil : cbQ [] = [] := rfl
theorem cbQ_take {M : List Pl} {k : Nat} {p : Pl} (h : M[k]? = some p) : cbQ (M.take (k + 1)) = cbQ (M.take k) ++ (if sfOpq p.1 = true then p.2 else []) := by
  unfold cbQ
  rw [List.take_add_one, h, Option.toList_some, List.filter_append, List.flatMap_append]
  congr 1
  by_cases h : sfOpq p.1 = true <;> simp [h]
theorem cbQ_len {M : List Pl} (hM : ∀ p ∈ M, p.2.length ≤ 256) (k : Nat) : (cbQ (M.take k)).length ≤ k * 256 := by
  induction k with
  | zero => rw [List.take_zero, cbQ_nil]; simp
  | succ k ih =>
    rcases h : M[k]? with _ | p
    · rw [List.take_add_one, h]
      simp only [Option.toList_none, List.append_nil]
      exact Nat.le_trans ih (Nat.mul_le_mul_right _ (Nat.le_succ k))
    · rw [cbQ_take h, List.length_append, Nat.succ_mul]
      refine Nat.add_le_add ih ?_
      split
      · exact hM p (List.mem_of_getElem? h)
      · exact Nat.zero_le _
theorem cbQ_pl (W H : Int) (fs : List Sf) : cbQ (plL W H fs) = ocQ W H fs := by
  unfold cbQ plL ocQ
  rw [List.filter_map, List.flatMap_map]
  rfl
theorem info2_rc : ∃ i0, Try.prog.info? 49 = some i0 ∧ i0.zero = some (.agg #[.int .i64 0, .int .i64 0, .int .i64 0, .int .i64 0]) ∧ i0.size = 4 ∧ i0.bytes = 32 := by
  obtain ⟨i0, hi, h0, h1, h2⟩ := info_parts infoRect
  exact ⟨i0, hi, h0, h1, h2⟩
/-- The memory of coverBy. -/
structure CbT (w : World) (u : Value) (L : List Rc) (V : World) : Prop where
  x : BxR V w.heap.size
  r : V.ownsRow (w.heap.size + 1) 49 4 u L.length (rcsCells L)
  bw : Below w.heap.size w V
theorem CbT.call {w : World} {u : Value} {L : List Rc} {V V' : World} (h : CbT w u L V) (hb : Below V.heap.size V V') : CbT w u L V' := ⟨(hb.block _ h.x.lt).trans h.x, own_call2 h.r hb, belI_call h.bw hb⟩
theorem CbT.grown {w : World} {u u' : Value} {L L' : List Rc} {V V' : World} (h : CbT w u L V) (hr : V'.ownsRow (w.heap.size + 1) 49 4 u' L'.length (rcsCells L')) (hg : V.grownBy V' u.ownBlock) : CbT w u' L' V' := by
  have hlo : ∀ k, u.ownBlock = some k → w.heap.size + 1 ≤ k := fun k hk => (own_ltB h.r k (by rw [hk]; simp)).1
  refine ⟨(hg.block _ h.x.lt fun e => by have := hlo _ e.symm; omega).trans h.x, hr, (Chg.of_grown hg).below h.bw h.bw.size fun b hb => ?_⟩
  have := hlo b (by simpa using hb)
  omega
set_option maxHeartbeats 2000000 in
set_option maxRecDepth 10000 in
theorem cbI (M : List Pl) (v : Value) (w : World) (hM : M.length ≤ 6) (hL : ∀ p ∈ M, p.2.length ≤ 256) (h : RdP w v M) : Calls Try.prog 101 #[v] w (RofAns (cbQ M) w) := by
  obtain ⟨i0, hi, hz0, hz1, hz2⟩ := info2_rc
  obtain ⟨A, c, rfl⟩ := h.form
  obtain ⟨N, hNe⟩ : ∃ N, N = M.length := ⟨_, rfl⟩
  rw [← hNe] at hM h ⊢
  have HN := Lib.hid hNe
  have HL := Lib.hid hL
  have HR := Lib.hid h
  have HC := Lib.hid (fun k => cbQ_len hL k)
  have hT : CbT w (.slice none 0 0) [] (w.alloc (.cells #[.slice none 0 0] 79)) := ⟨heap_alloc_new w _, World.ownsRow_nil _ _ _ _, belI_box _ _⟩
  have HT := Lib.hid hT
  have HF := Lib.hid (fun W u L h => rofI u L W h)
  unfold RofAns at HF
  have HI := Lib.hid (fun (W : World) (f : Sf) (d : Value) (h : RdI W d f.data) => isoI f d W h)
  unfold IsoAns at HI
  clear hNe hL h hT
  go_enter Try.func101, Try.ntmps101
  go_wp2_with fail
  go_loopg [3, 8] N (fun gk s3 s8 wr => ∃ (k : Nat) (u3 : Value) (V : World), V = wr ∧ k ≤ N ∧ gk = N - k ∧ s3 = u3 ∧ s8 = .int .i64 k ∧ Hid (CbT w u3 (cbQ (M.take k)) V))
  case atStart => exact ⟨0, _, _, rfl, Nat.zero_le _, by omega, rfl, rfl, HT⟩
  case round =>
    clear HT
    obtain ⟨k, u3, V, hV, hk, rfl, rfl, rfl, HT⟩ := hrel
    subst hV
    by_cases hlt : k < N
    · obtain ⟨g, o, p, u, d, rfl, hp, hC, hE⟩ := (HR.out.call HT.out.bw).at_ (k := k) (by rw [← HN.out]; exact hlt)
      obtain ⟨f, L⟩ := p
      dsimp only at hC hE
      obtain ⟨Au, cu, rfl⟩ := own_shape hE.r
      obtain ⟨Ad, cd, rfl⟩ := hE.d.form
      dsimp only at hE hC
      obtain ⟨c0, c1, c2, c3, c4, c5, c6, c7, c8, c9, c10, c11⟩ := hC
      obtain ⟨V1, hV1⟩ : ∃ V1, V1 = V.alloc (.cells #[.slice Au L.length cu, .int .i64 f.id, .int .i64 f.x, .int .i64 f.y, .int .i64 f.w, .int .i64 f.h, .int .i64 f.alpha, .int .i64 f.orient, .bool f.vis, .int .i64 f.bw, .int .i64 f.bh, .slice Ad f.data.length cd] 127) := ⟨_, rfl⟩
      obtain ⟨bp, hbp⟩ : ∃ b, b = V.heap.size := ⟨_, rfl⟩
      have hbx : Below V.heap.size V V1 := by rw [hV1]; exact belI_box _ _
      have hX : BkAt V1 bp 127 #[.slice Au L.length cu, .int .i64 f.id, .int .i64 f.x, .int .i64 f.y, .int .i64 f.w, .int .i64 f.h, .int .i64 f.alpha, .int .i64 f.orient, .bool f.vis, .int .i64 f.bw, .int .i64 f.bh, .slice Ad f.data.length cd] := by rw [hV1, hbp]; exact BkAt.new _ _ _
      have HT1 := Lib.hid (HT.out.call hbx)
      have hE1 := hE.call hbx
      have HI1 := HI.out V1 f _ hE1.d
      have Hp := Lib.hid hp
      have Hl : Hid (L.length ≤ 256) := Lib.hid (HL.out (f, L) (List.mem_of_getElem? hp))
      have HX := Lib.hid hX
      have HE1 := Lib.hid hE1
      have HV1 := Lib.hid hV1
      have Hbp := Lib.hid hbp
      have k0 : (0 : Int) ≤ (k : Int) := by omega
      have k1 : (k : Int) < (N : Int) := by omega
      have Hck := Lib.hid (HC.out k)
      clear hp hE hV1 hbp hbx hX HT hE1
      rcases ho : sfOpq f with _ | _
      · rw [ho] at HI1
        have HI1 := Lib.hid HI1
        have Ho := Lib.hid ho
        clear ho
        go_wp2_with fail
        rw [← HV1.out]
        refine HI1.out.mono ?_
        rintro e w2 ⟨rfl, hb⟩
        clear c0 c1 c2 c3 c4 c5 c6 c7 c8 c9 c10 c11
        have HT2 : Hid (CbT w u3 (cbQ (M.take (k + 1))) w2) := Lib.hid (by rw [cbQ_take Hp.out, Ho.out]; simpa using HT1.out.call hb)
        clear hb
        go_wp2_with fail
        go_roundg (N - (k + 1))
        case measure => omega
        case rel => exact ⟨k + 1, _, _, rfl, by omega, rfl, rfl, by go_num, HT2⟩
      · rw [ho] at HI1
        have HI1 := Lib.hid HI1
        have Ho := Lib.hid ho
        clear ho
        go_wp2_with fail
        rw [← HV1.out, ← Hbp.out]
        refine HI1.out.mono ?_
        rintro e w2 ⟨rfl, hb⟩
        clear c0 c1 c2 c3 c4 c5 c6 c7 c8 c9 c10 c11
        have HT2 := Lib.hid (HT1.out.call hb)
        have x0 := (HX.out.call hb).cell 0 rfl
        have HE2 := Lib.hid (HE1.out.call hb)
        have hq1 := HT2.out.bw.size
        have hl2 : (cbQ (M.take k)).length + L.length ≤ 3000 := by have := Hck.out; have := Hl.out; omega
        clear hb HT1 HE1 HX
        go_wp2_with (at_builtin; refine wpList_append_row rfl _ _ 77 rfl (w.heap.size + 1) 0 49 i0 (.agg #[.int .i64 0, .int .i64 0, .int .i64 0, .int .i64 0]) 4 32 Try.underlying77 hi hz0 hz1 hz2 rfl (by decide) u3 (cbQ (M.take k)).length (rcsCells (cbQ (M.take k))) rfl HT2.out.r _ L.length (rcsCells L) rfl HE2.out.r (rcs_one _) (by unfold maxLen; omega) (by omega) (by have := HT2.out.x.lt; omega) ?_)
        intro v2 w3 hown3 hgr
        have HT3 : Hid (CbT w v2 (cbQ (M.take (k + 1))) w3) := Lib.hid (HT2.out.grown (by rw [cbQ_take Hp.out, Ho.out, if_pos rfl, rcsCells_append, List.length_append]; exact hown3) hgr)
        clear hown3 hgr HT2 HE2 x0
        go_wp2_with fail
        go_roundg (N - (k + 1))
        case measure => omega
        case rel => exact ⟨k + 1, _, _, rfl, by omega, rfl, rfl, by go_num, HT3⟩
    · obtain rfl : k = N := by omega
      have hni : ¬ (k : Int) < (k : Int) := by omega
      have hfull : M.take k = M := List.take_of_length_le (by rw [← HN.out]; exact Nat.le_refl _)
      have hT := HT.out
      rw [hfull] at hT
      have HT := Lib.hid hT
      obtain ⟨Q, hQ⟩ : ∃ Q, Q = canon (gridOf (cbQ M)) := ⟨_, rfl⟩
      have HF1 := HF.out V u3 (cbQ M) (RdR.of_own hT.r)
      rw [← hQ] at HF1
      have HF1 := Lib.hid HF1
      have HQ := Lib.hid hQ
      clear hT hfull hQ
      go_wp2_with fail
      refine HF1.out.mono ?_
      rintro e w2 ⟨z, rfl, hown, hb⟩
      obtain ⟨Az, cz, rfl⟩ := own_shape hown
      have HT2 := Lib.hid (HT.out.call hb)
      have hlt2 := HT.out.x.lt
      have rc : w2.cell? ⟨w.heap.size, 0, none⟩ = some (.slice none 0 0) := by simp [World.cell?, show w2.heap[w.heap.size]? = _ from HT2.out.x]
      have rf : w2.frozen? ⟨w.heap.size, 0, none⟩ = false := by simp [World.frozen?, show w2.heap[w.heap.size]? = _ from HT2.out.x]
      have Hown := Lib.hid hown
      clear hown hb
      go_wp2_with fail
      refine bodyPost_ret (v := .agg #[.slice Az Q.length cz]) (by simp [results, Try.results101, go_sem, rc]) rfl ?_
      unfold RofAns
      rw [← HQ.out]
      exact ⟨_, rfl, own_set Hown.out (by omega) (by omega) _, HT2.out.bw.setCell (Nat.le_refl _) _⟩
end Go.Proofs.Ytfolphadhmgbiaa
