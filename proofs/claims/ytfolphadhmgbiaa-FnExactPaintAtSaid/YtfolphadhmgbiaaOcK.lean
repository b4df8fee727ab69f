/- The contracts of CoverOf and PaintCost of the program. No statement is proved here. -/
import Derived.Test.YtfolphadhmgbiaaMA
import Derived.Test.YtfolphadhmgbiaaMB
import Derived.Test.YtfolphadhmgbiaaSlE
import Derived.Test.YtfolphadhmgbiaaSnO
import Derived.Test.YtfolphadhmgbiaaMC
import Derived.Test.YtfolphadhmgbiaaSfP
import Derived.Test.YtfolphadhmgbiaaSnS
import Derived.Test.YtfolphadhmgbiaaOcM
import Derived.Test.YtfolphadhmgbiaaPlH
import Derived.Test.YtfolphadhmgbiaaPlW
import Derived.Test.YtfolphadhmgbiaaOcI
import Derived.Test.YtfolphadhmgbiaaOcJ
import Derived.Test.YtfolphadhmgbiaaProg
import Derived.WalkKit
import Derived.ProofKit
import Derived.OpenShut
import Derived.WalkLawsBesides
import Derived.WalkSpells
import Derived.ShutString
import Derived.ChangeOld
import Derived.Below
import Derived.Lib.Hide
import Derived.BigQuiet
import Derived.Deep.QuietTactic
import Derived.Maps.AppendAt
import Derived.Deep.OwnRows
import Derived.Handy
import Derived.Deep.Draws
import Derived.OwnWalk
import Derived.Deep.AppendLies
import Derived.Deep.LoopGhost
import Derived.Deep.Onto
import Derived.Deep.MidRow
import Derived.Deep.WholeRow
import Derived.Laws.BitsAllLaws
import Derived.Lib.QuoteBits
import Derived.Deep.RegionHeld3
import Derived.Deep.DeepCutAuto
import Derived.Test.YtfolphadhmgbiaaShelf
import Derived.Laws.CopyOwn
import Derived.Deep.RegionLaw
import Derived.Great.BuildSlice
import Derived.Shelf.RegionOpenPlain
import Derived.Lib.SliceRun
import Derived.Deep.RegionWith
import Derived.Laws.AppendOwn
import Derived.ChangeKeysEq
import Derived.Deep.DeepAppendRoom
namespace Go.Proofs.Ytfolphadhmgbiaa
open Go.RowKit
theorem plL_drop (W H : Int) (fs : List Sf) (j : Nat) : (plL W H fs).drop j = plL W H (fs.drop j) := by unfold plL; rw [List.map_drop]
theorem plL_small (W H : Int) (fs : List Sf) : ∀ p ∈ plL W H fs, p.2.length ≤ 256 := fun p hp => by
  unfold plL at hp
  obtain ⟨f, _, rfl⟩ := List.mem_map.1 hp
  exact canon_len _
/-- A region is answered. -/
def RgQ (Q : List Rc) (w : World) (e : Ending) (w' : World) : Prop := ∃ v, e = .returned (.agg #[v]) ∧ w'.ownsRow w.heap.size 49 4 v Q.length (rcsCells Q) ∧ Below w.heap.size w w'
theorem RgQ.of_rof {L Q : List Rc} {w : World} {e : Ending} {w' : World} (h : RofAns L w e w') (hq : canon (gridOf L) = Q) : RgQ Q w e w' := by subst hq; exact h
/-- What a slice of a slice is. -/
theorem HalfP.from {B : Nat} {w : World} {M : List Pl} {g N : Nat} {bs : List Nat} (h : HalfP B w M (.slice (some ⟨g, 0, none⟩) N N) bs) (j : Nat) : RdP w (.slice (some ⟨g, j * 12, none⟩) (N - j) (N - j)) (M.drop j) := h.drop j _ _ (by rw [List.length_drop, ← h.len])
theorem HalfP.none {B : Nat} {w : World} {M : List Pl} {g N : Nat} {bs : List Nat} (h : HalfP B w M (.slice (some ⟨g, 0, none⟩) N N) bs) (A : Option Addr) (c : Nat) : RdP w (.slice A 0 c) (M.drop N) := by
  rw [List.drop_of_length_le (by rw [← h.len]; exact Nat.le_refl _)]
  exact RdP.nil w A c
structure CvT (w : World) (s : Sn) (v : Value) (bs : List Nat) (V : World) : Prop where
  a : SnA w.heap.size s v bs V
  x : BxR V (w.heap.size + 1)
  bw : Below w.heap.size w V
theorem CvT.call {w : World} {s : Sn} {v : Value} {bs : List Nat} {V V' : World} (h : CvT w s v bs V) (hb : Below V.heap.size V V') : CvT w s v bs V' := ⟨h.a.call hb, (hb.block _ h.x.lt).trans h.x, belI_call h.bw hb⟩
theorem CvT.born {w : World} {s : Sn} {v : Value} {bs : List Nat} (h : repSfs.R w s.fs [v] bs) : CvT w s v bs ((w.alloc (.cells #[.int .i64 s.w, .int .i64 s.h, .int .i64 s.back, v] 26)).alloc (.cells #[.slice none 0 0] 79)) :=
  ⟨(SnA.born h).call (belI_box _ _), by have := heap_alloc_new (w.alloc (.cells #[.int .i64 s.w, .int .i64 s.h, .int .i64 s.back, v] 26)) (.cells #[.slice none 0 0] 79); unfold BxR; simpa using this, belI_call (belI_box _ _) (belI_box _ _)⟩
theorem CvT.res {w : World} {s : Sn} {v : Value} {bs : List Nat} {V : World} (h : CvT w s v bs V) : V.cell? ⟨w.heap.size + 1, 0, none⟩ = some (.slice none 0 0) ∧ V.frozen? ⟨w.heap.size + 1, 0, none⟩ = false := by
  constructor
  · simp [World.cell?, show V.heap[w.heap.size + 1]? = _ from h.x]
  · simp [World.frozen?, show V.heap[w.heap.size + 1]? = _ from h.x]
theorem rg_zero {w V : World} (h : Below w.heap.size w V) : RgQ [] w (.returned (.agg #[.slice none 0 0])) (V.setCell ⟨w.heap.size + 1, 0, none⟩ (.slice none 0 0)) :=
  ⟨_, rfl, ⟨rfl, .inl ⟨rfl, rfl⟩⟩, h.setCell (by simp) _⟩
set_option maxHeartbeats 2000000 in
set_option maxRecDepth 10000 in
theorem covI (s : Sn) (k : Int) (v : Value) (bs : List Nat) (w : World) (h : repSfs.R w s.fs [v] bs) : Calls Try.prog 48 #[.agg #[.int .i64 s.w, .int .i64 s.h, .int .i64 s.back, v], .int .i64 k] w (RgQ (covM s k) w) := by
  have hT := CvT.born h
  have HS := fun W h => snI s v bs W h
  unfold SnOkAns at HS
  obtain ⟨⟨A, c, rfl⟩, hml⟩ := repSfs_form h
  obtain ⟨d0, d1, d2, d3⟩ := hT.a.cells
  obtain ⟨r0, r1⟩ := hT.res
  by_cases hs : snOk s
  · rw [snB_yes hs] at HS
    have HS := Lib.hid HS
    obtain ⟨N, hNe⟩ : ∃ N, N = s.fs.length := ⟨_, rfl⟩
    have hN6 : N ≤ 6 := by rw [hNe]; exact hs.2.2.1
    rw [← hNe] at hml hT HS d3 ⊢
    have HN := Lib.hid hNe
    have Hs := Lib.hid hs
    by_cases hk : -1 ≤ k ∧ k ≤ (N : Int) - 1
    · obtain ⟨j, rfl⟩ : ∃ j : Nat, k = (j : Int) - 1 := ⟨(k + 1).toNat, by omega⟩
      have hj : j ≤ N := by omega
      have HA : Hid (covM s ((j : Int) - 1) = ocC s.w s.h (s.fs.drop j)) := Lib.hid (by
        rw [covM_yes ⟨hs, hk.1, by rw [← hNe]; exact hk.2⟩, show ((j : Int) - 1 + 1).toNat = j by omega])
      have Hk := Lib.hid hk
      have HP := Lib.hid (fun W h => plsI s (.slice A N c) bs W (by rw [← hNe]; exact hN6) h)
      unfold PlsAns at HP
      rw [← hNe] at HP
      have q0 : IntKind.i64.wrap ((N : Int) - 1) = (N : Int) - 1 := wrap_in _ (by omega) (by omega)
      have q1 : IntKind.i64.wrap ((j : Int) - 1 + 1) = (j : Int) := by rw [wrap_in _ (by omega) (by omega)]; omega
      clear hs hNe hk
      go_enter Try.func48, Try.ntmps48
      go_wp2_with fail
      refine (HS.out _ hT.a.r).mono ?_
      rintro e w1 ⟨rfl, hb⟩
      replace hT := hT.call hb
      clear d0 d1 d2 d3 r0 r1 hb
      obtain ⟨d0, d1, d2, d3⟩ := hT.a.cells
      go_wp2_with fail
      refine (inI_yes _ _ _ _ Hk.out.1 Hk.out.2).mono ?_
      rintro e w2 ⟨rfl, rfl⟩
      go_wp2_with fail
      refine (HP.out _ hT.a.r).mono ?_
      rintro e w3 ⟨g, cs, rfl, hP, hcs, hg, hb⟩
      replace hT := hT.call hb
      clear d0 d1 d2 d3 hb
      have j0 : (0 : Int) ≤ (j : Int) := by omega
      have j1 : (j : Int) ≤ (N : Int) := by omega
      have HF := fun (u : Value) (hu : RdP w3 u ((plL s.w s.h s.fs).drop j)) => (cbI ((plL s.w s.h s.fs).drop j) u w3 (by rw [List.length_drop, plL_len, ← HN.out]; omega) (fun p hp => plL_small _ _ _ p (List.mem_of_mem_drop hp)) hu).mono (fun e w' h => RgQ.of_rof h (Q := ocC s.w s.h (s.fs.drop j)) (by rw [plL_drop, cbQ_pl, ocQ_C]))
      obtain ⟨Q, hQ⟩ : ∃ Q, Q = ocC s.w s.h (s.fs.drop j) := ⟨_, rfl⟩
      rw [← hQ] at HF HA
      unfold RgQ at HF
      have HF := Lib.hid HF
      have HPP := Lib.hid hP
      have HT := Lib.hid hT
      clear hP hcs hQ
      rcases Nat.lt_or_ge j N with hjn | hjn
      · have he : ¬ N = j := by omega
        have hd := Lib.hid (HPP.out.from j)
        go_wp2_with fail
        refine (HF.out _ hd.out).mono ?_
        rintro e w4 ⟨z, rfl, hown, hb⟩
        obtain ⟨Az, cz, rfl⟩ := own_shape hown
        have hl := HT.out.x.lt
        have HT2 := Lib.hid (HT.out.call hb)
        obtain ⟨r0, r1⟩ := HT2.out.res
        have Hown := Lib.hid hown
        clear hown hb hT
        go_wp2_with fail
        refine bodyPost_ret (v := .agg #[.slice Az Q.length cz]) (by simp [results, Try.results48, go_sem, r0]) rfl ?_
        rw [HA.out]
        exact ⟨_, rfl, own_set Hown.out (by omega) (by omega) _, HT2.out.bw.setCell (by simp) _⟩
      · obtain rfl : j = N := by omega
        have hd := Lib.hid (fun A c => HPP.out.none A c)
        go_wp2_with fail
        refine (HF.out _ (hd.out _ _)).mono ?_
        rintro e w4 ⟨z, rfl, hown, hb⟩
        obtain ⟨Az, cz, rfl⟩ := own_shape hown
        have hl := HT.out.x.lt
        have HT2 := Lib.hid (HT.out.call hb)
        obtain ⟨r0, r1⟩ := HT2.out.res
        have Hown := Lib.hid hown
        clear hown hb hT
        go_wp2_with fail
        refine bodyPost_ret (v := .agg #[.slice Az Q.length cz]) (by simp [results, Try.results48, go_sem, r0]) rfl ?_
        rw [HA.out]
        exact ⟨_, rfl, own_set Hown.out (by omega) (by omega) _, HT2.out.bw.setCell (by simp) _⟩
    · have HA := Lib.hid (covM_no (s := s) (k := k) fun h => hk ⟨h.2.1, by rw [hNe]; exact h.2.2⟩)
      have q0 : IntKind.i64.wrap ((N : Int) - 1) = (N : Int) - 1 := wrap_in _ (by omega) (by omega)
      have Hk : Hid (k < -1 ∨ (N : Int) - 1 < k) := Lib.hid (by omega)
      clear hs hNe hk
      go_enter Try.func48, Try.ntmps48
      go_wp2_with fail
      refine (HS.out _ hT.a.r).mono ?_
      rintro e w1 ⟨rfl, hb⟩
      replace hT := hT.call hb
      clear d0 d1 d2 d3 r0 r1 hb
      obtain ⟨d0, d1, d2, d3⟩ := hT.a.cells
      obtain ⟨r0, r1⟩ := hT.res
      go_wp2_with fail
      refine (inI_no _ _ _ _ Hk.out).mono ?_
      rintro e w2 ⟨rfl, rfl⟩
      go_wp2_with fail
      refine bodyPost_ret (v := .agg #[.slice none 0 0]) (by simp [results, Try.results48, go_sem, r0]) rfl ?_
      rw [HA.out]
      exact rg_zero hT.bw
  · rw [snB_no hs] at HS
    have HS := Lib.hid HS
    have HA := Lib.hid (covM_no (s := s) (k := k) fun h => hs h.1)
    clear hs
    go_enter Try.func48, Try.ntmps48
    go_wp2_with fail
    refine (HS.out _ hT.a.r).mono ?_
    rintro e w1 ⟨rfl, hb⟩
    replace hT := hT.call hb
    clear d0 d1 d2 d3 r0 r1 hb
    obtain ⟨r0, r1⟩ := hT.res
    go_wp2_with fail
    refine bodyPost_ret (v := .agg #[.slice none 0 0]) (by simp [results, Try.results48, go_sem, r0]) rfl ?_
    rw [HA.out]
    exact rg_zero hT.bw
end Go.Proofs.Ytfolphadhmgbiaa
