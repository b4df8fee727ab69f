/- The contract of impl.canonicalForm. No statement is proved here. -/
import Derived.Test.YtfehdcenmncbpabRd
import Derived.Test.YtfehdcenmncbpabRectC
import Derived.Test.YtfehdcenmncbpabFrame
import Derived.Test.YtfehdcenmncbpabBlk4
import Derived.Test.YtfehdcenmncbpabRegM
import Derived.Test.YtfehdcenmncbpabGrid
import Derived.Test.YtfehdcenmncbpabHasC
import Derived.Test.YtfehdcenmncbpabRectEq
import Derived.Test.YtfehdcenmncbpabRds
import Derived.Test.YtfehdcenmncbpabRegP
import Derived.Test.YtfehdcenmncbpabCanS
import Derived.Test.YtfehdcenmncbpabRunP
import Derived.Test.YtfehdcenmncbpabRunI
import Derived.Test.YtfehdcenmncbpabSrB
import Derived.Test.YtfehdcenmncbpabAppN
import Derived.Test.YtfehdcenmncbpabProg
import Derived.WalkKit
import Derived.ProofKit
import Derived.OpenShut
import Derived.WalkLawsBesides
import Derived.WalkSpells
import Derived.ShutString
import Derived.ChangeOld
import Derived.Below
import Derived.Lib.Hide
import Derived.BigQuiet
import Derived.Deep.QuietTactic
import Derived.Maps.AppendAt
import Derived.Deep.Draws
import Derived.Deep.MidRow
import Derived.Deep.WholeRow
import Derived.Deep.OwnRows
import Derived.Deep.RegionHeld3
import Derived.Deep.DeepCutAuto
import Derived.OwnWalk
import Derived.Deep.AppendLies
import Derived.Deep.Onto
import Derived.Deep.LoopGhost
import Derived.Laws.AppendOwn
namespace Go.Proofs.Ytfehdcenmncbpab
open Go.RowKit
/-- The memory in the loops of canonicalForm. -/
structure CiSt (w : World) (g : Nat → Bool) (v : Value) (L : List Rc) (wr : World) : Prop where
  gr : GrAt wr w.heap.size 80 g
  rs : wr.heap[w.heap.size + 1]? = some (.cells #[.slice none 0 0] 34 (0, 0))
  own : wr.ownsRow (w.heap.size + 2) 31 4 v L.length (rcsCells L)
  bw : Below w.heap.size w wr
theorem CiSt.drewN {w wr : World} {g : Nat → Bool} {v : Value} {L : List Rc} (h : CiSt w g v L wr) (q : Nat) : CiSt w g v L (wr.drewN q) :=
  ⟨h.gr.drewN q, h.rs, own_drewN h.own q, below_drewN h.bw q⟩
theorem CiSt.size {w wr : World} {g : Nat → Bool} {v : Value} {L : List Rc} (h : CiSt w g v L wr) : w.heap.size + 1 < wr.heap.size := (Array.getElem?_eq_some_iff.1 h.rs).1
theorem CiSt.call {w wr w' : World} {g : Nat → Bool} {v : Value} {L : List Rc} (h : CiSt w g v L wr) (hb : Below wr.heap.size wr w') : CiSt w g v L w' :=
  ⟨h.gr.below hb h.gr.lt, (hb.block _ h.size).trans h.rs, own_below h.own hb (Nat.le_refl _), h.bw.trans (hb.mono h.bw.size)⟩
theorem CiSt.next {w wr w2 : World} {g : Nat → Bool} {v v' : Value} {L M : List Rc} (h : CiSt w g v L wr)
    (hown : w2.ownsRow (w.heap.size + 2) 31 4 v' (L.length + M.length) (rcsCells L ++ rcsCells M)) (hgr : wr.grownBy w2 v.ownBlock) : CiSt w g v' (L ++ M) w2 := by
  have hlow : ∀ k, k < w.heap.size + 2 → some k ≠ v.ownBlock := fun k hk e => by have := (h.own.lt k e.symm).1; omega
  refine ⟨h.gr.grown hgr (hlow _ (by omega)), (hgr.block _ h.size (hlow _ (by omega))).trans h.rs, ?_, h.bw.grown hgr h.bw.size (fun k hk => by have := (h.own.lt k hk).1; omega)⟩
  rw [List.length_append, rcsCells_append]
  exact hown
theorem runI' (g : Nat → Bool) (y h : Nat) (hi : Int) (e : hi = (h : Int)) (w : World) : Calls Try.prog 103 #[.agg (rowCells g y), .int .i64 y, .int .i64 hi] w (RunAns g y h w) := by
  subst e
  exact runI g y h w
set_option maxHeartbeats 2000000 in
set_option maxRecDepth 10000 in
theorem canI (g : Nat → Bool) (w : World) : Calls Try.prog 59 #[.agg (gCells g)] w (CanAns g w) := by
  obtain ⟨i0, hi, hz0, hz1, hz2⟩ := info_parts infoRect
  have hS0 : CiSt w g (.slice none 0 0) [] ((w.alloc (.cells (gCells g) 80)).alloc (.cells #[.slice none 0 0] 34)) :=
    ⟨(GrAt.new _ _ _).alloc _, by have := heap_alloc_new (w.alloc (.cells (gCells g) 80)) (.cells #[.slice none 0 0] 34); simpa using this,
      World.ownsRow_nil _ _ _ _, ((Below.refl _ _).alloc (Nat.le_refl _) _).alloc (by simp) _⟩
  go_enter Try.func59, Try.ntmps59
  go_wp2_with fail
  go_loopg [3, 4] 16 (fun gk s3 i wr => ∃ (y : Nat) (L : List Rc), y ≤ 16 ∧ gk = 16 - y ∧ i = .int .i64 y ∧ Hid (canon g = L ++ bands g y) ∧ CiSt w g s3 L wr)
  case atStart => exact ⟨0, [], Nat.zero_le _, rfl, rfl, Lib.hid rfl, hS0⟩
  case round =>
    clear hS0
    obtain ⟨y, L, hy, rfl, rfl, hB, hS⟩ := hrel
    by_cases hy16 : y < 16
    · have hy16i : (y : Int) < 16 := by omega
      have hy0 : (0 : Int) ≤ (y : Int) := by omega
      go_wp2_with fail
      go_loopg [5] 15 (fun g2 i2 wy => ∃ h : Nat, 1 ≤ h ∧ y + h ≤ 16 ∧ g2 = 16 - h ∧ i2 = .int .i64 ((y : Int) + (h : Int)) ∧ Hid (bandFrom g y h = bandH g y) ∧ CiSt w g u3 L wy)
      case atStart => exact ⟨1, Nat.le_refl _, by omega, by omega, by go_num, Lib.hid rfl, hS⟩
      case round =>
        clear hS
        obtain ⟨h, hh1, hh2, rfl, rfl, hH, hS⟩ := hrel
        by_cases hc : y + h < 16 ∧ rowEq g y (y + h) = true
        · have hyh := hc.1
          have hyi : (y : Int) + (h : Int) < 16 := by omega
          have hyi0 : (0 : Int) ≤ (y : Int) + (h : Int) := by omega
          have Hre := Lib.hid hc.2
          clear hc
          have hsr : ∀ q, Calls Try.prog 102 #[.slice (some ⟨w.heap.size, (y + h) * 16, none⟩) 16 16, .slice (some ⟨w.heap.size, y * 16, none⟩) 16 16] (wr.drewN q) fun e w' => e = .returned (.bool true) ∧ ∃ m, w' = (wr.drewN q).drewN m := fun q => by
            have := srB w.heap.size g y (y + h) (by omega) (by omega) 16 16 (wr.drewN q) (hS.gr.drewN q)
            rw [Hre.out] at this
            exact this
          have Hsr := Lib.hid hsr
          clear hsr
          have hba : ((y : Int) + (h : Int)).toNat = y + h := by omega
          go_wp2_with fail
          go_quiet ((go_at_call 102; refine Calls.quiet_of (Hsr.out _)))
          go_wp2_with fail
          rename_i nq
          go_roundg (16 - (h + 1))
          case measure => omega
          case rel => exact ⟨h + 1, by omega, by omega, rfl, by go_num, Lib.hid ((bandFrom_go hyh Hre.out).symm.trans hH.out), hS.drewN _⟩
        · have hbh : bandH g y = h := hH.out.symm.trans (bandFrom_stop hc)
          have hB2 : Hid (canon g = (L ++ runs g y h 0) ++ bands g (y + h)) := Lib.hid (by rw [hB.out, bands_open g y h hy16 hbh, List.append_assoc])
          have hlen : L.length + (runs g y h 0).length ≤ 256 := by have := canon_part hB2.out; rwa [List.length_append] at this
          have Hc := Lib.hid hc
          clear hc hB hH hbh
          (by_cases hyh : y + h < 16)
          (have hyi : (y : Int) + (h : Int) < 16 := by omega
           have hyi0 : (0 : Int) ≤ (y : Int) + (h : Int) := by omega
           have hre : rowEq g y (y + h) = false := by
            rcases e : rowEq g y (y + h) with _ | _
            · rfl
            · exact absurd ⟨hyh, e⟩ Hc.out
           have Hre := Lib.hid hre
           clear hre
           have hsr : ∀ q, Calls Try.prog 102 #[.slice (some ⟨w.heap.size, (y + h) * 16, none⟩) 16 16, .slice (some ⟨w.heap.size, y * 16, none⟩) 16 16] (wr.drewN q) fun e w' => e = .returned (.bool false) ∧ ∃ m, w' = (wr.drewN q).drewN m := fun q => by
            have := srB w.heap.size g y (y + h) (by omega) (by omega) 16 16 (wr.drewN q) (hS.gr.drewN q)
            rw [Hre.out] at this
            exact this
           have Hsr := Lib.hid hsr
           clear hsr
           have hba : ((y : Int) + (h : Int)).toNat = y + h := by omega
           go_wp2_with fail
           go_quiet ((go_at_call 102; refine Calls.quiet_of (Hsr.out _)))
           rename_i nq
           have hS := hS.drewN nq
           clear Hsr hba hyi0 hyi)
          · skip
            go_upto_region 7 with fail
            iterate 12 (first | (refine wp_load_gridrow (.tmp 25) rfl w.heap.size y g _ hy16 rfl hS.gr ?_) | go_step)
            go_wp2_with fail
            refine (runI' g y h ((y : Int) + (h : Int) - (y : Int)) (by omega) _).mono ?_
            rintro e w2 ⟨vr, rfl, hownr, hbr⟩
            have hS := hS.call hbr
            go_wp2_with (at_builtin; refine wpList_append_row rfl _ _ 32 rfl (w.heap.size + 2) _ 31 i0 (.agg #[.int .i64 0, .int .i64 0, .int .i64 0, .int .i64 0]) 4 32 Try.underlying32 hi hz0 hz1 hz2 rfl (by decide) _ _ _ rfl hS.own _ _ _ rfl hownr (rcs_one _) (by unfold maxLen; omega) (by omega) (by have := hS.size; omega) ?_)
            intro v2 w3 hown3 hgrow
            have hS := hS.next hown3 hgrow
            clear hown3 hgrow hownr hbr
            go_wp2_with fail
            go_roundg (16 - (y + h))
            case measure => omega
            case rel => exact ⟨y + h, L ++ runs g y h 0, by omega, rfl, by go_num, hB2, hS⟩
          · skip
            (have hyi : ¬ (y : Int) + (h : Int) < 16 := by omega
             go_wp2_with fail
             have hyd : ((y : Int) + (h : Int) < 16) = False := by apply eq_false; omega
             go_quiet (fail)
             rename_i nq
             have hS := hS.drewN nq
             clear hyi hyd)
            go_upto_region 7 with fail
            iterate 12 (first | (refine wp_load_gridrow (.tmp 25) rfl w.heap.size y g _ hy16 rfl hS.gr ?_) | go_step)
            go_wp2_with fail
            refine (runI' g y h ((y : Int) + (h : Int) - (y : Int)) (by omega) _).mono ?_
            rintro e w2 ⟨vr, rfl, hownr, hbr⟩
            have hS := hS.call hbr
            go_wp2_with (at_builtin; refine wpList_append_row rfl _ _ 32 rfl (w.heap.size + 2) _ 31 i0 (.agg #[.int .i64 0, .int .i64 0, .int .i64 0, .int .i64 0]) 4 32 Try.underlying32 hi hz0 hz1 hz2 rfl (by decide) _ _ _ rfl hS.own _ _ _ rfl hownr (rcs_one _) (by unfold maxLen; omega) (by omega) (by have := hS.size; omega) ?_)
            intro v2 w3 hown3 hgrow
            have hS := hS.next hown3 hgrow
            clear hown3 hgrow hownr hbr
            go_wp2_with fail
            go_roundg (16 - (y + h))
            case measure => omega
            case rel => exact ⟨y + h, L ++ runs g y h 0, by omega, rfl, by go_num, hB2, hS⟩
    · have hy16i : ¬ (y : Int) < 16 := by omega
      have hB2 : L = canon g := by rw [hB.out, bands_end g y (by omega), List.append_nil]
      obtain ⟨A, cv, hv⟩ := (RdR.of_own hS.own).form
      subst hv
      have rc : wr.cell? ⟨w.heap.size + 1, 0, none⟩ = some (.slice none 0 0) := by have := hS.rs; simp [World.cell?, this]
      have rf : wr.frozen? ⟨w.heap.size + 1, 0, none⟩ = false := by have := hS.rs; simp [World.frozen?, this]
      have hsz := hS.size
      have HB2 := Lib.hid hB2
      clear hB2
      go_wp2_with fail
      exact bodyPost_ret (v := .agg #[.slice A L.length cv]) (by simp [results, Try.results59, go_sem, rc]) rfl ⟨_, rfl, by
        have h1 := (hS.own.mono (show w.heap.size ≤ w.heap.size + 2 by omega)).kept (row := some (w.heap.size + 1)) (grown_setc wr _ 0 (.slice A L.length cv)) (by
          by_cases hv : (Value.slice A L.length cv).ownBlock = none
          · exact .inl hv
          · refine .inr fun e => ?_
            have := (hS.own.lt _ e).1
            omega)
        rw [← HB2.out]
        exact h1, hS.bw.setCell (by simp) _⟩
end Go.Proofs.Ytfehdcenmncbpab
