/- Texts of mine in one file: AppN, CanI, SameI, RgnC, Sq, ImV, Rok, ImP, InR, OriC, PixI, SfI, SfL, RectD, ComP, RegD, BoundI, FormA, OriQ, OriP, SclM, PixA, PixB, OverS, OverI, Big. No statement is proved here. -/
import Derived.Test.YtokniebejilcbaaGreatMA
import Derived.Test.YtokniebejilcbaaGreatProg
import Derived.WalkKit
import Derived.ProofKit
import Derived.OpenShut
import Derived.WalkLawsBesides
import Derived.WalkSpells
import Derived.ShutString
import Derived.ChangeOld
import Derived.Below
import Derived.Lib.Hide
import Derived.Laws.AppendOwn
import Derived.OwnWalk
import Derived.BigQuiet
import Derived.Deep.QuietTactic
import Derived.Maps.AppendAt
import Derived.Deep.Draws
import Derived.Deep.MidRow
import Derived.Deep.WholeRow
import Derived.Deep.OwnRows
import Derived.Deep.RegionHeld3
import Derived.Deep.DeepCutAuto
import Derived.Deep.AppendLies
import Derived.Deep.Onto
import Derived.Deep.LoopGhost
import Derived.Handy
import Derived.Laws.BitsAllLaws
import Derived.Lib.QuoteBits
import Derived.Deep.RegionWith
import Derived.Great.BuildSlice
import Derived.ChangeKeysEq
namespace Go.Proofs.YtokniebejilcbaaGreat
theorem run_append_none {P : Program} (w : World) (base : Nat) (t ty e : TypeId) (i : TypeInfo) (size : Nat) (ht : P.underlying t = some (.slice e)) (hi : P.info? e = some i)
  (v : Value) (n : Nat) (xs : List Value) (hown : w.ownsRow base e size v n xs) :
  (Builtin.append_ #[t, t] ty #[v, .slice none 0 0]).run P w = .ok v w := by
 rcases hown.2 with ⟨rfl, rfl⟩ | ⟨g, cap, cur, rfl, _, _, hn, _, _, _⟩
 ·simp [Builtin.append_, run_underlying ht, sizeOf, typeInfo, hi, Builtin.lenOf, Builtin.firstCells]
 ·simp [Builtin.append_, run_underlying ht, sizeOf, typeInfo, hi, Builtin.lenOf, Builtin.firstCells, loadCells, storeCells, hn]
theorem wpList_append_row {P : Program} {ops : Array Oper} {rest : List Oper} {o : Oper} {a : Act} {w : World} {Q : Exit → Act → World → Prop} (hgd : o.guard = none) (s x : Operand) (t : TypeId)
  (ho : o.op = .call { callee := .builtin .append, args := #[s, x], argTypes := #[t, t] })
  (base base' : Nat) (e : TypeId) (i : TypeInfo) (z : Value) (size bytes : Nat) (ht : P.underlying t = some (.slice e)) (hi : P.info? e = some i) (hz : i.zero = some z)
  (hsize : i.size = size) (hby : i.bytes = bytes) (hzs : z.cells.size = size) (hsz : 0 < size)
  (v : Value) (n : Nat) (xs : List Value) (hs : a.eval s = v) (hown : w.ownsRow base e size v n xs)
  (u : Value) (m : Nat) (news : List Value) (hx : a.eval x = u) (hu : w.ownsRow base' e size u m news) (h1 : ∀ u ∈ news, u.oneCell' = true)
  (h63 : n + m ≤ maxLen) (hbytes : (n + m) * bytes ≤ 140737488355328) (hbase : base ≤ w.heap.size)
  (h : ∀ v' w', w'.ownsRow base e size v' (n + m) (xs ++ news) → w.grownBy w' v.ownBlock → wpList P ops Q rest (a.put o.dst v') w') : wpList P ops Q (o :: rest) a w := by
 rcases hu.2 with ⟨rfl, rfl⟩ | ⟨g, cap, cur, rfl, _, _, hn, _, _, _⟩
 ·have hnil : news = [] := List.eq_nil_of_length_eq_zero (by have := hu.1; omega)
  subst hnil
  refine wpList_plain hgd fun K hK => ?_
  have hr := run_append_none w base t o.type e i size ht hi v n xs hown
  unfold Oper.wp execOp
  simp only [ho, resolve, invoke, builtin, Sem.run_bind, Sem.run_pure, Result.andThen_ok, List.map_toArray, List.map_cons, List.map_nil, hs, hx, hr]
  refine hK _ _ (h v w (by simpa using hown) ⟨rfl, rfl, rfl, Nat.le_refl _, fun _ _ _ => rfl⟩)
 ·exact wpList_append_own w hgd s x t ho base e i z size bytes ht hi hz hsize hby hzs hsz v n xs hs hown ⟨g, 0, none⟩ m cap news hx hu.1 (hu.cells rfl) h1 h63 hbytes hbase (fun v' w' h2 h3 _ => h v' w' h2 h3)
end Go.Proofs.YtokniebejilcbaaGreat
namespace Go.Proofs.YtokniebejilcbaaGreat
open Go.RowKit
structure CiSt (w : World) (g : Nat → Bool) (v : Value) (L : List Rc) (wr : World) : Prop where
 gr : GrAt wr w.heap.size 118 g
 rs : wr.heap[w.heap.size + 1]? = some (.cells #[.slice none 0 0] 30 (0, 0))
 own : wr.ownsRow (w.heap.size + 2) 111 4 v L.length (rcsCells L)
 bw : Below w.heap.size w wr
theorem CiSt.drewN {w wr : World} {g : Nat → Bool} {v : Value} {L : List Rc} (h : CiSt w g v L wr) (q : Nat) : CiSt w g v L (wr.drewN q) :=
 ⟨h.gr.drewN q, h.rs, own_drewN h.own q, below_drewN h.bw q⟩
theorem CiSt.size {w wr : World} {g : Nat → Bool} {v : Value} {L : List Rc} (h : CiSt w g v L wr) : w.heap.size + 1 < wr.heap.size := (Array.getElem?_eq_some_iff.1 h.rs).1
theorem CiSt.call {w wr w' : World} {g : Nat → Bool} {v : Value} {L : List Rc} (h : CiSt w g v L wr) (hb : Below wr.heap.size wr w') : CiSt w g v L w' :=
 ⟨h.gr.below hb h.gr.lt, (hb.block _ h.size).trans h.rs, own_below h.own hb (Nat.le_refl _), h.bw.trans (hb.mono h.bw.size)⟩
theorem CiSt.next {w wr w2 : World} {g : Nat → Bool} {v v' : Value} {L M : List Rc} (h : CiSt w g v L wr)
  (hown : w2.ownsRow (w.heap.size + 2) 111 4 v' (L.length + M.length) (rcsCells L ++ rcsCells M)) (hgr : wr.grownBy w2 v.ownBlock) : CiSt w g v' (L ++ M) w2 := by
 have hlow : ∀ k, k < w.heap.size + 2 → some k ≠ v.ownBlock := fun k hk e => by have := (h.own.lt k e.symm).1; omega
 refine ⟨h.gr.grown hgr (hlow _ (by omega)), (hgr.block _ h.size (hlow _ (by omega))).trans h.rs, ?_, h.bw.grown hgr h.bw.size (fun k hk => by have := (h.own.lt k hk).1; omega)⟩
 rw [List.length_append, rcsCells_append]
 exact hown
theorem runI' (g : Nat → Bool) (y h : Nat) (hi : Int) (e : hi = (h : Int)) (w : World) : Calls Tryz.prog 150 #[.agg (rowCells g y), .int .i64 y, .int .i64 hi] w (RunAns g y h w) := by
 subst e
 exact runI g y h w
set_option maxHeartbeats 2000000 in
set_option maxRecDepth 10000 in
theorem canI (g : Nat → Bool) (w : World) : Calls Tryz.prog 72 #[.agg (gCells g)] w (CanAns g w) := by
  obtain ⟨i0, hi, hz0, hz1, hz2⟩ := info_parts infoRect
  have hS0 : CiSt w g (.slice none 0 0) [] ((w.alloc (.cells (gCells g) 118)).alloc (.cells #[.slice none 0 0] 30)) :=
    ⟨(GrAt.new _ _ _).alloc _, by have := heap_alloc_new (w.alloc (.cells (gCells g) 118)) (.cells #[.slice none 0 0] 30); simpa using this,
      World.ownsRow_nil _ _ _ _, ((Below.refl _ _).alloc (Nat.le_refl _) _).alloc (by simp) _⟩
  go_enter Tryz.func72, Tryz.ntmps72
  go_wp2_with fail
  go_loopg [3, 4] 16 (fun gk s3 i wr => ∃ (y : Nat) (L : List Rc), y ≤ 16 ∧ gk = 16 - y ∧ i = .int .i64 y ∧ Hid (canon g = L ++ bands g y) ∧ CiSt w g s3 L wr)
  case atStart => exact ⟨0, [], Nat.zero_le _, rfl, rfl, Lib.hid rfl, hS0⟩
  case round =>
    clear hS0
    obtain ⟨y, L, hy, rfl, rfl, hB, hS⟩ := hrel
    by_cases hy16 : y < 16
    · have hy16i : (y : Int) < 16 := by omega
      have hy0 : (0 : Int) ≤ (y : Int) := by omega
      go_wp2_with fail
      go_loopg [5] 15 (fun g2 i2 wy => ∃ h : Nat, 1 ≤ h ∧ y + h ≤ 16 ∧ g2 = 16 - h ∧ i2 = .int .i64 ((y : Int) + (h : Int)) ∧ Hid (bandFrom g y h = bandH g y) ∧ CiSt w g u3 L wy)
      case atStart => exact ⟨1, Nat.le_refl _, by omega, by omega, by go_num, Lib.hid rfl, hS⟩
      case round =>
        clear hS
        obtain ⟨h, hh1, hh2, rfl, rfl, hH, hS⟩ := hrel
        by_cases hc : y + h < 16 ∧ rowEq g y (y + h) = true
        · have hyh := hc.1
          have hyi : (y : Int) + (h : Int) < 16 := by omega
          have hyi0 : (0 : Int) ≤ (y : Int) + (h : Int) := by omega
          have Hre := Lib.hid hc.2
          clear hc
          have hsr : ∀ q, Calls Tryz.prog 149 #[.slice (some ⟨w.heap.size, (y + h) * 16, none⟩) 16 16, .slice (some ⟨w.heap.size, y * 16, none⟩) 16 16] (wr.drewN q) fun e w' => e = .returned (.bool true) ∧ ∃ m, w' = (wr.drewN q).drewN m := fun q => by
            have := srB w.heap.size g y (y + h) (by omega) (by omega) 16 16 (wr.drewN q) (hS.gr.drewN q)
            rw [Hre.out] at this
            exact this
          have Hsr := Lib.hid hsr
          clear hsr
          have hba : ((y : Int) + (h : Int)).toNat = y + h := by omega
          go_wp2_with fail
          go_quiet ((go_at_call 149; refine Calls.quiet_of (Hsr.out _)))
          go_wp2_with fail
          rename_i nq
          go_roundg (16 - (h + 1))
          case measure => omega
          case rel => exact ⟨h + 1, by omega, by omega, rfl, by go_num, Lib.hid ((bandFrom_go hyh Hre.out).symm.trans hH.out), hS.drewN _⟩
        · have hbh : bandH g y = h := hH.out.symm.trans (bandFrom_stop hc)
          have hB2 : Hid (canon g = (L ++ runs g y h 0) ++ bands g (y + h)) := Lib.hid (by rw [hB.out, bands_open g y h hy16 hbh, List.append_assoc])
          have hlen : L.length + (runs g y h 0).length ≤ 256 := by have := canon_part hB2.out; rwa [List.length_append] at this
          have Hc := Lib.hid hc
          clear hc hB hH hbh
          (by_cases hyh : y + h < 16)
          (have hyi : (y : Int) + (h : Int) < 16 := by omega
           have hyi0 : (0 : Int) ≤ (y : Int) + (h : Int) := by omega
           have hre : rowEq g y (y + h) = false := by
            rcases e : rowEq g y (y + h) with _ | _
            · rfl
            · exact absurd ⟨hyh, e⟩ Hc.out
           have Hre := Lib.hid hre
           clear hre
           have hsr : ∀ q, Calls Tryz.prog 149 #[.slice (some ⟨w.heap.size, (y + h) * 16, none⟩) 16 16, .slice (some ⟨w.heap.size, y * 16, none⟩) 16 16] (wr.drewN q) fun e w' => e = .returned (.bool false) ∧ ∃ m, w' = (wr.drewN q).drewN m := fun q => by
            have := srB w.heap.size g y (y + h) (by omega) (by omega) 16 16 (wr.drewN q) (hS.gr.drewN q)
            rw [Hre.out] at this
            exact this
           have Hsr := Lib.hid hsr
           clear hsr
           have hba : ((y : Int) + (h : Int)).toNat = y + h := by omega
           go_wp2_with fail
           go_quiet ((go_at_call 149; refine Calls.quiet_of (Hsr.out _)))
           rename_i nq
           have hS := hS.drewN nq
           clear Hsr hba hyi0 hyi)
          · skip
            go_upto_region 7 with fail
            iterate 12 (first | (refine wp_load_gridrow (.tmp 25) rfl w.heap.size y g _ hy16 rfl hS.gr ?_) | go_step)
            go_wp2_with fail
            refine (runI' g y h ((y : Int) + (h : Int) - (y : Int)) (by omega) _).mono ?_
            rintro e w2 ⟨vr, rfl, hownr, hbr⟩
            have hS := hS.call hbr
            go_wp2_with (at_builtin; refine wpList_append_row rfl _ _ 28 rfl (w.heap.size + 2) _ 111 i0 (.agg #[.int .i64 0, .int .i64 0, .int .i64 0, .int .i64 0]) 4 32 Tryz.underlying28 hi hz0 hz1 hz2 rfl (by decide) _ _ _ rfl hS.own _ _ _ rfl hownr (rcs_one _) (by unfold maxLen; omega) (by omega) (by have := hS.size; omega) ?_)
            intro v2 w3 hown3 hgrow
            have hS := hS.next hown3 hgrow
            clear hown3 hgrow hownr hbr
            go_wp2_with fail
            go_roundg (16 - (y + h))
            case measure => omega
            case rel => exact ⟨y + h, L ++ runs g y h 0, by omega, rfl, by go_num, hB2, hS⟩
          · skip
            (have hyi : ¬ (y : Int) + (h : Int) < 16 := by omega
             go_wp2_with fail
             have hyd : ((y : Int) + (h : Int) < 16) = False := by apply eq_false; omega
             go_quiet (fail)
             rename_i nq
             have hS := hS.drewN nq
             clear hyi hyd)
            go_upto_region 7 with fail
            iterate 12 (first | (refine wp_load_gridrow (.tmp 25) rfl w.heap.size y g _ hy16 rfl hS.gr ?_) | go_step)
            go_wp2_with fail
            refine (runI' g y h ((y : Int) + (h : Int) - (y : Int)) (by omega) _).mono ?_
            rintro e w2 ⟨vr, rfl, hownr, hbr⟩
            have hS := hS.call hbr
            go_wp2_with (at_builtin; refine wpList_append_row rfl _ _ 28 rfl (w.heap.size + 2) _ 111 i0 (.agg #[.int .i64 0, .int .i64 0, .int .i64 0, .int .i64 0]) 4 32 Tryz.underlying28 hi hz0 hz1 hz2 rfl (by decide) _ _ _ rfl hS.own _ _ _ rfl hownr (rcs_one _) (by unfold maxLen; omega) (by omega) (by have := hS.size; omega) ?_)
            intro v2 w3 hown3 hgrow
            have hS := hS.next hown3 hgrow
            clear hown3 hgrow hownr hbr
            go_wp2_with fail
            go_roundg (16 - (y + h))
            case measure => omega
            case rel => exact ⟨y + h, L ++ runs g y h 0, by omega, rfl, by go_num, hB2, hS⟩
    · have hy16i : ¬ (y : Int) < 16 := by omega
      have hB2 : L = canon g := by rw [hB.out, bands_end g y (by omega), List.append_nil]
      obtain ⟨A, cv, hv⟩ := (RdR.of_own hS.own).form
      subst hv
      have rc : wr.cell? ⟨w.heap.size + 1, 0, none⟩ = some (.slice none 0 0) := by have := hS.rs; simp [World.cell?, this]
      have rf : wr.frozen? ⟨w.heap.size + 1, 0, none⟩ = false := by have := hS.rs; simp [World.frozen?, this]
      have hsz := hS.size
      have HB2 := Lib.hid hB2
      clear hB2
      go_wp2_with fail
      exact bodyPost_ret (v := .agg #[.slice A L.length cv]) (by simp [results, Tryz.results72, go_sem, rc]) rfl ⟨_, rfl, by
        have h1 := (hS.own.mono (show w.heap.size ≤ w.heap.size + 2 by omega)).kept (row := some (w.heap.size + 1)) (grown_setc wr _ 0 (.slice A L.length cv)) (by
          by_cases hv : (Value.slice A L.length cv).ownBlock = none
          · exact .inl hv
          · refine .inr fun e => ?_
            have := (hS.own.lt _ e).1
            omega)
        rw [← HB2.out]
        exact h1, hS.bw.setCell (by simp) _⟩
end Go.Proofs.YtokniebejilcbaaGreat
namespace Go.Proofs.YtokniebejilcbaaGreat
open Go.RowKit
open Classical in
noncomputable def sameL (L M : List Rc) : Bool := decide (L = M)
open Classical in
theorem sameL_yes {L M : List Rc} (h : L = M) : sameL L M = true := by unfold sameL; exact decide_eq_true h
open Classical in
theorem sameL_no {L M : List Rc} (h : ¬ L = M) : sameL L M = false := by unfold sameL; exact decide_eq_false h
set_option maxHeartbeats 1000000 in
set_option maxRecDepth 10000 in
theorem sameI (v u : Value) (L M : List Rc) (w : World) (hv : RdR w v L) (hu : RdR w u M) :
  Calls Tryz.prog 77 #[v, u] w fun e w' => e = .returned (.bool (sameL L M)) ∧ ∃ q, w' = w.drewN q := by
 obtain ⟨A, c, rfl⟩ := hv.form
 obtain ⟨A', c', rfl⟩ := hu.form
 have hn1 : L.length ≤ 9223372036854775807 := by have := hv.len; unfold maxLen at this; omega
 have hn2 : M.length ≤ 9223372036854775807 := by have := hu.len; unfold maxLen at this; omega
 by_cases hlen : L.length = M.length
 ·obtain ⟨n, hn⟩ : ∃ n, n = L.length := ⟨_, rfl⟩
  rw [← hlen] at hu ⊢
  rw [← hn] at hn1 hv hu ⊢
  have Hn := Lib.hid hn
  have Hlen := Lib.hid hlen
  have Hv := Lib.hid hv
  have Hu := Lib.hid hu
  clear hlen hn2 hn hv hu
  go_enter Tryz.func77, Tryz.ntmps77
  go_wp2_with fail
  go_loopw [13] (fun i wr => ∃ k : Nat, k ≤ n ∧ i = .int .i64 k ∧ (∀ j, j < k → L[j]? = M[j]?) ∧ ∃ q, wr = w.drewN q) (fun i _ => n - (intOf i).toNat)
  case atStart => exact ⟨0, Nat.zero_le _, rfl, fun j hj => by omega, 0, rfl⟩
  case round =>
   obtain ⟨k, hk, rfl, hall, q, rfl⟩ := hrel
   have Hall := Lib.hid hall
   clear hall
   by_cases hlt : k < n
   ·obtain ⟨ga, r, rfl, hr, hC⟩ := Hv.out.at_ (k := k) (by rw [← Hn.out]; exact hlt)
    obtain ⟨gb, s, rfl, hs, hD⟩ := Hu.out.at_ (k := k) (by rw [← Hlen.out, ← Hn.out]; exact hlt)
    have Hr := Lib.hid hr
    have Hs := Lib.hid hs
    obtain ⟨a0, a1, a2, a3⟩ := hC.cells
    obtain ⟨b0, b1, b2, b3⟩ := hD.cells
    clear hr hs hC hD
    have k0 : (0 : Int) ≤ (k : Int) := by omega
    have k1 : (k : Int) < (n : Int) := by omega
    rcases rc_cases r s with ⟨hq, e0, e1, e2, e3⟩ | ⟨hq, hq'⟩
    ·have Hq := Lib.hid hq
     clear hq
     go_wp2_with fail
     go_quiet (fail)
     go_wp2_with fail
     rename_i nq
     go_roundw
     case rel =>
      refine ⟨k + 1, by omega, by go_num, fun j hj => ?_, _, rfl⟩
      by_cases e : j < k
      ·exact Hall.out j e
      ·obtain rfl : j = k := by omega
       rw [Hr.out, Hs.out, Hq.out]
     case measure => simp [intOf]; omega
    ·have hne : sameL L M = false := sameL_no fun e => hq (by have h1 := Hr.out; rw [e, Hs.out] at h1; injection h1 with h1; exact h1.symm)
     have Hne := Lib.hid hne
     clear hne hq
     rcases hq' with e0 | ⟨e0, e1⟩ | ⟨e0, e1, e2⟩ | ⟨e0, e1, e2, e3⟩
     ·go_wp2_with fail
      go_quiet (fail)
      go_wp2_with fail
      go_ret
      exact ⟨ret_bool Hne.out.symm, q + _, by first | rfl | exact World.drewN_drewN _ _ _⟩
     ·go_wp2_with fail
      go_quiet (fail)
      go_wp2_with fail
      go_ret
      exact ⟨ret_bool Hne.out.symm, q + _, by first | rfl | exact World.drewN_drewN _ _ _⟩
     ·go_wp2_with fail
      go_quiet (fail)
      go_wp2_with fail
      go_ret
      exact ⟨ret_bool Hne.out.symm, q + _, by first | rfl | exact World.drewN_drewN _ _ _⟩
     ·go_wp2_with fail
      go_quiet (fail)
      go_wp2_with fail
      go_ret
      exact ⟨ret_bool Hne.out.symm, q + _, by first | rfl | exact World.drewN_drewN _ _ _⟩
   ·obtain rfl : k = n := by omega
    have heq : L = M := List.ext_getElem? fun j => by
     by_cases e : j < k
     ·exact Hall.out j e
     ·rw [List.getElem?_eq_none (by rw [← Hn.out]; omega), List.getElem?_eq_none (by rw [← Hlen.out, ← Hn.out]; omega)]
    have Heq := Lib.hid (sameL_yes heq)
    clear heq
    go_wp2_with fail
    go_ret
    exact ⟨ret_bool Heq.out.symm, _, rfl⟩
 ·have Hne := Lib.hid (sameL_no (fun e : L = M => hlen (by rw [e])))
  have hb : ((L.length : Int) != (M.length : Int)) = true := by rw [bne_iff_ne]; omega
  go_enter Tryz.func77, Tryz.ntmps77
  go_wp2_with fail
  go_ret
  exact ⟨ret_bool Hne.out.symm, 0, rfl⟩
end Go.Proofs.YtokniebejilcbaaGreat
namespace Go.Proofs.YtokniebejilcbaaGreat
open Go.RowKit
def RofAns (L : List Rc) (w : World) (e : Ending) (w' : World) : Prop :=
 ∃ v, e = .returned (.agg #[v]) ∧ w'.ownsRow w.heap.size 111 4 v (canon (gridOf L)).length (rcsCells (canon (gridOf L))) ∧ Below w.heap.size w w'
theorem rg_cell {w w' : World} {o : Obj} (h : Below (w.alloc o).heap.size (w.alloc o) w') {v : Value} (ho : o = .cells #[v] 30) : w'.heap[w.heap.size]? = some (.cells #[v] 30 (0, 0)) := by
 subst ho
 exact (h.block _ (by simp)).trans (heap_alloc_new w _)
theorem own_shape {w : World} {B n : Nat} {e : TypeId} {v : Value} {xs : List Value} (h : w.ownsRow B e 4 v n xs) : ∃ A c, v = .slice A n c := by
 rcases h.2 with ⟨rfl, rfl⟩ | ⟨g, cap, cur, rfl, _⟩
 ·exact ⟨none, 0, rfl⟩
 ·exact ⟨_, _, rfl⟩
theorem own_set {w : World} {B B' n g : Nat} {e : TypeId} {v : Value} {xs : List Value} (h : w.ownsRow B' e 4 v n xs) (hB : B ≤ B') (hg : g < B') (u : Value) : (w.setCell ⟨g, 0, none⟩ u).ownsRow B e 4 v n xs :=
 (h.mono hB).kept (row := some g) (grown_setc w _ 0 u) (by
  by_cases hv : v.ownBlock = none
  ·exact .inl hv
  ·refine .inr fun e => ?_
   have := (h.lt _ e).1
   omega)
set_option maxHeartbeats 1000000 in
set_option maxRecDepth 10000 in
theorem rofI (v : Value) (L : List Rc) (w : World) (h : RdR w v L) : Calls Tryz.prog 66 #[v] w (RofAns L w) := by
 have h1 := h.alloc (.cells #[.slice none 0 0] 30)
 have H := Lib.hid h1
 clear h h1
 go_enter Tryz.func66, Tryz.ntmps66
 go_wp2_with fail
 refine (gridI v L _ H.out).mono ?_
 rintro e w1 ⟨rfl, hb1⟩
 go_wp2_with fail
 refine (canI (gridOf L) _).mono ?_
 rintro e w2 ⟨u, rfl, hown, hb2⟩
 have hz := hb1.size
 have hh := rg_cell (hb1.trans (hb2.mono hb1.size)) rfl
 have hw := ((Below.refl w.heap.size w).alloc (Nat.le_refl _) (.cells #[.slice none 0 0] 30)).trans ((hb1.trans (hb2.mono hb1.size)).mono (by simp))
 obtain ⟨A, c, hu⟩ := own_shape hown
 subst hu
 have rc : w2.cell? ⟨w.heap.size, 0, none⟩ = some (.slice none 0 0) := by simp [World.cell?, hh]
 have rf : w2.frozen? ⟨w.heap.size, 0, none⟩ = false := by simp [World.frozen?, hh]
 have Hown := Lib.hid hown
 simp at hz
 clear hown hb1 hb2 hh
 go_wp2_with fail
 exact bodyPost_ret (v := .agg #[.slice A (canon (gridOf L)).length c]) (by simp [results, Tryz.results66, go_sem, rc]) rfl ⟨_, rfl, own_set Hown.out (by omega) (by omega) _, hw.setCell (by simp) _⟩
noncomputable def okL (L : List Rc) : Bool := sameL (canon (gridOf L)) L
end Go.Proofs.YtokniebejilcbaaGreat
namespace Go.Proofs.YtokniebejilcbaaGreat
open Go.RowKit
theorem zPa {α : Type} (l : List α) (i : Nat) (a : α) : l.toArray.setIfInBounds i a = (l.set i a).toArray := List.setIfInBounds_toArray l i a
theorem zPb {α : Type} {x : α} {xs : List α} {a : α} : (x :: xs).set 0 a = a :: xs := rfl
theorem zPc {α : Type} {x : α} {xs : List α} {i : Nat} {a : α} : (x :: xs).set (i + 1) a = x :: xs.set i a := rfl
theorem zGa {α : Type} {xs : List α} {i : Nat} (h : i < xs.toArray.size) : xs.toArray[i]'h = xs[i]'(by simpa using h) := rfl
theorem zGb {α : Type} (a : α) (l : List α) (i : Nat) (h : i + 1 < (a :: l).length) : getElem (a :: l) (i + 1) h = getElem l i (Nat.lt_of_succ_lt_succ h) := rfl
theorem zGc {α : Type} (a : α) (l : List α) (h : 0 < (a :: l).length) : getElem (a :: l) 0 h = a := rfl
theorem tkH {P : Program} {ops : Array Oper} {Q : Exit → Act → World → Prop} {md : Region.Mode} {S : World → Prop} {i : Nat} {oi : Oper} {v : Value} {fuel : Nat} {listed : Array Bool} {a : Act} {w : World} (hi : ops[i]? = some oi)
    (h : wpAnyH P md ops Q S fuel (listed.setIfInBounds i true) (a.put oi.dst v) w)
    (hs : Region.noSelect ops = true := by kernel_rfl) (hf : Region.free md ops listed i = true := by kernel_rfl) (hr : (Region.ready md ops listed).contains i = true := by kernel_rfl)
    (hQ : ∀ c a w, Q (.panic c) (a.put oi.dst v) w → Q (.panic c) a w := by exact fun _ _ _ h => h) (hw : Region.wanted oi (yielded ops a.tmps) = true := by kernel_rfl)
    (hy : ∀ w', S w' → (execOp a.eval oi).run P w' = .ok (.value v) w' := by intro w' hSw; (try dsimp only at hSw); go_simp) (hS : S w := by assumption) : wpAnyH P md ops Q S (fuel + 1) listed a w :=
  wpAnyH_take hi hs hf hr hQ (Or.inl ⟨hw, hy⟩) hS h
theorem tcH {P : Program} {ops : Array Oper} {Q : Exit → Act → World → Prop} {md : Region.Mode} {S : World → Prop} {i : Nat} {oi : Oper} {v : Value} {fuel : Nat} {listed : Array Bool} {a : Act} {w : World} (hi : ops[i]? = some oi)
    (hy : ∀ w', S w' → (execOp a.eval oi).run P w' = .ok (.value v) w') (h : wpAnyH P md ops Q S fuel (listed.setIfInBounds i true) (a.put oi.dst v) w)
    (hs : Region.noSelect ops = true := by kernel_rfl) (hf : Region.free md ops listed i = true := by kernel_rfl) (hr : (Region.ready md ops listed).contains i = true := by kernel_rfl)
    (hQ : ∀ c a w, Q (.panic c) (a.put oi.dst v) w → Q (.panic c) a w := by exact fun _ _ _ h => h) (hw : Region.wanted oi (yielded ops a.tmps) = true := by kernel_rfl)
    (hS : S w := by assumption) : wpAnyH P md ops Q S (fuel + 1) listed a w :=
  wpAnyH_take hi hs hf hr hQ (Or.inl ⟨hw, hy⟩) hS h
theorem tnH {P : Program} {ops : Array Oper} {Q : Exit → Act → World → Prop} {md : Region.Mode} {S : World → Prop} {i : Nat} {oi : Oper} {fuel : Nat} {listed : Array Bool} {a : Act} {w : World} (hi : ops[i]? = some oi)
    (h : wpAnyH P md ops Q S fuel (listed.setIfInBounds i true) (a.put oi.dst undef) w)
    (hs : Region.noSelect ops = true := by kernel_rfl) (hf : Region.free md ops listed i = true := by kernel_rfl) (hr : (Region.ready md ops listed).contains i = true := by kernel_rfl)
    (hQ : ∀ c a w, Q (.panic c) (a.put oi.dst undef) w → Q (.panic c) a w := by exact fun _ _ _ h => h) (hw : Region.wanted oi (yielded ops a.tmps) = false := by kernel_rfl)
    (hS : S w := by assumption) : wpAnyH P md ops Q S (fuel + 1) listed a w :=
  wpAnyH_take hi hs hf hr hQ (Or.inr ⟨hw, rfl⟩) hS h
end Go.Proofs.YtokniebejilcbaaGreat
namespace Go.Proofs.YtokniebejilcbaaGreat
open Go.RowKit
theorem belI_drew (w : World) : Below w.heap.size w w.drew := (Below.refl _ _).drew
structure ImV (lo hi b : Nat) (X Y : Int) (v : Value) (L : List Int) (W : World) : Prop where
 at_ : ImAt W b 55 X Y v
 own : W.ownsRow lo 3 1 v L.length (intCells L)
 lb : lo ≤ b
 hb : b < hi
 hk : ∀ k, v.ownBlock = some k → k < hi ∧ k ≠ b
 hs : hi ≤ W.heap.size
theorem ImV.call {lo hi b : Nat} {X Y : Int} {v : Value} {L : List Int} {W W' : World} (h : ImV lo hi b X Y v L W) (k : Below W.heap.size W W') : ImV lo hi b X Y v L W' :=
 ⟨h.at_.call k, ownI_call h.own k, h.lb, h.hb, h.hk, Nat.le_trans h.hs k.size⟩
theorem ImV.rd {lo hi b : Nat} {X Y : Int} {v : Value} {L : List Int} {W : World} (h : ImV lo hi b X Y v L W) : RdI W v L := RdI.of_own h.own
theorem ImV.cells {lo hi b : Nat} {X Y : Int} {v : Value} {L : List Int} {W : World} (h : ImV lo hi b X Y v L W) :
  W.cell? ⟨b, 0, none⟩ = some (.int .i64 X) ∧ W.cell? ⟨b, 1, none⟩ = some (.int .i64 Y) ∧ W.cell? ⟨b, 2, none⟩ = some v := h.at_.cells
theorem ImV.row {lo hi b : Nat} {X Y : Int} {v : Value} {L : List Int} {W : World} (h : ImV lo hi b X Y v L W) : ∀ k, v.ownBlock = some k → lo ≤ k ∧ k < hi := fun k hk => ⟨(h.own.lt k hk).1, (h.hk k hk).1⟩
theorem ImV.other {lo hi b : Nat} {X Y : Int} {v : Value} {L : List Int} {W W' : World} {row : Option Nat} (h : ImV lo hi b X Y v L W) (hg : W.grownBy W' row) (hr : ∀ k, row = some k → k < lo ∨ hi ≤ k) : ImV lo hi b X Y v L W' := by
 refine ⟨h.at_.grown hg (fun e => ?_), h.own.kept hg ?_, h.lb, h.hb, h.hk, Nat.le_trans h.hs hg.size⟩
 ·have := hr _ e.symm; have := h.lb; have := h.hb; omega
 ·by_cases hv : v.ownBlock = none
  ·exact .inl hv
  ·obtain ⟨k, hk⟩ := Option.ne_none_iff_exists'.1 hv
   refine .inr fun e => ?_
   rw [hk] at e
   have h1 := hr k e.symm
   have h2 := h.row k hk
   omega
theorem ImV.mark {lo hi b : Nat} {X Y : Int} {v : Value} {L M : List Int} {W W' : World} (h : ImV lo hi b X Y v L W) (hown : W'.ownsRow lo 3 1 v L.length (intCells M)) (hl : M.length = L.length) (hg : W.grownBy W' v.ownBlock) : ImV lo hi b X Y v M W' :=
 ⟨h.at_.grown hg (fun e => (h.hk _ e.symm).2 rfl), by rw [hl]; exact hown, h.lb, h.hb, h.hk, Nat.le_trans h.hs hg.size⟩
theorem ImV.born {X Y : Int} {v : Value} {L : List Int} {W W' : World} (hk : Below W.heap.size W W') (hown : W'.ownsRow W.heap.size 3 1 v L.length (intCells L)) :
  ImV W.heap.size (W'.heap.size + 1) W'.heap.size X Y v L (W'.alloc (.cells #[.int .i64 X, .int .i64 Y, v] 55)) :=
 ⟨ImAt.new _ _ _ _ _, hown.alloc _, hk.size, Nat.lt_succ_self _, fun k hk => by have := hown.lt k hk; omega, by simp⟩
theorem belI_mark {w W W' : World} {lo hi b : Nat} {X Y : Int} {v : Value} {L : List Int} (hw : Below w.heap.size w W) (h : ImV lo hi b X Y v L W) (hlo : w.heap.size ≤ lo) (hg : W.grownBy W' v.ownBlock) : Below w.heap.size w W' :=
 hw.grown hg hw.size (fun k hk => by have := (h.row k hk).1; omega)
end Go.Proofs.YtokniebejilcbaaGreat
namespace Go.Proofs.YtokniebejilcbaaGreat
open Go.RowKit
def RokAns (L : List Rc) (w : World) (e : Ending) (w' : World) : Prop := e = .returned (.bool (okL L)) ∧ Below w.heap.size w w'
theorem cell_drew {w : World} {a : Addr} {v : Value} (h : w.cell? a = some v) : w.drew.cell? a = some v := h
theorem cell_drewN {w : World} {a : Addr} {v : Value} (h : w.cell? a = some v) (q : Nat) : (w.drewN q).cell? a = some v := h
theorem cell_call {w w' : World} {g o : Nat} {v : Value} (hb : Below w.heap.size w w') (h : w.cell? ⟨g, o, none⟩ = some v) : w'.cell? ⟨g, o, none⟩ = some v :=
 (hb.cell (p := ⟨g, o, none⟩) (World.block_lt_of_cell? w _ h)).trans h
theorem below_call {a w w' : World} (h : Below a.heap.size a w) (hb : Below w.heap.size w w') : Below a.heap.size a w' := h.trans (hb.mono h.size)
theorem field_rg (u : Value) (W : World) : (Instr.field 30 (.agg #[u]) 0).run Tryz.prog W = .ok u W := by
 simp [Instr.field, run_underlying Tryz.underlying30, asAgg, part, go_sem]
set_option maxHeartbeats 1000000 in
set_option maxRecDepth 10000 in
theorem rokI (v : Value) (L : List Rc) (w : World) (h : RdR w v L) : Calls Tryz.prog 31 #[.agg #[v]] w (RokAns L w) := by
 have hV := h.alloc (.cells #[v] 30)
 have hw := (Below.refl w.heap.size w).alloc (Nat.le_refl _) (.cells #[v] 30)
 have hc : (w.alloc (.cells #[v] 30)).cell? ⟨w.heap.size, 0, none⟩ = some v := new_cell w v _
 clear h
 go_enter Tryz.func31, Tryz.ntmps31
 go_wp2_with fail
 go_region_held3 (fun w' => w'.cell? ⟨w.heap.size, 0, none⟩ = some v)
  (with_reducible first | exact hc | exact cell_drew hc | fail)
  (first | (go_at_call 66; (with_reducible first | refine (rofI v L _ hV).mono ?_ | refine (rofI v L _ hV.drew).mono ?_); rintro e wk ⟨u, rfl, hown, hbk⟩; have hfld := field_rg u; (with_reducible first | have hV := hV.call hbk | have hV := hV.drew.call hbk); (with_reducible first | have hw := below_call hw hbk | have hw := below_call hw.drew hbk); (with_reducible first | (have hc := cell_call hbk hc) | (have hc := cell_call hbk (cell_drew hc)))) | (go_at_call 77; (with_reducible first | refine (sameI u v _ L _ (RdR.of_own hown) hV).mono ?_ | refine (sameI u v _ L _ (RdR.of_own hown).drew hV.drew).mono ?_); rintro e wk ⟨rfl, q, rfl⟩; have hw := below_drewN hw q; have hc := cell_drewN hc q))
 go_wp2_with fail
 go_ret
 exact ⟨rfl, by first | exact hw | exact hw.drew | exact below_drewN hw _⟩
end Go.Proofs.YtokniebejilcbaaGreat
namespace Go.Proofs.YtokniebejilcbaaGreat
open Go.RowKit
theorem px_place {W H x y : Int} {L : List Int} (h : imOk W H L) (hx : 0 ≤ x ∧ x < W) (hy : 0 ≤ y ∧ y < H) :
  0 ≤ y * W ∧ y * W ≤ 240 ∧ 0 ≤ y * W + x ∧ y * W + x < (L.length : Int) ∧ L.length ≤ 256 := by
 obtain ⟨⟨s1, s2, s3, s4⟩, hl, _⟩ := h
 have m1 := sz_mul (W := W) (H := H) ⟨s1, s2, s3, s4⟩
 have h1 : 0 ≤ y * W := Int.mul_nonneg hy.1 (by omega)
 have h2 : y * W ≤ 15 * 16 := Int.mul_le_mul (by omega) s2 (by omega) (by omega)
 have h3 : (y + 1) * W ≤ H * W := Int.mul_le_mul_of_nonneg_right (by omega) (by omega)
 rw [Int.add_mul, Int.one_mul, Int.mul_comm H W] at h3
 omega
theorem frameI (W H : Int) (A : Option Addr) (n c : Nat) (w : World) :
  Calls Tryz.prog 70 #[.agg #[.int .i64 W, .int .i64 H, .slice A n c]] w fun e w' => e = .returned (.agg #[.int .i64 0, .int .i64 0, .int .i64 W, .int .i64 H]) ∧ Below w.heap.size w w' := by
 go_enter Tryz.func70, Tryz.ntmps70
 go_wp2_with fail
 exact bodyPost_ret (v := .agg #[.int .i64 0, .int .i64 0, .int .i64 W, .int .i64 H]) (by simp [results, Tryz.results70, go_sem]) rfl ⟨rfl, by repeat (first | exact Below.refl _ _ | refine Below.setCell ?_ (by simp; try omega) _ | refine Below.alloc ?_ (by simp; try omega) _)⟩
theorem pixelI (W H x y : Int) (v : Value) (L : List Int) (w : World) (h : imOk W H L) (hx : 0 ≤ x ∧ x < W) (hy : 0 ≤ y ∧ y < H) (hv : RdI w v L) :
  Calls Tryz.prog 71 #[.agg #[.int .i64 W, .int .i64 H, v], .int .i64 x, .int .i64 y] w fun e w' => e = .returned (.int .i64 (L.getD (y * W + x).toNat 0)) ∧ Below w.heap.size w w' := by
 have hv2 := hv.alloc (.cells #[.int .i64 W, .int .i64 H, v] 114)
 have hw := (Below.refl w.heap.size w).alloc (Nat.le_refl _) (.cells #[.int .i64 W, .int .i64 H, v] 114)
 obtain ⟨m0, m1, p0, p1, pn⟩ := px_place h hx hy
 obtain ⟨A, c, rfl⟩ := hv.form
 obtain ⟨m, hm⟩ := Int.eq_ofNat_of_zero_le m0
 obtain ⟨x, rfl⟩ := Int.eq_ofNat_of_zero_le hx.1
 obtain ⟨g, p, rfl, hp, hc⟩ := hv2.at_ (k := m + x) (by omega)
 have Hp : Hid (L.getD (y * W + (x : Int)).toNat 0 = p) := Lib.hid (by
  rw [show (y * W + (x : Int)).toNat = m + x by omega, List.getD_eq_getElem?_getD, hp]; rfl)
 obtain ⟨n, hn⟩ : ∃ n, n = L.length := ⟨_, rfl⟩
 rw [← hn] at p1 pn hw hc ⊢
 rw [hm] at p1 m1
 have Hw := Lib.hid hw
 clear hv hv2 hp hw hn h p0
 have hy0 := hy.1
 have hmx : (m : Int) + (x : Int) < (n : Int) := p1
 have hm2 : (m : Int) ≤ 240 := m1
 go_enter Tryz.func71, Tryz.ntmps71
 go_wp2_with fail
 go_ret
 exact ⟨ret_int Hp.out.symm, Hw.out⟩
end Go.Proofs.YtokniebejilcbaaGreat
namespace Go.Proofs.YtokniebejilcbaaGreat
open Go.RowKit
open Classical in
theorem okL_iff (L : List Rc) : okL L = true ↔ canon (gridOf L) = L := by unfold okL sameL; exact decide_eq_true_iff
end Go.Proofs.YtokniebejilcbaaGreat
namespace Go.Proofs.YtokniebejilcbaaGreat
open Go.RowKit
theorem isOrI_yes (o : Int) (h : orOk o) (w : World) : Calls Tryz.prog 190 #[.int .i64 o] w fun e w' => e = .returned (.bool true) ∧ w = w' := by
 obtain ⟨h1, h2⟩ := h
 go_enter Tryz.func190, Tryz.ntmps190
 go_wp2_with ((go_at_call 109; (with_reducible refine (inI_yes _ _ _ _ (by omega) (by omega)).mono ?_); rintro e w' ⟨rfl, rfl⟩))
 go_ret
 exact ⟨rfl, rfl⟩
theorem isOrI_no (o : Int) (h : ¬ orOk o) (w : World) : Calls Tryz.prog 190 #[.int .i64 o] w fun e w' => e = .returned (.bool false) ∧ w = w' := by
 have h7 : o < 0 ∨ 7 < o := by unfold orOk at h; omega
 have H7 := Lib.hid h7
 clear h7 h
 go_enter Tryz.func190, Tryz.ntmps190
 go_wp2_with ((go_at_call 109; (with_reducible refine (inI_no _ _ _ _ H7.out).mono ?_); rintro e w' ⟨rfl, rfl⟩))
 go_ret
 exact ⟨rfl, rfl⟩
theorem turns_any (o : Int) (h : orOk o) (w : World) : Calls Tryz.prog 240 #[.int .i64 o] w fun e w' => e = .returned (.int .i64 (o % 4)) ∧ w = w' := by
 obtain ⟨h1, h2⟩ := h
 go_enter Tryz.func240, Tryz.ntmps240
 go_wp2
 go_ret
 exact ⟨ret_int (by omega), rfl⟩
theorem mirrors_any (o : Int) (h : orOk o) (w : World) : Calls Tryz.prog 242 #[.int .i64 o] w fun e w' => e = .returned (.int .i64 (o / 4)) ∧ w = w' := by
 obtain ⟨h1, h2⟩ := h
 go_enter Tryz.func242, Tryz.ntmps242
 go_wp2
 go_ret
 exact ⟨ret_int (by omega), rfl⟩
def PpAns (p : Pp) (w : World) (e : Ending) (w' : World) : Prop := e = .returned (.agg #[.int .i64 p.w, .int .i64 p.h, .int .i64 p.x, .int .i64 p.y]) ∧ Below w.heap.size w w'
theorem mir_any (p : Pp) (h : p.ok) (w : World) : Calls Tryz.prog 241 #[.agg #[.int .i64 p.w, .int .i64 p.h, .int .i64 p.x, .int .i64 p.y]] w (PpAns p.mir w) := by
 obtain ⟨h1, h2, h3, h4, h5, h6, h7, h8⟩ := h
 obtain ⟨a, b, c, d⟩ := p
 dsimp only at *
 go_enter Tryz.func241, Tryz.ntmps241
 go_wp2_with fail
 exact bodyPost_ret (v := .agg #[.int .i64 a, .int .i64 b, .int .i64 (a - 1 - c), .int .i64 d]) (by simp [results, Tryz.results241, go_sem]) rfl ⟨rfl, by
   repeat first | exact Below.refl _ _ | refine Below.setCell ?_ (by first | (simp; done) | (simp; omega)) _ | refine Below.alloc ?_ (by first | (simp; done) | (simp; omega)) _⟩
theorem qt_any (p : Pp) (h : p.ok) (w : World) : Calls Tryz.prog 239 #[.agg #[.int .i64 p.w, .int .i64 p.h, .int .i64 p.x, .int .i64 p.y]] w (PpAns p.qt w) := by
 obtain ⟨h1, h2, h3, h4, h5, h6, h7, h8⟩ := h
 obtain ⟨a, b, c, d⟩ := p
 dsimp only at *
 go_enter Tryz.func239, Tryz.ntmps239
 go_wp2_with fail
 exact bodyPost_ret (v := .agg #[.int .i64 b, .int .i64 a, .int .i64 (b - 1 - d), .int .i64 c]) (by simp [results, Tryz.results239, go_sem]) rfl ⟨rfl, by
   repeat first | exact Below.refl _ _ | refine Below.setCell ?_ (by first | (simp; done) | (simp; omega)) _ | refine Below.alloc ?_ (by first | (simp; done) | (simp; omega)) _⟩
structure RpSt (w : World) (p : Pp) (W : World) : Prop where
 pt : BkAt W w.heap.size 254 #[.int .i64 p.w, .int .i64 p.h, .int .i64 p.x, .int .i64 p.y]
 rs : BkAt W (w.heap.size + 1) 254 #[.int .i64 0, .int .i64 0, .int .i64 0, .int .i64 0]
 bw : Below w.heap.size w W
theorem RpSt.call {w : World} {p : Pp} {W W' : World} (h : RpSt w p W) (hb : Below W.heap.size W W') : RpSt w p W' :=
 ⟨h.pt.call hb, h.rs.call hb, h.bw.trans (hb.mono h.bw.size)⟩
theorem RpSt.set {w : World} {p : Pp} {W : World} (h : RpSt w p W) (q : Pp) :
  RpSt w q ((((W.setCell ⟨w.heap.size, 0, none⟩ (.int .i64 q.w)).setCell ⟨w.heap.size, 1, none⟩ (.int .i64 q.h)).setCell ⟨w.heap.size, 2, none⟩ (.int .i64 q.x)).setCell ⟨w.heap.size, 3, none⟩ (.int .i64 q.y)) :=
 ⟨h.pt.all4 _ _ _ _, (((h.rs.far (by simp) _).far (by simp) _).far (by simp) _).far (by simp) _, (((h.bw.setCell (by simp) _).setCell (by simp) _).setCell (by simp) _).setCell (by simp) _⟩
set_option maxHeartbeats 600000 in
theorem repOI (fid : Nat) (f : Pp → Pp) (HE : ∀ args w, (callFunc fid args).run Tryz.prog w = .ok (.enter fid args) w)
  (HK : ∀ (p : Pp) W, p.ok → Calls Tryz.prog fid #[.agg #[.int .i64 p.w, .int .i64 p.h, .int .i64 p.x, .int .i64 p.y]] W (PpAns (f p) W)) (hf : ∀ p : Pp, p.ok → (f p).ok) (n : Nat) (hn : n ≤ 3) (p : Pp) (hp : p.ok) (w : World) :
  Calls Tryz.prog 238 #[.func (.func fid) #[] #[], .int .i64 n, .agg #[.int .i64 p.w, .int .i64 p.h, .int .i64 p.x, .int .i64 p.y]] w (PpAns (Pp.rep f n p) w) := by
 have hS : RpSt w p ((w.alloc (.cells #[.int .i64 p.w, .int .i64 p.h, .int .i64 p.x, .int .i64 p.y] 254)).alloc (.cells #[.int .i64 0, .int .i64 0, .int .i64 0, .int .i64 0] 254)) :=
  ⟨(BkAt.new _ _ _).alloc _, BkAt.newAt (by simp) _ _, ((Below.refl _ _).alloc (Nat.le_refl _) _).alloc (by simp) _⟩
 have HS := Lib.hid hS
 have HK := Lib.hid HK
 have Hp := Lib.hid hp
 have Hf := Lib.hid hf
 clear hS hp hf
 go_enter Tryz.func238, Tryz.ntmps238
 go_wp2_with fail
 go_loopw [8] (fun i wr => ∃ k : Nat, k ≤ n ∧ i = .int .i64 k ∧ Hid (RpSt w (Pp.rep f k p) wr)) (fun i _ => n - (intOf i).toNat)
 case atStart => exact ⟨0, Nat.zero_le _, rfl, HS⟩
 case round =>
  clear HS
  obtain ⟨k, hk, rfl, HS⟩ := hrel
  have hS := HS.out
  obtain ⟨c0, c1, c2, c3⟩ := hS.pt.cells4
  obtain ⟨r0, r1, r2, r3⟩ := hS.rs.cells4
  clear hS
  by_cases hlt : k < n
  ·have k1 : (k : Int) < (n : Int) := by omega
   have k0 : (0 : Int) ≤ (k : Int) := by omega
   go_wp2_with fail
   refine (HK.out _ _ (Pp.rep_ok Hf.out k Hp.out)).mono ?_
   rintro e w1 ⟨rfl, hb⟩
   have hS := HS.out.call hb
   have f0 := hS.pt.frozen 0
   have f1 := hS.pt.frozen 1
   have f2 := hS.pt.frozen 2
   have f3 := hS.pt.frozen 3
   clear c0 c1 c2 c3 r0 r1 r2 r3
   obtain ⟨c0, c1, c2, c3⟩ := hS.pt.cells4
   have HT := Lib.hid (hS.set (f (Pp.rep f k p)))
   clear hS hb
   go_wp2_with fail
   go_roundw
   case rel => exact ⟨k + 1, by omega, by go_num, HT⟩
   case measure => simp [intOf]; omega
  ·obtain rfl : k = n := by omega
   have f0 := HS.out.rs.frozen 0
   have f1 := HS.out.rs.frozen 1
   have f2 := HS.out.rs.frozen 2
   have f3 := HS.out.rs.frozen 3
   go_wp2_with fail
   obtain ⟨z0, z1, z2, z3⟩ := (HS.out.rs.all4 (.int .i64 (Pp.rep f k p).w) (.int .i64 (Pp.rep f k p).h) (.int .i64 (Pp.rep f k p).x) (.int .i64 (Pp.rep f k p).y)).cells4
   exact bodyPost_ret (v := .agg #[.int .i64 (Pp.rep f k p).w, .int .i64 (Pp.rep f k p).h, .int .i64 (Pp.rep f k p).x, .int .i64 (Pp.rep f k p).y]) (by simp [results, Tryz.results238, go_sem, z0, z1, z2, z3]) rfl
    ⟨rfl, (((HS.out.bw.setCell (by simp) _).setCell (by simp) _).setCell (by simp) _).setCell (by simp) _⟩
end Go.Proofs.YtokniebejilcbaaGreat
namespace Go.Proofs.YtokniebejilcbaaGreat
open Go.RowKit
theorem packedI (a r g b : Int) (ha : chOk a) (hr : chOk r) (hg : chOk g) (hb : chOk b) (w : World) :
  Calls Tryz.prog 225 #[.agg #[.int .i64 a, .int .i64 r, .int .i64 g, .int .i64 b]] w fun e w' => e = .returned (.int .i64 (pack4 a r g b)) ∧ Below w.heap.size w w' := by
 have hp := packed_bits a r g b ha hr hg hb
 obtain ⟨a0, a1⟩ := ha
 obtain ⟨r0, r1⟩ := hr
 obtain ⟨g0, g1⟩ := hg
 obtain ⟨b0, b1⟩ := hb
 go_enter Tryz.func225, Tryz.ntmps225
 go_wp2
 go_ret
 exact ⟨rfl, (Below.refl _ _).alloc (Nat.le_refl _) _⟩
theorem unpackedI (p : Int) (h : pixOk p) (w : World) :
  Calls Tryz.prog 216 #[.int .i64 p] w
   fun e w' => e = .returned (.agg #[.int .i64 (p / 16777216), .int .i64 (p / 65536 % 256), .int .i64 (p / 256 % 256), .int .i64 (p % 256)]) ∧ Below w.heap.size w w' := by
 obtain ⟨p0, p1⟩ := h
 have e1 : bits .and .i64 (p / 65536) 255 = p / 65536 % 256 := and255 _ (by omega) (by omega)
 have e2 : bits .and .i64 (p / 256) 255 = p / 256 % 256 := and255 _ (by omega) (by omega)
 have e3 : bits .and .i64 p 255 = p % 256 := and255 _ (by omega) (by omega)
 go_enter Tryz.func216, Tryz.ntmps216
 go_wp2
 exact bodyPost_ret (v := .agg #[.int .i64 (p / 16777216), .int .i64 (p / 65536 % 256), .int .i64 (p / 256 % 256), .int .i64 (p % 256)]) (by simp [results, Tryz.results216, go_sem]) rfl ⟨rfl, by
   repeat first | exact Below.refl _ _ | refine Below.setCell ?_ (by first | (simp; done) | (simp; omega)) _ | refine Below.alloc ?_ (by first | (simp; done) | (simp; omega)) _⟩
theorem ix0 (a b c d : Value) (W : World) : (Instr.index 232 (.agg #[a, b, c, d]) (.int .i64 0)).run Tryz.prog W = .ok a W := by kernel_rfl
theorem ix1 (a b c d : Value) (W : World) : (Instr.index 232 (.agg #[a, b, c, d]) (.int .i64 1)).run Tryz.prog W = .ok b W := by kernel_rfl
theorem ix2 (a b c d : Value) (W : World) : (Instr.index 232 (.agg #[a, b, c, d]) (.int .i64 2)).run Tryz.prog W = .ok c W := by kernel_rfl
theorem ix3 (a b c d : Value) (W : World) : (Instr.index 232 (.agg #[a, b, c, d]) (.int .i64 3)).run Tryz.prog W = .ok d W := by kernel_rfl
theorem chI_in (p k : Int) (h : pixOk p) (h0 : 0 ≤ k) (h1 : k ≤ 3) (w : World) :
  Calls Tryz.prog 189 #[.int .i64 p, .int .i64 k] w fun e w' => e = .returned (.int .i64 (chan p k)) ∧ Below w.heap.size w w' := by
 have H := Lib.hid h
 clear h
 obtain rfl | rfl | rfl | rfl : k = 0 ∨ k = 1 ∨ k = 2 ∨ k = 3 := by omega
 all_goals
  go_enter Tryz.func189, Tryz.ntmps189
  go_wp2_with fail
  refine (pixI_yes p H.out _).mono ?_
  rintro e w' ⟨rfl, rfl⟩
  go_wp2_with fail
  refine (inI_yes _ 0 3 _ (by omega) (by omega)).mono ?_
  rintro e w' ⟨rfl, rfl⟩
  go_wp2_with fail
  refine (unpackedI p H.out _).mono ?_
  rintro e w' ⟨rfl, hb⟩
  have x0 := ix0
  have x1 := ix1
  have x2 := ix2
  have x3 := ix3
  go_wp2
  go_ret
 ·exact ⟨ret_int (chan_0 H.out).symm, hb⟩
 ·exact ⟨ret_int (chan_1 H.out).symm, hb⟩
 ·exact ⟨ret_int (chan_2 H.out).symm, hb⟩
 ·exact ⟨ret_int (chan_3 H.out).symm, hb⟩
theorem chI_any (p k : Int) (w : World) :
  Calls Tryz.prog 189 #[.int .i64 p, .int .i64 k] w fun e w' => e = .returned (.int .i64 (chan p k)) ∧ Below w.heap.size w w' := by
 by_cases hp : pixOk p
 ·by_cases hk : 0 ≤ k ∧ k ≤ 3
  ·exact chI_in p k hp hk.1 hk.2 w
  ·have Hn : Hid (chan p k = -1) := chan_no fun h => hk h.2
   have Hp := Lib.hid hp
   have hk' : k < 0 ∨ 3 < k := by omega
   have Hk := Lib.hid hk'
   clear hk hk' hp
   go_enter Tryz.func189, Tryz.ntmps189
   go_wp2_with fail
   refine (pixI_yes p Hp.out _).mono ?_
   rintro e w' ⟨rfl, rfl⟩
   go_wp2_with fail
   refine (inI_no _ 0 3 _ Hk.out).mono ?_
   rintro e w' ⟨rfl, rfl⟩
   go_wp2
   go_ret
   exact ⟨ret_int Hn.out.symm, Below.refl _ _⟩
 ·have Hn : Hid (chan p k = -1) := chan_no fun h => hp h.1
  have Hp := Lib.hid hp
  clear hp
  go_enter Tryz.func189, Tryz.ntmps189
  go_wp2_with fail
  refine (pixI_no p Hp.out _).mono ?_
  rintro e w' ⟨rfl, rfl⟩
  go_wp2
  go_ret
  exact ⟨ret_int Hn.out.symm, Below.refl _ _⟩
end Go.Proofs.YtokniebejilcbaaGreat
namespace Go.Proofs.YtokniebejilcbaaGreat
open Go.RowKit
def repSfs : Rep (List Sf) := repSl repSf 153 11
structure C11 (w : World) (g o : Nat) (f : Sf) (d : Value) : Prop where
 c0 : w.cell? ⟨g, o, none⟩ = some (.int .i64 f.id)
 c1 : w.cell? ⟨g, o + 1, none⟩ = some (.int .i64 f.x)
 c2 : w.cell? ⟨g, o + 2, none⟩ = some (.int .i64 f.y)
 c3 : w.cell? ⟨g, o + 3, none⟩ = some (.int .i64 f.w)
 c4 : w.cell? ⟨g, o + 4, none⟩ = some (.int .i64 f.h)
 c5 : w.cell? ⟨g, o + 5, none⟩ = some (.int .i64 f.alpha)
 c6 : w.cell? ⟨g, o + 6, none⟩ = some (.int .i64 f.orient)
 c7 : w.cell? ⟨g, o + 7, none⟩ = some (.bool f.vis)
 c8 : w.cell? ⟨g, o + 8, none⟩ = some (.int .i64 f.bw)
 c9 : w.cell? ⟨g, o + 9, none⟩ = some (.int .i64 f.bh)
 c10 : w.cell? ⟨g, o + 10, none⟩ = some d
theorem own_cellI {w : World} {B n c g s : Nat} {e : TypeId} {xs : List Value} (h : w.ownsRow B e s (.slice (some ⟨g, 0, none⟩) n c) n xs) {j : Nat} {u : Value} (hu : xs[j]? = some u) : w.cell? ⟨g, j, none⟩ = some u := by
 have := h.cells (g := g) rfl j u hu
 rwa [addr_add] at this
theorem c11_of {w : World} {g o : Nat} {f : Sf} {d : Value} (h : ∀ j u, (sfCells f d)[j]? = some u → w.cell? ⟨g, o + j, none⟩ = some u) : C11 w g o f d :=
 ⟨h 0 _ rfl, h 1 _ rfl, h 2 _ rfl, h 3 _ rfl, h 4 _ rfl, h 5 _ rfl, h 6 _ rfl, h 7 _ rfl, h 8 _ rfl, h 9 _ rfl, h 10 _ rfl⟩
theorem repSfs_form {w : World} {v : Value} {L : List Sf} {bs : List Nat} (h : repSfs.R w L [v] bs) : (∃ A c, v = .slice A L.length c) ∧ L.length ≤ maxLen := by
 obtain ⟨v', xs, bss, e, hr, hs, ho, _⟩ := h
 obtain rfl : v = v' := by simpa using e
 rcases ho.2 with ⟨rfl, h0⟩ | ⟨g, cap, cur, rfl, _, _, hn, hc, _⟩
 ·exact ⟨⟨none, 0, by rw [h0]⟩, by rw [h0]; exact Nat.zero_le _⟩
 ·exact ⟨⟨_, _, rfl⟩, by omega⟩
theorem repSfs_at {w : World} {A : Option Addr} {n c k : Nat} {L : List Sf} {bs : List Nat} (h : repSfs.R w L [.slice A n c] bs) (hk : k < L.length) : ∃ g f d, A = some ⟨g, 0, none⟩ ∧ L[k]? = some f ∧ C11 w g (k * 11) f d ∧ RdI w d f.data := by
 obtain ⟨v', xs, bss, e, hr, hs, ho, _⟩ := h
 obtain rfl : Value.slice A n c = v' := by simpa using e
 have hkf : L[k]? = some (L[k]'hk) := List.getElem?_eq_getElem hk
 obtain ⟨x, b, hx, hb, hR⟩ := rowsR_at hr k _ hkf
 obtain ⟨d, rfl, hd⟩ := hR
 rcases ho.2 with ⟨he, h0⟩ | ⟨g, cap, cur, he, _⟩
 ·omega
 ·injection he with e1 e2 e3
  subst e1 e2 e3
  refine ⟨g, L[k], d, rfl, hkf, c11_of fun j u hu => ?_, repInts_rd hd⟩
  have hj : j < 11 := (List.getElem?_eq_some_iff.1 hu).1
  exact own_cellI ho (by rw [flat_at hs k j hx hj]; exact hu)
structure SnA (b : Nat) (s : Sn) (v : Value) (bs : List Nat) (W : World) : Prop where
 at_ : BkAt W b 34 #[.int .i64 s.w, .int .i64 s.h, .int .i64 s.back, v]
 r : repSfs.R W s.fs [v] bs
theorem SnA.call {b : Nat} {s : Sn} {v : Value} {bs : List Nat} {W W' : World} (h : SnA b s v bs W) (hb : Below W.heap.size W W') : SnA b s v bs W' := ⟨h.at_.call hb, Rep.call h.r hb⟩
theorem SnA.born {s : Sn} {v : Value} {bs : List Nat} {w : World} (h : repSfs.R w s.fs [v] bs) : SnA w.heap.size s v bs (w.alloc (.cells #[.int .i64 s.w, .int .i64 s.h, .int .i64 s.back, v] 34)) := ⟨BkAt.new _ _ _, Rep.call h (belI_box _ _)⟩
theorem SnA.cells {b : Nat} {s : Sn} {v : Value} {bs : List Nat} {W : World} (h : SnA b s v bs W) : W.cell? ⟨b, 0, none⟩ = some (.int .i64 s.w) ∧ W.cell? ⟨b, 1, none⟩ = some (.int .i64 s.h) ∧ W.cell? ⟨b, 2, none⟩ = some (.int .i64 s.back) ∧ W.cell? ⟨b, 3, none⟩ = some v := h.at_.cells4
def IdxAns (L : List Sf) (i : Int) (w : World) (e : Ending) (w' : World) : Prop := e = .returned (.int .i64 (idxF L i)) ∧ Below w.heap.size w w'
set_option maxHeartbeats 1000000 in
theorem idxS (s : Sn) (i : Int) (v : Value) (bs : List Nat) (w : World) (h : repSfs.R w s.fs [v] bs) :
  Calls Tryz.prog 122 #[.agg #[.int .i64 s.w, .int .i64 s.h, .int .i64 s.back, v], .int .i64 i] w (IdxAns s.fs i w) := by
 have hA := SnA.born h
 have hB := belI_box w (.cells #[.int .i64 s.w, .int .i64 s.h, .int .i64 s.back, v] 34)
 obtain ⟨⟨A, c, rfl⟩, hm⟩ := repSfs_form h
 obtain ⟨n, hn⟩ : ∃ n, n = s.fs.length := ⟨_, rfl⟩
 rw [← hn] at hA hB hm ⊢
 unfold maxLen at hm
 have HA := Lib.hid hA
 have HB := Lib.hid hB
 have Hn := Lib.hid hn
 obtain ⟨_, _, _, d3⟩ := hA.cells
 clear h hA hB hn
 go_enter Tryz.func122, Tryz.ntmps122
 go_wp2_with fail
 go_loopw [5] (fun s5 wr => ∃ k : Nat, k ≤ n ∧ s5 = .int .i64 k ∧ Hid (∀ (j : Nat) (g : Sf), j < k → s.fs[j]? = some g → g.id ≠ i) ∧ wr = w.alloc (.cells #[.int .i64 s.w, .int .i64 s.h, .int .i64 s.back, .slice A n c] 34)) (fun s5 _ => n - (intOf s5).toNat)
 case atStart => exact ⟨0, Nat.zero_le _, rfl, Lib.hid (fun j x h => by omega), rfl⟩
 case round =>
  obtain ⟨k, hk, rfl, Hall, rfl⟩ := hrel
  by_cases hlt : k < n
  ·obtain ⟨g, f, d, rfl, hf, hC, _⟩ := repSfs_at HA.out.r (k := k) (by rw [← Hn.out]; exact hlt)
   have Hf := Lib.hid hf
   have c0 := hC.c0
   have k0 : (0 : Int) ≤ (k : Int) := by omega
   have k1 : (k : Int) < (n : Int) := by omega
   clear hf hC
   by_cases he : f.id = i
   ·have Hq := Lib.hid (idxF_hit Hf.out he Hall.out)
    rw [he] at c0
    go_wp2_with fail
    go_ret
    exact ⟨ret_int Hq.out.symm, HB.out⟩
   ·go_wp2_with fail
    go_roundw
    case rel =>
     refine ⟨k + 1, by omega, by go_num, Lib.hid (fun j y hj hy => ?_), by first | rfl | trivial⟩
     by_cases e : j < k
     ·exact Hall.out j y e hy
     ·obtain rfl : j = k := by omega
      rw [Hf.out] at hy
      rw [← Option.some.inj hy]
      exact he
    case measure => simp [intOf]; omega
  ·obtain rfl : k = n := by omega
   have Hq := Lib.hid (idxF_miss (L := s.fs) (i := i) fun j g hj => Hall.out j g (by rw [Hn.out]; exact (List.getElem?_eq_some_iff.1 hj).1) hj)
   go_wp2_with fail
   go_ret
   exact ⟨ret_int Hq.out.symm, HB.out⟩
theorem sameIdI (f : Sf) (d : Value) (i : Int) (b : Nat) (w : World) (hc : w.cell? ⟨b, 0, none⟩ = some (.int .i64 i)) :
  Calls Tryz.prog 192 #[.agg #[.int .i64 f.id, .int .i64 f.x, .int .i64 f.y, .int .i64 f.w, .int .i64 f.h, .int .i64 f.alpha, .int .i64 f.orient, .bool f.vis, .int .i64 f.bw, .int .i64 f.bh, d], .pointer (some ⟨b, 0, none⟩)] w fun e w' => e = .returned (.bool (f.id == i)) ∧ Below w.heap.size w w' := by
 have hc2 : (w.alloc (.cells #[.int .i64 f.id, .int .i64 f.x, .int .i64 f.y, .int .i64 f.w, .int .i64 f.h, .int .i64 f.alpha, .int .i64 f.orient, .bool f.vis, .int .i64 f.bw, .int .i64 f.bh, d] 153)).cell? ⟨b, 0, none⟩ = some (.int .i64 i) := Lib.cell?_alloc_some _ hc
 have HB := Lib.hid (belI_box w (.cells #[.int .i64 f.id, .int .i64 f.x, .int .i64 f.y, .int .i64 f.w, .int .i64 f.h, .int .i64 f.alpha, .int .i64 f.orient, .bool f.vis, .int .i64 f.bw, .int .i64 f.bh, d] 153))
 clear hc
 go_enter Tryz.func192, Tryz.ntmps192
 go_wp2_with fail
 go_ret
 exact ⟨rfl, HB.out⟩
set_option maxHeartbeats 1000000 in
set_option maxRecDepth 10000 in
theorem idxFn (L : List Sf) (i : Int) (v : Value) (bs : List Nat) (b : Nat) (w : World) (h : repSfs.R w L [v] bs) (hc : w.cell? ⟨b, 0, none⟩ = some (.int .i64 i)) :
  Calls Tryz.prog 191 #[v, .func (.func 192) #[] #[.pointer (some ⟨b, 0, none⟩)]] w (IdxAns L i w) := by
 obtain ⟨⟨A, c, rfl⟩, hm⟩ := repSfs_form h
 obtain ⟨n, hn⟩ : ∃ n, n = L.length := ⟨_, rfl⟩
 rw [← hn] at h hm ⊢
 unfold maxLen at hm
 have H := Lib.hid h
 have Hc := Lib.hid hc
 have Hn := Lib.hid hn
 clear h hc hn
 go_enter Tryz.func191, Tryz.ntmps191
 go_wp2_with fail
 go_loopg [5, 8] n (fun gg _ s8 wr => ∃ k : Nat, k ≤ n ∧ n - k ≤ gg ∧ s8 = .int .i64 k ∧ Hid (∀ (j : Nat) (g : Sf), j < k → L[j]? = some g → g.id ≠ i) ∧ Hid (Below w.heap.size w wr))
 case atStart => exact ⟨0, Nat.zero_le _, by omega, rfl, Lib.hid (fun j x h => by omega), Lib.hid (Below.refl _ _)⟩
 case round =>
  obtain ⟨k, hk, hgg, rfl, Hall, HB⟩ := hrel
  by_cases hlt : k < n
  ·obtain ⟨g, f, d, rfl, hf, hC, _⟩ := repSfs_at (Rep.call H.out HB.out) (k := k) (by rw [← Hn.out]; exact hlt)
   have Hf := Lib.hid hf
   obtain ⟨c0, c1, c2, c3, c4, c5, c6, c7, c8, c9, c10⟩ := hC
   have HK := Lib.hid (sameIdI f d i b wr ((HB.out.cell (World.block_lt_of_cell? w _ Hc.out)).trans Hc.out))
   have k0 : (0 : Int) ≤ (k : Int) := by omega
   have k1 : (k : Int) < (n : Int) := by omega
   clear hf
   by_cases he : f.id = i
   ·have Hq := Lib.hid (idxF_hit Hf.out he Hall.out)
    rw [show (f.id == i) = true by simp [he]] at HK
    clear he
    go_wp2_with fail
    refine HK.out.mono ?_
    rintro e w1 ⟨rfl, hb⟩
    clear c0 c1 c2 c3 c4 c5 c6 c7 c8 c9 c10
    go_wp2_with fail
    go_ret
    exact ⟨ret_int Hq.out.symm, belI_call HB.out hb⟩
   ·rw [show (f.id == i) = false by simp [he]] at HK
    have He := Lib.hid he
    clear he
    go_wp2_with fail
    refine HK.out.mono ?_
    rintro e w1 ⟨rfl, hb⟩
    clear c0 c1 c2 c3 c4 c5 c6 c7 c8 c9 c10
    go_wp2_with fail
    go_roundg (n - (k + 1))
    case measure => omega
    case rel =>
     refine ⟨k + 1, by omega, by omega, by go_num, Lib.hid (fun j y hj hy => ?_), Lib.hid (belI_call HB.out hb)⟩
     by_cases e : j < k
     ·exact Hall.out j y e hy
     ·obtain rfl : j = k := by omega
      rw [Hf.out] at hy
      rw [← Option.some.inj hy]
      exact He.out
  ·obtain rfl : k = n := by omega
   have Hq := Lib.hid (idxF_miss (L := L) (i := i) fun j g hj => Hall.out j g (by rw [Hn.out]; exact (List.getElem?_eq_some_iff.1 hj).1) hj)
   go_wp2_with fail
   go_ret
   exact ⟨ret_int Hq.out.symm, HB.out⟩
set_option maxHeartbeats 1000000 in
theorem idxI (s : Sn) (i : Int) (v : Value) (bs : List Nat) (w : World) (h : repSfs.R w s.fs [v] bs) :
  Calls Tryz.prog 141 #[.agg #[.int .i64 s.w, .int .i64 s.h, .int .i64 s.back, v], .int .i64 i] w (IdxAns s.fs i w) := by
 have hA := (SnA.born h).call (belI_box (w.alloc (.cells #[.int .i64 s.w, .int .i64 s.h, .int .i64 s.back, v] 34)) (.cells #[.int .i64 i] 3))
 have hB := belI_call (belI_box w (.cells #[.int .i64 s.w, .int .i64 s.h, .int .i64 s.back, v] 34)) (belI_box _ (.cells #[.int .i64 i] 3))
 have hX := (BkAt.newAt (w := w.alloc (.cells #[.int .i64 s.w, .int .i64 s.h, .int .i64 s.back, v] 34)) (g := w.heap.size + 1) (by simp) 3 #[.int .i64 i]).cell 0 rfl
 have HK := Lib.hid (idxFn s.fs i v bs _ _ hA.r hX)
 have HB := Lib.hid hB
 obtain ⟨_, _, _, d3⟩ := hA.cells
 obtain ⟨⟨A, c, rfl⟩, hm⟩ := repSfs_form h
 clear h hA hB hX hm
 go_enter Tryz.func141, Tryz.ntmps141
 go_wp2_with fail
 refine HK.out.mono ?_
 rintro e w1 ⟨rfl, hb⟩
 go_wp2_with fail
 go_ret
 exact ⟨rfl, belI_call HB.out hb⟩
end Go.Proofs.YtokniebejilcbaaGreat
namespace Go.Proofs.YtokniebejilcbaaGreat
open Go.RowKit
def SfAns (f : Sf) (w : World) (e : Ending) (w' : World) : Prop := ∃ d, e = .returned (.agg #[.int .i64 f.id, .int .i64 f.x, .int .i64 f.y, .int .i64 f.w, .int .i64 f.h, .int .i64 f.alpha, .int .i64 f.orient, .bool f.vis, .int .i64 f.bw, .int .i64 f.bh, d]) ∧ w'.ownsRow w.heap.size 3 1 d f.data.length (intCells f.data) ∧ Below w.heap.size w w'
end Go.Proofs.YtokniebejilcbaaGreat
namespace Go.Proofs.YtokniebejilcbaaGreat
open Go.RowKit
theorem RcAt.grown {w w' : World} {g : Nat} {row : Option Nat} {r : Rc} (h : RcAt w g r) (hb : w.grownBy w' row) (hg : some g ≠ row) : RcAt w' g r := (hb.block g h.lt hg).trans h
theorem Cur.far {w : World} {g : Nat} (h : Cur w g) {p : Addr} (hp : g < p.block) (v : Value) : Cur (w.setCell p v) g :=
 h.kept fun k hk => Below.heap_setCell w p v k (by omega)
end Go.Proofs.YtokniebejilcbaaGreat
namespace Go.Proofs.YtokniebejilcbaaGreat
open Go.RowKit
theorem GrAt.call {w w' : World} {b : Nat} {t : TypeId} {g : Nat → Bool} (h : GrAt w b t g) (hb : Below w.heap.size w w') : GrAt w' b t g := h.below hb h.lt
end Go.Proofs.YtokniebejilcbaaGreat
namespace Go.Proofs.YtokniebejilcbaaGreat
open Go.RowKit
theorem ok_canon (g : Nat → Bool) : okL (canon g) = true := (okL_iff _).2 (canon_idem g)
end Go.Proofs.YtokniebejilcbaaGreat
namespace Go.Proofs.YtokniebejilcbaaGreat
open Go.RowKit
theorem RcAt.call {w w' : World} {g : Nat} {r : Rc} (h : RcAt w g r) (hb : Below w.heap.size w w') : RcAt w' g r := h.below hb h.lt
end Go.Proofs.YtokniebejilcbaaGreat
namespace Go.Proofs.YtokniebejilcbaaGreat
open Go.RowKit
theorem wp_append_row {P : Program} {o : Oper} {a : Act} {w : World} {K : Act → World → Prop} {Q : Exit → Act → World → Prop} (s x : Operand) (t : TypeId)
  (ho : o.op = .call { callee := .builtin .append, args := #[s, x], argTypes := #[t, t] })
  (base base' : Nat) (e : TypeId) (i : TypeInfo) (z : Value) (size bytes : Nat) (ht : P.underlying t = some (.slice e)) (hi : P.info? e = some i) (hz : i.zero = some z)
  (hsize : i.size = size) (hby : i.bytes = bytes) (hzs : z.cells.size = size) (hsz : 0 < size)
  (v : Value) (n : Nat) (xs : List Value) (hs : a.eval s = v) (hown : w.ownsRow base e size v n xs)
  (u : Value) (m : Nat) (news : List Value) (hx : a.eval x = u) (hu : w.ownsRow base' e size u m news) (h1 : ∀ u ∈ news, u.oneCell' = true)
  (h63 : n + m ≤ maxLen) (hbytes : (n + m) * bytes ≤ 140737488355328) (hbase : base ≤ w.heap.size)
  (h : ∀ v' w', w'.ownsRow base e size v' (n + m) (xs ++ news) → w.grownBy w' v.ownBlock → (v'.ownBlock = v.ownBlock ∨ v'.ownBlock = some w.heap.size) → K (a.put o.dst v') w') : o.wp P a w K Q := by
 rcases hu.2 with ⟨rfl, rfl⟩ | ⟨g, cap, cur, rfl, _, _, hn, _, _, _⟩
 ·have hnil : news = [] := List.eq_nil_of_length_eq_zero (by have := hu.1; omega)
  subst hnil
  have hr := run_append_none w base t o.type e i size ht hi v n xs hown
  unfold Oper.wp execOp
  simp only [ho, resolve, invoke, builtin, Sem.run_bind, Sem.run_pure, Result.andThen_ok, List.map_toArray, List.map_cons, List.map_nil, hs, hx, hr]
  exact h v w (by simpa using hown) ⟨rfl, rfl, rfl, Nat.le_refl _, fun _ _ _ => rfl⟩ (.inl rfl)
 ·obtain ⟨v', w', hr, h2, h3, _, h5⟩ := run_append_own_at (P := P) w base t o.type e i z size bytes ht hi hz hsize hby hzs hsz v n xs hown ⟨g, 0, none⟩ m cap news hu.1 (hu.cells rfl) h1 h63 hbytes hbase
  unfold Oper.wp execOp
  simp only [ho, resolve, invoke, builtin, Sem.run_bind, Sem.run_pure, Result.andThen_ok, List.map_toArray, List.map_cons, List.map_nil, hs, hx, hr]
  exact h v' w' h2 h3 h5
theorem own_call2 {w w' : World} {B n : Nat} {e : TypeId} {v : Value} {xs : List Value} (h : w.ownsRow B e 4 v n xs) (hb : Below w.heap.size w w') : w'.ownsRow B e 4 v n xs :=
 h.kept (row := none) ⟨hb.os, hb.tape, hb.output, hb.size, fun k hk _ => hb.block k hk⟩ (by
  by_cases hv : v.ownBlock = none
  ·exact .inl hv
  ·exact .inr hv)
end Go.Proofs.YtokniebejilcbaaGreat
namespace Go.Proofs.YtokniebejilcbaaGreat
open Go.RowKit
theorem enterM (args : Array Value) (w : World) : (callFunc 241 args).run Tryz.prog w = .ok (.enter 241 args) w := by simp [go_sem]
theorem enterQ (args : Array Value) (w : World) : (callFunc 239 args).run Tryz.prog w = .ok (.enter 239 args) w := by simp [go_sem]
theorem repM (p : Pp) (o : Int) (ho : orOk o) (hp : p.ok) (w : World) : Calls Tryz.prog 238 #[.func (.func 241) #[] #[], .int .i64 (o / 4), .agg #[.int .i64 p.w, .int .i64 p.h, .int .i64 p.x, .int .i64 p.y]] w (PpAns (Pp.rep Pp.mir (o / 4).toNat p) w) := by
 obtain ⟨h1, h2⟩ := ho
 have h := repOI 241 Pp.mir enterM (fun p W h => mir_any p h W) (fun _ => Pp.mir_ok) (o / 4).toNat (by omega) p hp w
 rw [show (((o / 4).toNat : Nat) : Int) = o / 4 by omega] at h
 exact h
theorem repQ (p : Pp) (o : Int) (ho : orOk o) (hp : p.ok) (w : World) : Calls Tryz.prog 238 #[.func (.func 239) #[] #[], .int .i64 (o % 4), .agg #[.int .i64 p.w, .int .i64 p.h, .int .i64 p.x, .int .i64 p.y]] w (PpAns (Pp.rep Pp.qt (o % 4).toNat p) w) := by
 obtain ⟨h1, h2⟩ := ho
 have h := repOI 239 Pp.qt enterQ (fun p W h => qt_any p h W) (fun _ => Pp.qt_ok) (o % 4).toNat (by omega) p hp w
 rw [show (((o % 4).toNat : Nat) : Int) = o % 4 by omega] at h
 exact h
structure OpSt (w : World) (p : Pp) (W : World) : Prop where
 pt : BkAt W w.heap.size 254 #[.int .i64 p.w, .int .i64 p.h, .int .i64 p.x, .int .i64 p.y]
 bw : Below w.heap.size w W
theorem OpSt.drew {w : World} {p : Pp} {W : World} (h : OpSt w p W) : OpSt w p W.drew := ⟨h.pt, h.bw.drew⟩
theorem OpSt.call {w : World} {p : Pp} {W W' : World} (h : OpSt w p W) (hb : Below W.heap.size W W') : OpSt w p W' := ⟨h.pt.call hb, h.bw.trans (hb.mono h.bw.size)⟩
theorem OpSt.set {w : World} {p : Pp} {W W' : World} (h : OpSt w p W) (hg : W.grownBy W' (some (w.heap.size + 1))) : OpSt w p W' :=
 ⟨h.pt.grown hg (fun e => by injection e with e; omega), h.bw.grown hg h.bw.size (fun k hk => by injection hk with hk; omega)⟩
set_option maxHeartbeats 600000 in
set_option maxRecDepth 10000 in
theorem orPt_any (p : Pp) (o : Int) (ho : orOk o) (hp : p.ok) (w : World) : Calls Tryz.prog 237 #[.agg #[.int .i64 p.w, .int .i64 p.h, .int .i64 p.x, .int .i64 p.y], .int .i64 o] w (PpAns (Pp.ori o p) w) := by
 have hT : OpSt w p ((w.alloc (.cells #[.int .i64 p.w, .int .i64 p.h, .int .i64 p.x, .int .i64 p.y] 254)).alloc (.cells #[.int .i64 0, .int .i64 0, .int .i64 0, .int .i64 0] 254)) :=
  ⟨(BkAt.new _ _ _).alloc _, ((Below.refl _ _).alloc (Nat.le_refl _) _).alloc (by simp) _⟩
 have hR : BkAt ((w.alloc (.cells #[.int .i64 p.w, .int .i64 p.h, .int .i64 p.x, .int .i64 p.y] 254)).alloc (.cells #[.int .i64 0, .int .i64 0, .int .i64 0, .int .i64 0] 254)) (w.heap.size + 1) 254 #[.int .i64 0, .int .i64 0, .int .i64 0, .int .i64 0] := BkAt.newAt (by simp) _ _
 have hq : (Pp.rep Pp.mir (o / 4).toNat p).ok := Pp.rep_ok (fun _ => Pp.mir_ok) _ hp
 have Hq := Lib.hid hq
 have Ho := Lib.hid ho
 have Hp := Lib.hid hp
 clear hq ho hp
 go_enter Tryz.func237, Tryz.ntmps237
 go_upto_region 1 with fail
 refine wp_region_held_drew (S := fun V => OpSt w p V) (by kernel_rfl) hT.drew (fun hS => ?_)
 replace hR := hR.drew
 refine tcH (i := 0) (v := .int .i64 o) rfl (by intro w' hSw; (try dsimp only at hSw); (obtain ⟨c0, c1, c2, c3⟩ := hSw.pt.cells4); go_simp) ?_
 refine tcH (i := 2) (v := .int .i64 o) rfl (by intro w' hSw; (try dsimp only at hSw); (obtain ⟨c0, c1, c2, c3⟩ := hSw.pt.cells4); go_simp) ?_
 refine tcH (i := 4) (v := .agg #[.int .i64 p.w, .int .i64 p.h, .int .i64 p.x, .int .i64 p.y]) rfl (by intro w' hSw; (try dsimp only at hSw); (obtain ⟨c0, c1, c2, c3⟩ := hSw.pt.cells4); go_simp) ?_
 (try simp only [Act.put]); (try simp only [zPa]); (try simp only [zPb, zPc])
 refine wpAnyH_ready (rs := [1]) (by kernel_rfl) (by simp) ?_
 refine (AllReadyH.cons rfl (fun K hK => ?_) AllReadyH.nil)
 ·rw [if_pos (by kernel_rfl)]
  (try simp only [zGa]); (try simp only [zGb]); (try simp only [zGc])
  go_simp
  with_reducible refine (turns_any o Ho.out _).mono ?_
  rintro e W' ⟨rfl, rfl⟩
  dsimp only
  skip
  refine hK.out _ _ (hS) (fun hS => ?_)
  clear hK
  (try simp only [Act.put]); (try simp only [zPa]); (try simp only [zPb, zPc])
  refine wpAnyH_ready (rs := [3]) (by kernel_rfl) (by simp) ?_
  refine (AllReadyH.cons rfl (fun K hK => ?_) AllReadyH.nil)
  ·rw [if_pos (by kernel_rfl)]
   (try simp only [zGa]); (try simp only [zGb]); (try simp only [zGc])
   go_simp
   with_reducible refine (mirrors_any o Ho.out _).mono ?_
   rintro e W' ⟨rfl, rfl⟩
   dsimp only
   skip
   refine hK.out _ _ (hS) (fun hS => ?_)
   clear hK
   (try simp only [Act.put]); (try simp only [zPa]); (try simp only [zPb, zPc])
   refine wpAnyH_ready (rs := [5]) (by kernel_rfl) (by simp) ?_
   refine (AllReadyH.cons rfl (fun K hK => ?_) AllReadyH.nil)
   ·rw [if_pos (by kernel_rfl)]
    (try simp only [zGa]); (try simp only [zGb]); (try simp only [zGc])
    go_simp
    with_reducible refine (repM p o Ho.out Hp.out _).mono ?_
    rintro e W' ⟨rfl, hb⟩
    dsimp only
    have hR := hR.call hb
    refine hK.out _ _ (hS.call hb) (fun hS => ?_)
    clear hK
    (try simp only [Act.put]); (try simp only [zPa]); (try simp only [zPb, zPc])
    refine wpAnyH_ready (rs := [6]) (by kernel_rfl) (by simp) ?_
    refine (AllReadyH.cons rfl (fun K hK => ?_) AllReadyH.nil)
    ·rw [if_pos (by kernel_rfl)]
     (try simp only [zGa]); (try simp only [zGb]); (try simp only [zGc])
     go_simp
     with_reducible refine (repQ (Pp.rep Pp.mir (o / 4).toNat p) o Ho.out Hq.out _).mono ?_
     rintro e W' ⟨rfl, hb⟩
     dsimp only
     have hR := hR.call hb
     refine hK.out _ _ (hS.call hb) (fun hS => ?_)
     clear hK
     (try simp only [Act.put]); (try simp only [zPa]); (try simp only [zPb, zPc])
     refine wpAnyH_ready (rs := [7]) (by kernel_rfl) (by simp) ?_
     refine (AllReadyH.cons rfl (fun K hK => ?_) AllReadyH.nil)
     ·rw [if_pos (by kernel_rfl)]
      (try simp only [zGa]); (try simp only [zGb]); (try simp only [zGc])
      refine wp_store_bk 254 (.tmp 4) (.tmp 11) rfl (w.heap.size + 1) 254 _ #[.int .i64 (Pp.ori o p).w, .int .i64 (Pp.ori o p).h, .int .i64 (Pp.ori o p).x, .int .i64 (Pp.ori o p).y] (by kernel_rfl) (by rfl) (by simp [Value.oneCell']) rfl (by first | with_reducible rfl | (go_simp; done) | rfl) hR ?_
      intro W3 IB hgB
      skip
      refine hK.out _ _ (hS.set hgB) (fun hS => ?_)
      clear hK
      (try simp only [Act.put]); (try simp only [zPa]); (try simp only [zPb, zPc])
      refine wpAnyH_done (by kernel_rfl) ?_ _
      obtain ⟨z0, z1, z2, z3⟩ := IB.cells4
      go_wp2_with fail
      exact bodyPost_ret (v := .agg #[.int .i64 (Pp.ori o p).w, .int .i64 (Pp.ori o p).h, .int .i64 (Pp.ori o p).x, .int .i64 (Pp.ori o p).y]) (by simp [results, Tryz.results237, go_sem, z0, z1, z2, z3]) rfl ⟨rfl, hS.bw⟩
end Go.Proofs.YtokniebejilcbaaGreat
namespace Go.Proofs.YtokniebejilcbaaGreat
open Go.RowKit
open Classical in
noncomputable def opM (w h o x y : Int) : Int × Int := if orOk o ∧ (⟨w, h, x, y⟩ : Pp).ok then ((Pp.ori o ⟨w, h, x, y⟩).x, (Pp.ori o ⟨w, h, x, y⟩).y) else (-1, -1)
theorem op_yes {w h o x y : Int} (h1 : orOk o) (h2 : (⟨w, h, x, y⟩ : Pp).ok) : opM w h o x y = ((Pp.ori o ⟨w, h, x, y⟩).x, (Pp.ori o ⟨w, h, x, y⟩).y) := if_pos ⟨h1, h2⟩
theorem op_no {w h o x y : Int} (h0 : ¬ (orOk o ∧ (⟨w, h, x, y⟩ : Pp).ok)) : opM w h o x y = (-1, -1) := if_neg h0
open Classical in
noncomputable def osM (w h o : Int) : Int × Int := if szOk w h ∧ orOk o then (orW w h o, orH w h o) else (0, 0)
theorem os_yes {w h o : Int} (h1 : szOk w h) (h2 : orOk o) : osM w h o = (orW w h o, orH w h o) := if_pos ⟨h1, h2⟩
theorem os_no {w h o : Int} (h0 : ¬ (szOk w h ∧ orOk o)) : osM w h o = (0, 0) := if_neg h0
def TwoAns (p : Int × Int) (w : World) (e : Ending) (w' : World) : Prop := e = .returned (.tuple #[.int .i64 p.1, .int .i64 p.2]) ∧ Below w.heap.size w w'
theorem ret_two {a b : Int} {p : Int × Int} (h : p = (a, b)) : Ending.returned (.tuple #[.int .i64 a, .int .i64 b]) = .returned (.tuple #[.int .i64 p.1, .int .i64 p.2]) := by rw [h]
theorem or_no {o : Int} (h : ¬ orOk o) : o < 0 ∨ 7 < o := by unfold orOk at h; omega
set_option maxHeartbeats 600000 in
theorem osI (a b o : Int) (w : World) : Calls Tryz.prog 234 #[.int .i64 a, .int .i64 b, .int .i64 o] w (TwoAns (osM a b o) w) := by
 by_cases hs : szOk a b
 ·by_cases ho : orOk o
  ·have HA := Lib.hid (os_yes hs ho)
   have Hs := Lib.hid hs
   have Ho := Lib.hid ho
   have hp : (⟨a, b, 0, 0⟩ : Pp).ok := by unfold szOk at hs; unfold Pp.ok; dsimp only; omega
   have Hp := Lib.hid hp
   have R := fun W => orPt_any ⟨a, b, 0, 0⟩ o ho hp W
   have e1 := ori_w ho ⟨a, b, 0, 0⟩
   have e2 := ori_h ho ⟨a, b, 0, 0⟩
   dsimp only at R e1 e2
   unfold PpAns at R
   rw [e1, e2] at R
   have HR := Lib.hid R
   clear hs ho hp R e1 e2
   go_enter Tryz.func234, Tryz.ntmps234
   go_wp2_with fail
   refine (szI_yes _ _ Hs.out _).mono ?_
   rintro e w' ⟨rfl, rfl⟩
   go_wp2_with fail
   refine (isOrI_yes _ Ho.out _).mono ?_
   rintro e w' ⟨rfl, rfl⟩
   go_wp2_with fail
   refine (HR.out _).mono ?_
   rintro e w2 ⟨rfl, hb⟩
   have Hb := Lib.hid hb
   clear hb
   go_wp2_with fail
   go_quiet (fail)
   go_wp2_with fail
   go_ret2
   exact ⟨ret_two HA.out, below_drewN (Hb.out.alloc Hb.out.size _) _⟩
  ·have HA := Lib.hid (os_no (w := a) (h := b) fun h => ho h.2)
   have Hs := Lib.hid hs
   have Ho := Lib.hid ho
   clear hs ho
   go_enter Tryz.func234, Tryz.ntmps234
   go_wp2_with fail
   refine (szI_yes _ _ Hs.out _).mono ?_
   rintro e w' ⟨rfl, rfl⟩
   go_wp2_with fail
   refine (isOrI_no _ Ho.out _).mono ?_
   rintro e w' ⟨rfl, rfl⟩
   go_wp2_with fail
   go_ret2
   exact ⟨ret_two HA.out, Below.refl _ _⟩
 ·have HA := Lib.hid (os_no (o := o) fun h => hs h.1)
  have Hs := Lib.hid hs
  clear hs
  go_enter Tryz.func234, Tryz.ntmps234
  go_wp2_with fail
  refine (szI_no _ _ Hs.out _).mono ?_
  rintro e w' ⟨rfl, rfl⟩
  go_wp2_with fail
  go_ret2
  exact ⟨ret_two HA.out, Below.refl _ _⟩
set_option maxHeartbeats 600000 in
theorem osS (a b o : Int) (w : World) : Calls Tryz.prog 181 #[.int .i64 a, .int .i64 b, .int .i64 o] w (TwoAns (osM a b o) w) := by
 by_cases ha : 1 ≤ a ∧ a ≤ 16
 ·obtain ⟨a1, a2⟩ := ha
  by_cases hb : 1 ≤ b ∧ b ≤ 16
  ·obtain ⟨b1, b2⟩ := hb
   by_cases ho : 0 ≤ o ∧ o ≤ 7
   ·obtain ⟨o1, o2⟩ := ho
    have HA := Lib.hid (os_yes (w := a) (h := b) (o := o) ⟨a1, a2, b1, b2⟩ ⟨o1, o2⟩)
    by_cases hq : o % 2 = 1
    ·have HE := Lib.hid (show osM a b o = (b, a) by rw [HA.out]; unfold orW orH; rw [if_pos hq, if_pos hq])
     go_enter Tryz.func181, Tryz.ntmps181
     go_wp2_with ((go_at_call 136; (with_reducible refine (inS_yes _ _ _ _ (by omega) (by omega)).mono ?_); rintro e w' ⟨rfl, rfl⟩))
     go_ret2
     exact ⟨ret_two HE.out, Below.refl _ _⟩
    ·have HE := Lib.hid (show osM a b o = (a, b) by rw [HA.out]; unfold orW orH; rw [if_neg hq, if_neg hq])
     go_enter Tryz.func181, Tryz.ntmps181
     go_wp2_with ((go_at_call 136; (with_reducible refine (inS_yes _ _ _ _ (by omega) (by omega)).mono ?_); rintro e w' ⟨rfl, rfl⟩))
     go_ret2
     exact ⟨ret_two HE.out, Below.refl _ _⟩
   ·have HA := Lib.hid (os_no (w := a) (h := b) (o := o) fun h => ho h.2)
    have h7 : o < 0 ∨ 7 < o := by omega
    have H7 := Lib.hid h7
    clear h7 ho
    go_enter Tryz.func181, Tryz.ntmps181
    go_wp2_with (first | (go_at_call 136; (with_reducible refine (inS_yes _ _ _ _ (by omega) (by omega)).mono ?_); rintro e w' ⟨rfl, rfl⟩) | (go_at_call 136; (with_reducible refine (inS_no _ _ _ _ H7.out).mono ?_); rintro e w' ⟨rfl, rfl⟩))
    go_ret2
    exact ⟨ret_two HA.out, Below.refl _ _⟩
  ·have HA := Lib.hid (os_no (w := a) (h := b) (o := o) fun h => hb ⟨h.1.2.2.1, h.1.2.2.2⟩)
   have h7 : b < 1 ∨ 16 < b := by omega
   have H7 := Lib.hid h7
   clear h7 hb
   go_enter Tryz.func181, Tryz.ntmps181
   go_wp2_with (first | (go_at_call 136; (with_reducible refine (inS_yes _ _ _ _ (by omega) (by omega)).mono ?_); rintro e w' ⟨rfl, rfl⟩) | (go_at_call 136; (with_reducible refine (inS_no _ _ _ _ H7.out).mono ?_); rintro e w' ⟨rfl, rfl⟩))
   go_ret2
   exact ⟨ret_two HA.out, Below.refl _ _⟩
 ·have HA := Lib.hid (os_no (w := a) (h := b) (o := o) fun h => ha ⟨h.1.1, h.1.2.1⟩)
  have h7 : a < 1 ∨ 16 < a := by omega
  have H7 := Lib.hid h7
  clear h7 ha
  go_enter Tryz.func181, Tryz.ntmps181
  go_wp2_with (first | (go_at_call 136; (with_reducible refine (inS_no _ _ _ _ H7.out).mono ?_); rintro e w' ⟨rfl, rfl⟩))
  go_ret2
  exact ⟨ret_two HA.out, Below.refl _ _⟩
set_option maxHeartbeats 1000000 in
theorem opS_ok (a b o x y : Int) (ho : orOk o) (hp : (⟨a, b, x, y⟩ : Pp).ok) (w : World) : Calls Tryz.prog 219 #[.int .i64 a, .int .i64 b, .int .i64 o, .int .i64 x, .int .i64 y] w (TwoAns ((Pp.ori o ⟨a, b, x, y⟩).x, (Pp.ori o ⟨a, b, x, y⟩).y) w) := by
 have Ho := Lib.hid ho
 have Hp := Lib.hid hp
 obtain ⟨o1, o2⟩ := ho
 obtain ⟨p1, p2, p3, p4, p5, p6, p7, p8⟩ := hp
 dsimp only at *
 obtain ⟨q, hq⟩ : ∃ q : Pp, q = Pp.rep Pp.mir (o / 4).toNat ⟨a, b, x, y⟩ := ⟨_, rfl⟩
 have hqo : q.ok := by rw [hq]; exact Pp.rep_ok (fun _ => Pp.mir_ok) _ Hp.out
 have hA : (Pp.ori o ⟨a, b, x, y⟩) = Pp.rep Pp.qt (o % 4).toNat q := by rw [hq]; rfl
 rw [hA]
 obtain ⟨r, hr⟩ : ∃ r : Nat, (r : Int) = o % 4 := ⟨(o % 4).toNat, by omega⟩
 have hr3 : r ≤ 3 := by omega
 rw [show (o % 4).toNat = r by omega]
 have hr' : o % 4 = (r : Int) := hr.symm
 have Hq := Lib.hid hqo
 by_cases h4 : 4 ≤ o
 ·have e : q = ⟨a, b, a - 1 - x, y⟩ := by rw [hq, show (o / 4).toNat = 1 by omega]; rfl
  clear hq hA hr hqo
  subst e
  go_enter Tryz.func219, Tryz.ntmps219
  go_wp2_with ((go_at_call 136; (with_reducible refine (inS_yes _ _ _ _ (by omega) (by omega)).mono ?_); rintro e w' ⟨rfl, rfl⟩))
  go_loopw [0, 1, 3, 4, 12] (fun s0 s1 s3 s4 i wr => ∃ (k : Nat) (c : Pp), k ≤ r ∧ i = .int .i64 k ∧ s0 = .int .i64 c.w ∧ s1 = .int .i64 c.h ∧ s3 = .int .i64 c.x ∧ s4 = .int .i64 c.y ∧ Hid (c = Pp.rep Pp.qt k ⟨a, b, a - 1 - x, y⟩) ∧ c.ok ∧ wr = w) (fun _ _ _ _ i _ => r - (intOf i).toNat)
  case atStart => exact ⟨0, ⟨a, b, a - 1 - x, y⟩, Nat.zero_le _, rfl, rfl, rfl, rfl, rfl, Lib.hid rfl, Hq.out, rfl⟩
  case round =>
   obtain ⟨k, c, hk, rfl, rfl, rfl, rfl, rfl, Hc, hc, rfl⟩ := hrel
   obtain ⟨cw, ch, cx, cy⟩ := c
   have hc2 := hc
   obtain ⟨c1, c2, c3, c4, c5, c6, c7, c8⟩ := hc2
   dsimp only at *
   by_cases hlt : k < r
   ·have k1 : (k : Int) < (r : Int) := by omega
    go_wp2_with fail
    go_roundw
    case rel => exact ⟨k + 1, ⟨ch, cw, ch - 1 - cy, cx⟩, by omega, by go_num, rfl, rfl, rfl, rfl, Lib.hid (by show _ = Pp.qt _; rw [← Hc.out]; rfl), Pp.qt_ok hc, by first | rfl | trivial⟩
    case measure => simp [intOf]; omega
   ·obtain rfl : k = r := by omega
    go_wp2_with fail
    go_ret2
    exact ⟨ret_two (by rw [← Hc.out]), Below.refl _ _⟩
 ·have e : q = ⟨a, b, x, y⟩ := by rw [hq, show (o / 4).toNat = 0 by omega]; rfl
  clear hq hA hr hqo
  subst e
  go_enter Tryz.func219, Tryz.ntmps219
  go_wp2_with ((go_at_call 136; (with_reducible refine (inS_yes _ _ _ _ (by omega) (by omega)).mono ?_); rintro e w' ⟨rfl, rfl⟩))
  go_loopw [0, 1, 3, 4, 12] (fun s0 s1 s3 s4 i wr => ∃ (k : Nat) (c : Pp), k ≤ r ∧ i = .int .i64 k ∧ s0 = .int .i64 c.w ∧ s1 = .int .i64 c.h ∧ s3 = .int .i64 c.x ∧ s4 = .int .i64 c.y ∧ Hid (c = Pp.rep Pp.qt k ⟨a, b, x, y⟩) ∧ c.ok ∧ wr = w) (fun _ _ _ _ i _ => r - (intOf i).toNat)
  case atStart => exact ⟨0, ⟨a, b, x, y⟩, Nat.zero_le _, rfl, rfl, rfl, rfl, rfl, Lib.hid rfl, Hq.out, rfl⟩
  case round =>
   obtain ⟨k, c, hk, rfl, rfl, rfl, rfl, rfl, Hc, hc, rfl⟩ := hrel
   obtain ⟨cw, ch, cx, cy⟩ := c
   have hc2 := hc
   obtain ⟨c1, c2, c3, c4, c5, c6, c7, c8⟩ := hc2
   dsimp only at *
   by_cases hlt : k < r
   ·have k1 : (k : Int) < (r : Int) := by omega
    go_wp2_with fail
    go_roundw
    case rel => exact ⟨k + 1, ⟨ch, cw, ch - 1 - cy, cx⟩, by omega, by go_num, rfl, rfl, rfl, rfl, Lib.hid (by show _ = Pp.qt _; rw [← Hc.out]; rfl), Pp.qt_ok hc, by first | rfl | trivial⟩
    case measure => simp [intOf]; omega
   ·obtain rfl : k = r := by omega
    go_wp2_with fail
    go_ret2
    exact ⟨ret_two (by rw [← Hc.out]), Below.refl _ _⟩
theorem opS_bad (a b o x y : Int) (w : World) (h : ¬ (orOk o ∧ (⟨a, b, x, y⟩ : Pp).ok)) : Calls Tryz.prog 219 #[.int .i64 a, .int .i64 b, .int .i64 o, .int .i64 x, .int .i64 y] w (TwoAns (-1, -1) w) := by
 unfold orOk Pp.ok at h
 dsimp only at h
 by_cases ha : 1 ≤ a ∧ a ≤ 16
 ·obtain ⟨a1, a2⟩ := ha
  by_cases hb : 1 ≤ b ∧ b ≤ 16
  ·obtain ⟨b1, b2⟩ := hb
   by_cases ho : 0 ≤ o ∧ o ≤ 7
   ·obtain ⟨o1, o2⟩ := ho
    by_cases hx : 0 ≤ x ∧ x ≤ a - 1
    ·obtain ⟨x1, x2⟩ := hx
     have H7 := Lib.hid (show y < 0 ∨ b - 1 < y by omega)
     clear h
     go_enter Tryz.func219, Tryz.ntmps219
     go_wp2_with (first | (go_at_call 136; (with_reducible refine (inS_yes _ _ _ _ (by omega) (by omega)).mono ?_); rintro e w' ⟨rfl, rfl⟩) | (go_at_call 136; (with_reducible refine (inS_no _ _ _ _ H7.out).mono ?_); rintro e w' ⟨rfl, rfl⟩))
     go_ret2
     exact ⟨rfl, Below.refl _ _⟩
    ·have H7 := Lib.hid (show x < 0 ∨ a - 1 < x by omega)
     clear h hx
     go_enter Tryz.func219, Tryz.ntmps219
     go_wp2_with (first | (go_at_call 136; (with_reducible refine (inS_yes _ _ _ _ (by omega) (by omega)).mono ?_); rintro e w' ⟨rfl, rfl⟩) | (go_at_call 136; (with_reducible refine (inS_no _ _ _ _ H7.out).mono ?_); rintro e w' ⟨rfl, rfl⟩))
     go_ret2
     exact ⟨rfl, Below.refl _ _⟩
   ·have H7 := Lib.hid (show o < 0 ∨ 7 < o by omega)
    clear h ho
    go_enter Tryz.func219, Tryz.ntmps219
    go_wp2_with (first | (go_at_call 136; (with_reducible refine (inS_yes _ _ _ _ (by omega) (by omega)).mono ?_); rintro e w' ⟨rfl, rfl⟩) | (go_at_call 136; (with_reducible refine (inS_no _ _ _ _ H7.out).mono ?_); rintro e w' ⟨rfl, rfl⟩))
    go_ret2
    exact ⟨rfl, Below.refl _ _⟩
  ·have H7 := Lib.hid (show b < 1 ∨ 16 < b by omega)
   clear h hb
   go_enter Tryz.func219, Tryz.ntmps219
   go_wp2_with (first | (go_at_call 136; (with_reducible refine (inS_yes _ _ _ _ (by omega) (by omega)).mono ?_); rintro e w' ⟨rfl, rfl⟩) | (go_at_call 136; (with_reducible refine (inS_no _ _ _ _ H7.out).mono ?_); rintro e w' ⟨rfl, rfl⟩))
   go_ret2
   exact ⟨rfl, Below.refl _ _⟩
 ·have H7 := Lib.hid (show a < 1 ∨ 16 < a by omega)
  clear h ha
  go_enter Tryz.func219, Tryz.ntmps219
  go_wp2_with (go_at_call 136; (with_reducible refine (inS_no _ _ _ _ H7.out).mono ?_); rintro e w' ⟨rfl, rfl⟩)
  go_ret2
  exact ⟨rfl, Below.refl _ _⟩
theorem opS (a b o x y : Int) (w : World) : Calls Tryz.prog 219 #[.int .i64 a, .int .i64 b, .int .i64 o, .int .i64 x, .int .i64 y] w (TwoAns (opM a b o x y) w) := by
 by_cases h : orOk o ∧ (⟨a, b, x, y⟩ : Pp).ok
 ·rw [op_yes h.1 h.2]; exact opS_ok a b o x y h.1 h.2 w
 ·rw [op_no h]; exact opS_bad a b o x y w h
end Go.Proofs.YtokniebejilcbaaGreat
namespace Go.Proofs.YtokniebejilcbaaGreat
open Go.RowKit
def sclN (f t k : Nat) : Nat := k * f / t
theorem sclN_lt {f t k : Nat} (h1 : 1 ≤ f) (h2 : k < t) : sclN f t k < f := by
 unfold sclN
 exact Nat.div_lt_of_lt_mul (Nat.mul_lt_mul_of_pos_right h2 h1)
theorem scl_num {f t k : Nat} (h1 : 1 ≤ f ∧ f ≤ 16) (h2 : 1 ≤ t ∧ t ≤ 16) (h3 : k < t) :
  ∃ m q : Nat, (k : Int) * (f : Int) = (m : Int) ∧ m ≤ 256 ∧ Int.tdiv (m : Int) (t : Int) = (q : Int) ∧ (m : Int) / (t : Int) = (q : Int) ∧ sclN f t k = q ∧ q < f := by
 refine ⟨k * f, k * f / t, by simp, Nat.mul_le_mul (show k ≤ 16 by omega) h1.2, ?_, by simp, rfl, sclN_lt h1.1 h3⟩
 rw [Int.tdiv_eq_ediv_of_nonneg (by omega)]; simp
theorem scI_yes {f t k : Nat} (h1 : 1 ≤ f ∧ f ≤ 16) (h2 : 1 ≤ t ∧ t ≤ 16) (h3 : k < t) (w : World) : Calls Tryz.prog 236 #[.int .i64 f, .int .i64 t, .int .i64 k] w fun e w' => e = .returned (.int .i64 (sclN f t k : Nat)) ∧ w = w' := by
 obtain ⟨m, q, hm, m1, d1, d2, hq, q1⟩ := scl_num h1 h2 h3
 have Hq := Lib.hid hq
 obtain ⟨f1, f2⟩ := h1
 obtain ⟨t1, t2⟩ := h2
 have h0 : ¬ (t : Int) = 0 := by omega
 have hk : (k : Int) ≤ (t : Int) - 1 := by omega
 clear hq
 go_enter Tryz.func236, Tryz.ntmps236
 go_wp2_with ((go_at_call 109; (with_reducible refine (inI_yes _ _ _ _ (by omega) (by omega)).mono ?_); rintro e w' ⟨rfl, rfl⟩))
 go_ret
 exact ⟨ret_int (by rw [Hq.out]), rfl⟩
theorem scS_yes {f t k : Nat} (h1 : 1 ≤ f ∧ f ≤ 16) (h2 : 1 ≤ t ∧ t ≤ 16) (h3 : k < t) (w : World) : Calls Tryz.prog 220 #[.int .i64 f, .int .i64 t, .int .i64 k] w fun e w' => e = .returned (.int .i64 (sclN f t k : Nat)) ∧ w = w' := by
 obtain ⟨m, q, hm, m1, d1, d2, hq, q1⟩ := scl_num h1 h2 h3
 have Hq := Lib.hid hq
 obtain ⟨f1, f2⟩ := h1
 obtain ⟨t1, t2⟩ := h2
 have h0 : ¬ (t : Int) = 0 := by omega
 have hk : (k : Int) ≤ (t : Int) - 1 := by omega
 clear hq
 go_enter Tryz.func220, Tryz.ntmps220
 go_wp2_with ((go_at_call 136; (with_reducible refine (inS_yes _ _ _ _ (by omega) (by omega)).mono ?_); rintro e w' ⟨rfl, rfl⟩))
 go_ret
 exact ⟨ret_int (by rw [Hq.out]), rfl⟩
end Go.Proofs.YtokniebejilcbaaGreat
namespace Go.Proofs.YtokniebejilcbaaGreat
open Go.RowKit
def ChAt (w : World) (g : Nat) (a b c d : Int) : Prop := w.heap[g]? = some (.cells #[.int .i64 a, .int .i64 b, .int .i64 c, .int .i64 d] 232 (0, 0))
section
variable {w w' : World} {g B : Nat} {a b c d : Int}
theorem ChAt.lt (h : ChAt w g a b c d) : g < w.heap.size := (Array.getElem?_eq_some_iff.1 h).1
theorem ChAt.cells (h : ChAt w g a b c d) :
  w.cell? ⟨g, 0, none⟩ = some (.int .i64 a) ∧ w.cell? ⟨g, 1, none⟩ = some (.int .i64 b) ∧ w.cell? ⟨g, 2, none⟩ = some (.int .i64 c) ∧ w.cell? ⟨g, 3, none⟩ = some (.int .i64 d) := by
 unfold ChAt at h
 refine ⟨?_, ?_, ?_, ?_⟩ <;> simp [World.cell?, h]
theorem ChAt.frozen (h : ChAt w g a b c d) (o : Nat) : w.frozen? ⟨g, o, none⟩ = false := by
 unfold ChAt at h; simp [World.frozen?, h]
theorem ChAt.below (h : ChAt w g a b c d) (hb : Below B w w') (hg : g < B) : ChAt w' g a b c d := (hb.block g hg).trans h
theorem ChAt.call (h : ChAt w g a b c d) (hb : Below w.heap.size w w') : ChAt w' g a b c d := h.below hb h.lt
theorem ChAt.alloc (h : ChAt w g a b c d) (o : Obj) : ChAt (w.alloc o) g a b c d := (Below.heap_alloc w o g h.lt).trans h
theorem ChAt.new (w : World) (a b c d : Int) : ChAt (w.alloc (.cells #[.int .i64 a, .int .i64 b, .int .i64 c, .int .i64 d] 232)) w.heap.size a b c d := heap_alloc_new w _
theorem ChAt.newAt (h : w.heap.size = g) (a b c d : Int) : ChAt (w.alloc (.cells #[.int .i64 a, .int .i64 b, .int .i64 c, .int .i64 d] 232)) g a b c d := h ▸ ChAt.new w a b c d
theorem ChAt.drew (h : ChAt w g a b c d) : ChAt w.drew g a b c d := h
theorem ChAt.far (h : ChAt w g a b c d) {p : Addr} (hp : g ≠ p.block) (v : Value) : ChAt (w.setCell p v) g a b c d := (Below.heap_setCell w p v g hp).trans h
theorem ChAt.set1 (h : ChAt w g a b c d) (x : Int) : ChAt (w.setCell ⟨g, 1, none⟩ (.int .i64 x)) g a x c d := by
 unfold ChAt at *; simp [World.setCell, Array.getElem?_modify, h]
theorem ChAt.set2 (h : ChAt w g a b c d) (x : Int) : ChAt (w.setCell ⟨g, 2, none⟩ (.int .i64 x)) g a b x d := by
 unfold ChAt at *; simp [World.setCell, Array.getElem?_modify, h]
theorem ChAt.set3 (h : ChAt w g a b c d) (x : Int) : ChAt (w.setCell ⟨g, 3, none⟩ (.int .i64 x)) g a b c x := by
 unfold ChAt at *; simp [World.setCell, Array.getElem?_modify, h]
end
theorem px_call {a w w' : World} (h : Below a.heap.size a w) (hb : Below w.heap.size w w') : Below a.heap.size a w' := h.trans (hb.mono h.size)
end Go.Proofs.YtokniebejilcbaaGreat
namespace Go.Proofs.YtokniebejilcbaaGreat
open Go.RowKit
theorem fadeI_in (p al : Int) (hp : pixOk p) (ha : chOk al) (w : World) :
  Calls Tryz.prog 223 #[.int .i64 p, .int .i64 al] w fun e w' => e = .returned (.int .i64 (fade p al)) ∧ Below w.heap.size w w' := by
 have Hn : Hid (fade p al = fadeK p al) := if_pos ⟨hp, ha⟩
 obtain ⟨c0, h0⟩ : ∃ x, x = p / 16777216 := ⟨_, rfl⟩
 obtain ⟨c1, h1⟩ : ∃ x, x = p / 65536 % 256 := ⟨_, rfl⟩
 obtain ⟨c2, h2⟩ : ∃ x, x = p / 256 % 256 := ⟨_, rfl⟩
 obtain ⟨c3, h3⟩ : ∃ x, x = p % 256 := ⟨_, rfl⟩
 have HU := Lib.hid (unpackedI p hp)
 have Hc0 : Hid (chOk c0) := by rw [h0]; exact ch_0 hp
 have Hc1 : Hid (chOk c1) := by rw [h1]; exact ch_1 p
 have Hc2 : Hid (chOk c2) := by rw [h2]; exact ch_2 p
 have Hc3 : Hid (chOk c3) := by rw [h3]; exact ch_3 p
 rw [fadeK, ← h0, ← h1, ← h2, ← h3] at Hn
 rw [← h0, ← h1, ← h2, ← h3] at HU
 have HP := Lib.hid (partI_ok c0 al Hc0.out ha)
 have Hx := Lib.hid (part_ok Hc0.out ha)
 obtain ⟨x, hx⟩ : ∃ x, x = pxPart c0 al := ⟨_, rfl⟩
 rw [← hx] at HP Hn Hx
 have Hp := Lib.hid hp
 have Ha := Lib.hid ha
 clear h0 h1 h2 h3 hx hp ha
 go_enter Tryz.func223, Tryz.ntmps223
 go_wp2_with fail
 refine (pixI_yes p Hp.out _).mono ?_
 rintro e w' ⟨rfl, rfl⟩
 go_wp2_with fail
 refine (inI_yes _ 0 255 _ Ha.out.1 Ha.out.2).mono ?_
 rintro e w' ⟨rfl, rfl⟩
 go_wp2_with fail
 refine (HU.out _).mono ?_
 rintro e w1 ⟨rfl, K⟩
 go_wp2_with fail
 refine (HP.out _).mono ?_
 rintro e w' ⟨rfl, rfl⟩
 go_wp2_with fail
 refine (packedI x c1 c2 c3 Hx.out Hc1.out Hc2.out Hc3.out _).mono ?_
 rintro e w2 ⟨rfl, hb⟩
 go_wp2_with fail
 go_ret
 exact ⟨ret_int Hn.out.symm, px_call (by repeat first | exact K | refine Below.setCell ?_ (by have := K.size; first | (simp; done) | (simp; omega)) _ | refine Below.alloc ?_ (by have := K.size; first | (simp; done) | (simp; omega)) _) hb⟩
theorem fadeI_any (p al : Int) (w : World) :
  Calls Tryz.prog 223 #[.int .i64 p, .int .i64 al] w fun e w' => e = .returned (.int .i64 (fade p al)) ∧ Below w.heap.size w w' := by
 by_cases hp : pixOk p
 ·by_cases ha : chOk al
  ·exact fadeI_in p al hp ha w
  ·have Hn : Hid (fade p al = -1) := if_neg fun h => ha h.2
   have Hp := Lib.hid hp
   have Ha := Lib.hid ha
   clear hp ha
   go_enter Tryz.func223, Tryz.ntmps223
   go_wp2_with fail
   refine (pixI_yes p Hp.out _).mono ?_
   rintro e w' ⟨rfl, rfl⟩
   go_wp2_with fail
   refine (inI_no _ 0 255 _ (ch_no Ha.out)).mono ?_
   rintro e w' ⟨rfl, rfl⟩
   go_wp2
   go_ret
   exact ⟨ret_int Hn.out.symm, Below.refl _ _⟩
 ·have Hn : Hid (fade p al = -1) := if_neg fun h => hp h.1
  have Hp := Lib.hid hp
  clear hp
  go_enter Tryz.func223, Tryz.ntmps223
  go_wp2_with fail
  refine (pixI_no p Hp.out _).mono ?_
  rintro e w' ⟨rfl, rfl⟩
  go_wp2
  go_ret
  exact ⟨ret_int Hn.out.symm, Below.refl _ _⟩
end Go.Proofs.YtokniebejilcbaaGreat
namespace Go.Proofs.YtokniebejilcbaaGreat
open Go.RowKit
theorem over_no {p q : Int} (h : ¬ (pixOk p ∧ pixOk q)) : over p q = -1 := if_neg h
theorem over_yes {p q : Int} (hp : pixOk p) (hq : pixOk q) : over p q = overK p q := if_pos ⟨hp, hq⟩
set_option maxHeartbeats 600000 in
theorem overS_in (p q : Int) (hp : pixOk p) (hq : pixOk q) (w : World) :
  Calls Tryz.prog 155 #[.int .i64 p, .int .i64 q] w fun e w' => e = .returned (.int .i64 (over p q)) ∧ w = w' := by
 have Hn : Hid (over p q = overK p q) := over_yes hp hq
 obtain ⟨al, ha⟩ : ∃ x, x = p / 16777216 := ⟨_, rfl⟩
 obtain ⟨x1, hx1⟩ : ∃ x, x = p / 65536 % 256 := ⟨_, rfl⟩
 obtain ⟨x2, hx2⟩ : ∃ x, x = p / 256 % 256 := ⟨_, rfl⟩
 obtain ⟨x3, hx3⟩ : ∃ x, x = p % 256 := ⟨_, rfl⟩
 obtain ⟨y1, hy1⟩ : ∃ x, x = q / 65536 % 256 := ⟨_, rfl⟩
 obtain ⟨y2, hy2⟩ : ∃ x, x = q / 256 % 256 := ⟨_, rfl⟩
 obtain ⟨y3, hy3⟩ : ∃ x, x = q % 256 := ⟨_, rfl⟩
 have hal : chOk al := by rw [ha]; exact ch_0 hp
 have hbl : chOk (255 - al) := by unfold chOk at hal ⊢; omega
 have Cp0 := Lib.hid (chS_in p 0 hp (by omega) (by omega))
 have Cp1 := Lib.hid (chS_in p 1 hp (by omega) (by omega))
 have Cp2 := Lib.hid (chS_in p 2 hp (by omega) (by omega))
 have Cp3 := Lib.hid (chS_in p 3 hp (by omega) (by omega))
 have Cq1 := Lib.hid (chS_in q 1 hq (by omega) (by omega))
 have Cq2 := Lib.hid (chS_in q 2 hq (by omega) (by omega))
 have Cq3 := Lib.hid (chS_in q 3 hq (by omega) (by omega))
 rw [chan_0 hp, ← ha] at Cp0
 rw [chan_1 hp, ← hx1] at Cp1
 rw [chan_2 hp, ← hx2] at Cp2
 rw [chan_3 hp, ← hx3] at Cp3
 rw [chan_1 hq, ← hy1] at Cq1
 rw [chan_2 hq, ← hy2] at Cq2
 rw [chan_3 hq, ← hy3] at Cq3
 have k1 : chOk x1 := by rw [hx1]; exact ch_1 p
 have k2 : chOk x2 := by rw [hx2]; exact ch_2 p
 have k3 : chOk x3 := by rw [hx3]; exact ch_3 p
 have l1 : chOk y1 := by rw [hy1]; exact ch_1 q
 have l2 : chOk y2 := by rw [hy2]; exact ch_2 q
 have l3 : chOk y3 := by rw [hy3]; exact ch_3 q
 have P1 := Lib.hid (partS_ok x1 al k1 hal)
 have P2 := Lib.hid (partS_ok x2 al k2 hal)
 have P3 := Lib.hid (partS_ok x3 al k3 hal)
 have Q1 := Lib.hid (partS_ok y1 (255 - al) l1 hbl)
 have Q2 := Lib.hid (partS_ok y2 (255 - al) l2 hbl)
 have Q3 := Lib.hid (partS_ok y3 (255 - al) l3 hbl)
 obtain ⟨a1, ea1⟩ : ∃ x, x = pxPart x1 al := ⟨_, rfl⟩
 obtain ⟨a2, ea2⟩ : ∃ x, x = pxPart x2 al := ⟨_, rfl⟩
 obtain ⟨a3, ea3⟩ : ∃ x, x = pxPart x3 al := ⟨_, rfl⟩
 obtain ⟨b1, eb1⟩ : ∃ x, x = pxPart y1 (255 - al) := ⟨_, rfl⟩
 obtain ⟨b2, eb2⟩ : ∃ x, x = pxPart y2 (255 - al) := ⟨_, rfl⟩
 obtain ⟨b3, eb3⟩ : ∃ x, x = pxPart y3 (255 - al) := ⟨_, rfl⟩
 obtain ⟨a10, a11⟩ : chOk a1 := by rw [ea1]; exact part_ok k1 hal
 obtain ⟨a20, a21⟩ : chOk a2 := by rw [ea2]; exact part_ok k2 hal
 obtain ⟨a30, a31⟩ : chOk a3 := by rw [ea3]; exact part_ok k3 hal
 obtain ⟨b10, b11⟩ : chOk b1 := by rw [eb1]; exact part_ok l1 hbl
 obtain ⟨b20, b21⟩ : chOk b2 := by rw [eb2]; exact part_ok l2 hbl
 obtain ⟨b30, b31⟩ : chOk b3 := by rw [eb3]; exact part_ok l3 hbl
 rw [overK, ← ha, ← hx1, ← hx2, ← hx3, ← hy1, ← hy2, ← hy3, mixC, mixC, mixC, ← ea1, ← ea2, ← ea3, ← eb1, ← eb2, ← eb3, pack4] at Hn
 rw [← ea1] at P1
 rw [← ea2] at P2
 rw [← ea3] at P3
 rw [← eb1] at Q1
 rw [← eb2] at Q2
 rw [← eb3] at Q3
 obtain ⟨al0, al1⟩ := hal
 have Hp := Lib.hid hp
 have Hq := Lib.hid hq
 clear ha hx1 hx2 hx3 hy1 hy2 hy3 ea1 ea2 ea3 eb1 eb2 eb3 hbl k1 k2 k3 l1 l2 l3 hp hq
 go_enter Tryz.func155, Tryz.ntmps155
 go_wp2_with fail
 refine (pixS_yes p Hp.out _).mono ?_
 rintro e w' ⟨rfl, rfl⟩
 go_wp2_with fail
 refine (pixS_yes q Hq.out _).mono ?_
 rintro e w' ⟨rfl, rfl⟩
 go_wp2_with fail
 refine (Cp0.out _).mono ?_
 rintro e w' ⟨rfl, rfl⟩
 go_wp2_with fail
 go_loop [6, 7] (fun s i => (i = .int .i64 1 ∧ s = .int .i64 255) ∨ (i = .int .i64 2 ∧ s = .int .i64 (65280 + a1 + b1)) ∨ (i = .int .i64 3 ∧ s = .int .i64 ((65280 + a1 + b1) * 256 + a2 + b2)) ∨ (i = .int .i64 4 ∧ s = .int .i64 (((65280 + a1 + b1) * 256 + a2 + b2) * 256 + a3 + b3))) (fun _ i => 4 - (intOf i).toNat)
 case atStart => exact .inl ⟨rfl, rfl⟩
 case round =>
  rcases hrel with ⟨rfl, rfl⟩ | ⟨rfl, rfl⟩ | ⟨rfl, rfl⟩ | ⟨rfl, rfl⟩
  ·go_wp2_with fail
   refine (Cp1.out _).mono ?_
   rintro e w' ⟨rfl, rfl⟩
   go_wp2_with fail
   refine (P1.out _).mono ?_
   rintro e w' ⟨rfl, rfl⟩
   go_wp2_with fail
   refine (Cq1.out _).mono ?_
   rintro e w' ⟨rfl, rfl⟩
   go_wp2_with fail
   refine (Q1.out _).mono ?_
   rintro e w' ⟨rfl, rfl⟩
   go_wp2_with fail
   go_round
   case rel => exact .inr (.inl ⟨rfl, rfl⟩)
   case measure => simp [intOf]
  ·go_wp2_with fail
   refine (Cp2.out _).mono ?_
   rintro e w' ⟨rfl, rfl⟩
   go_wp2_with fail
   refine (P2.out _).mono ?_
   rintro e w' ⟨rfl, rfl⟩
   go_wp2_with fail
   refine (Cq2.out _).mono ?_
   rintro e w' ⟨rfl, rfl⟩
   go_wp2_with fail
   refine (Q2.out _).mono ?_
   rintro e w' ⟨rfl, rfl⟩
   go_wp2_with fail
   go_round
   case rel => exact .inr (.inr (.inl ⟨rfl, rfl⟩))
   case measure => simp [intOf]
  ·go_wp2_with fail
   refine (Cp3.out _).mono ?_
   rintro e w' ⟨rfl, rfl⟩
   go_wp2_with fail
   refine (P3.out _).mono ?_
   rintro e w' ⟨rfl, rfl⟩
   go_wp2_with fail
   refine (Cq3.out _).mono ?_
   rintro e w' ⟨rfl, rfl⟩
   go_wp2_with fail
   refine (Q3.out _).mono ?_
   rintro e w' ⟨rfl, rfl⟩
   go_wp2_with fail
   go_round
   case rel => exact .inr (.inr (.inr ⟨rfl, rfl⟩))
   case measure => simp [intOf]
  ·go_wp2_with fail
   go_ret
   exact ⟨ret_int (by rw [Hn.out]; omega), rfl⟩
theorem overS_any (p q : Int) (w : World) :
  Calls Tryz.prog 155 #[.int .i64 p, .int .i64 q] w fun e w' => e = .returned (.int .i64 (over p q)) ∧ w = w' := by
 by_cases hp : pixOk p
 ·by_cases hq : pixOk q
  ·exact overS_in p q hp hq w
  ·have Hn : Hid (over p q = -1) := over_no fun h => hq h.2
   have Hp := Lib.hid hp
   have Hq := Lib.hid hq
   clear hp hq
   go_enter Tryz.func155, Tryz.ntmps155
   go_wp2_with fail
   refine (pixS_yes p Hp.out _).mono ?_
   rintro e w' ⟨rfl, rfl⟩
   go_wp2_with fail
   refine (pixS_no q Hq.out _).mono ?_
   rintro e w' ⟨rfl, rfl⟩
   go_wp2
   go_ret
   exact ⟨ret_int Hn.out.symm, rfl⟩
 ·have Hn : Hid (over p q = -1) := over_no fun h => hp h.1
  have Hp := Lib.hid hp
  clear hp
  go_enter Tryz.func155, Tryz.ntmps155
  go_wp2_with fail
  refine (pixS_no p Hp.out _).mono ?_
  rintro e w' ⟨rfl, rfl⟩
  go_wp2
  go_ret
  exact ⟨ret_int Hn.out.symm, rfl⟩
end Go.Proofs.YtokniebejilcbaaGreat
namespace Go.Proofs.YtokniebejilcbaaGreat
open Go.RowKit
set_option maxHeartbeats 1000000 in
theorem overI_in (p q : Int) (hp : pixOk p) (hq : pixOk q) (w : World) :
  Calls Tryz.prog 205 #[.int .i64 p, .int .i64 q] w fun e w' => e = .returned (.int .i64 (over p q)) ∧ Below w.heap.size w w' := by
 have Hn : Hid (over p q = overK p q) := over_yes hp hq
 obtain ⟨al, ha⟩ : ∃ x, x = p / 16777216 := ⟨_, rfl⟩
 obtain ⟨x1, hx1⟩ : ∃ x, x = p / 65536 % 256 := ⟨_, rfl⟩
 obtain ⟨x2, hx2⟩ : ∃ x, x = p / 256 % 256 := ⟨_, rfl⟩
 obtain ⟨x3, hx3⟩ : ∃ x, x = p % 256 := ⟨_, rfl⟩
 obtain ⟨y0, hy0⟩ : ∃ x, x = q / 16777216 := ⟨_, rfl⟩
 obtain ⟨y1, hy1⟩ : ∃ x, x = q / 65536 % 256 := ⟨_, rfl⟩
 obtain ⟨y2, hy2⟩ : ∃ x, x = q / 256 % 256 := ⟨_, rfl⟩
 obtain ⟨y3, hy3⟩ : ∃ x, x = q % 256 := ⟨_, rfl⟩
 have hal : chOk al := by rw [ha]; exact ch_0 hp
 have hbl : chOk (255 - al) := by unfold chOk at hal ⊢; omega
 have Up := Lib.hid (unpackedI p hp)
 have Uq := Lib.hid (unpackedI q hq)
 rw [← ha, ← hx1, ← hx2, ← hx3] at Up
 rw [← hy0, ← hy1, ← hy2, ← hy3] at Uq
 have k1 : chOk x1 := by rw [hx1]; exact ch_1 p
 have k2 : chOk x2 := by rw [hx2]; exact ch_2 p
 have k3 : chOk x3 := by rw [hx3]; exact ch_3 p
 have l1 : chOk y1 := by rw [hy1]; exact ch_1 q
 have l2 : chOk y2 := by rw [hy2]; exact ch_2 q
 have l3 : chOk y3 := by rw [hy3]; exact ch_3 q
 have M1 : Hid (chOk (mixC x1 y1 al)) := mix_ok k1 l1 hal
 have M2 : Hid (chOk (mixC x2 y2 al)) := mix_ok k2 l2 hal
 have M3 : Hid (chOk (mixC x3 y3 al)) := mix_ok k3 l3 hal
 have P1 := Lib.hid (partI_ok x1 al k1 hal)
 have P2 := Lib.hid (partI_ok x2 al k2 hal)
 have P3 := Lib.hid (partI_ok x3 al k3 hal)
 have Q1 := Lib.hid (partI_ok y1 (255 - al) l1 hbl)
 have Q2 := Lib.hid (partI_ok y2 (255 - al) l2 hbl)
 have Q3 := Lib.hid (partI_ok y3 (255 - al) l3 hbl)
 obtain ⟨a1, ea1⟩ : ∃ x, x = pxPart x1 al := ⟨_, rfl⟩
 obtain ⟨a2, ea2⟩ : ∃ x, x = pxPart x2 al := ⟨_, rfl⟩
 obtain ⟨a3, ea3⟩ : ∃ x, x = pxPart x3 al := ⟨_, rfl⟩
 obtain ⟨b1, eb1⟩ : ∃ x, x = pxPart y1 (255 - al) := ⟨_, rfl⟩
 obtain ⟨b2, eb2⟩ : ∃ x, x = pxPart y2 (255 - al) := ⟨_, rfl⟩
 obtain ⟨b3, eb3⟩ : ∃ x, x = pxPart y3 (255 - al) := ⟨_, rfl⟩
 obtain ⟨a10, a11⟩ : chOk a1 := by rw [ea1]; exact part_ok k1 hal
 obtain ⟨a20, a21⟩ : chOk a2 := by rw [ea2]; exact part_ok k2 hal
 obtain ⟨a30, a31⟩ : chOk a3 := by rw [ea3]; exact part_ok k3 hal
 obtain ⟨b10, b11⟩ : chOk b1 := by rw [eb1]; exact part_ok l1 hbl
 obtain ⟨b20, b21⟩ : chOk b2 := by rw [eb2]; exact part_ok l2 hbl
 obtain ⟨b30, b31⟩ : chOk b3 := by rw [eb3]; exact part_ok l3 hbl
 rw [overK, ← ha, ← hx1, ← hx2, ← hx3, ← hy1, ← hy2, ← hy3, mixC, mixC, mixC, ← ea1, ← ea2, ← ea3, ← eb1, ← eb2, ← eb3] at Hn
 rw [mixC, ← ea1, ← eb1] at M1
 rw [mixC, ← ea2, ← eb2] at M2
 rw [mixC, ← ea3, ← eb3] at M3
 rw [← ea1] at P1
 rw [← ea2] at P2
 rw [← ea3] at P3
 rw [← eb1] at Q1
 rw [← eb2] at Q2
 rw [← eb3] at Q3
 obtain ⟨al0, al1⟩ := hal
 have Hp := Lib.hid hp
 have Hq := Lib.hid hq
 have s1 : IntKind.i64.wrap (a1 + b1) = a1 + b1 := IntWalk.i64_in _ (by omega)
 have s2 : IntKind.i64.wrap (a2 + b2) = a2 + b2 := IntWalk.i64_in _ (by omega)
 have s3 : IntKind.i64.wrap (a3 + b3) = a3 + b3 := IntWalk.i64_in _ (by omega)
 have s4 : IntKind.i64.wrap (255 - al) = 255 - al := IntWalk.i64_in _ (by omega)
 clear ha hx1 hx2 hx3 hy0 hy1 hy2 hy3 ea1 ea2 ea3 eb1 eb2 eb3 hbl k1 k2 k3 l1 l2 l3 hp hq
 go_enter Tryz.func205, Tryz.ntmps205
 go_wp2_with fail
 refine (pixI_yes p Hp.out _).mono ?_
 rintro e w' ⟨rfl, rfl⟩
 go_wp2_with fail
 refine (pixI_yes q Hq.out _).mono ?_
 rintro e w' ⟨rfl, rfl⟩
 go_wp2_with fail
 refine (Up.out _).mono ?_
 rintro e w1 ⟨rfl, K⟩
 go_wp2_with fail
 refine (Uq.out _).mono ?_
 rintro e w2 ⟨rfl, hb⟩
 replace K := px_call K hb
 have hlw := K.size
 clear hb
 go_wp2_with fail
 go_loopw [9] (fun i wr => ∃ (k : Nat) (m1 m2 m3 : Int), 1 ≤ k ∧ k ≤ 4 ∧ i = .int .i64 k ∧ Hid ((1 < k → m1 = a1 + b1) ∧ (2 < k → m2 = a2 + b2) ∧ (3 < k → m3 = a3 + b3)) ∧
  ChAt wr w2.heap.size al x1 x2 x3 ∧ ChAt wr (w2.heap.size + 1) y0 y1 y2 y3 ∧ ChAt wr (w2.heap.size + 1 + 1) 255 m1 m2 m3 ∧ Below w.heap.size w wr) (fun i _ => 4 - (intOf i).toNat)
 case atStart =>
  exact ⟨1, 0, 0, 0, by omega, by omega, rfl, ⟨fun h => by omega, fun h => by omega, fun h => by omega⟩, ((ChAt.new w2 al x1 x2 x3).alloc _).alloc _, (ChAt.newAt (by simp) y0 y1 y2 y3).alloc _, ChAt.newAt (by simp) 255 0 0 0,
   ((K.alloc K.size _).alloc (by simp; omega) _).alloc (by simp; omega) _⟩
 case round =>
  clear K
  obtain ⟨k, m1, m2, m3, hk0, hk, rfl, Hm, hU, hL, hM, K⟩ := hrel
  have hsz := hM.lt
  have mf := hM.frozen
  have hsz1 := hL.lt
  have hsz0 := hU.lt
  obtain ⟨u0, u1, u2, u3⟩ := hU.cells
  obtain ⟨v0, v1, v2, v3⟩ := hL.cells
  obtain ⟨n0, n1, n2, n3⟩ := hM.cells
  have HU := Lib.hid hU
  have HL := Lib.hid hL
  have HM := Lib.hid hM
  have HK := Lib.hid K
  clear hU hL hM K
  obtain rfl | rfl | rfl | rfl : k = 1 ∨ k = 2 ∨ k = 3 ∨ k = 4 := by omega
  ·have P := P1
   have Q := Q1
   clear P1 P2 P3 Q1 Q2 Q3
   clear u0 u2 u3 v0 v2 v3
   go_wp2_with fail
   go_region_held3 (fun w' => w'.cell? ⟨w2.heap.size, 1, none⟩ = some (.int .i64 x1) ∧ w'.cell? ⟨w2.heap.size + 1, 1, none⟩ = some (.int .i64 y1))
    (first | exact ⟨((HU.out.far (p := ⟨w2.heap.size + 1 + 1, 1, none⟩) (by show w2.heap.size ≠ w2.heap.size + 1 + 1; omega) _).drew.cells).2.1, ((HL.out.far (p := ⟨w2.heap.size + 1 + 1, 1, none⟩) (by show w2.heap.size + 1 ≠ w2.heap.size + 1 + 1; omega) _).drew.cells).2.1⟩ | go_keep | fail)
    (first | (go_at_call 224; (with_reducible refine (P.out _).mono ?_); rintro e w' ⟨rfl, rfl⟩) | (go_at_call 224; (with_reducible refine (Q.out _).mono ?_); rintro e w' ⟨rfl, rfl⟩))
   all_goals
    go_wp2_with fail
    go_roundw
    case rel => exact ⟨2, _, m2, m3, by omega, by omega, rfl, ⟨fun _ => rfl, fun h => by omega, fun h => by omega⟩, HU.out.drew.far (by show w2.heap.size ≠ w2.heap.size + 1 + 1; omega) _, HL.out.drew.far (by show w2.heap.size + 1 ≠ w2.heap.size + 1 + 1; omega) _, HM.out.drew.set1 _, HK.out.drew.setCell (by simp; omega) _⟩
    case measure => simp [intOf]
  ·have P := P2
   have Q := Q2
   clear P1 P2 P3 Q1 Q2 Q3
   clear u0 u1 u3 v0 v1 v3
   go_wp2_with fail
   go_region_held3 (fun w' => w'.cell? ⟨w2.heap.size, 2, none⟩ = some (.int .i64 x2) ∧ w'.cell? ⟨w2.heap.size + 1, 2, none⟩ = some (.int .i64 y2))
    (first | exact ⟨((HU.out.far (p := ⟨w2.heap.size + 1 + 1, 2, none⟩) (by show w2.heap.size ≠ w2.heap.size + 1 + 1; omega) _).drew.cells).2.2.1, ((HL.out.far (p := ⟨w2.heap.size + 1 + 1, 2, none⟩) (by show w2.heap.size + 1 ≠ w2.heap.size + 1 + 1; omega) _).drew.cells).2.2.1⟩ | go_keep | fail)
    (first | (go_at_call 224; (with_reducible refine (P.out _).mono ?_); rintro e w' ⟨rfl, rfl⟩) | (go_at_call 224; (with_reducible refine (Q.out _).mono ?_); rintro e w' ⟨rfl, rfl⟩))
   all_goals
    go_wp2_with fail
    go_roundw
    case rel => exact ⟨3, m1, _, m3, by omega, by omega, rfl, ⟨fun _ => Hm.out.1 (by omega), fun _ => rfl, fun h => by omega⟩, HU.out.drew.far (by show w2.heap.size ≠ w2.heap.size + 1 + 1; omega) _, HL.out.drew.far (by show w2.heap.size + 1 ≠ w2.heap.size + 1 + 1; omega) _, HM.out.drew.set2 _, HK.out.drew.setCell (by simp; omega) _⟩
    case measure => simp [intOf]
  ·have P := P3
   have Q := Q3
   clear P1 P2 P3 Q1 Q2 Q3
   clear u0 u1 u2 v0 v1 v2
   go_wp2_with fail
   go_region_held3 (fun w' => w'.cell? ⟨w2.heap.size, 3, none⟩ = some (.int .i64 x3) ∧ w'.cell? ⟨w2.heap.size + 1, 3, none⟩ = some (.int .i64 y3))
    (first | exact ⟨((HU.out.far (p := ⟨w2.heap.size + 1 + 1, 3, none⟩) (by show w2.heap.size ≠ w2.heap.size + 1 + 1; omega) _).drew.cells).2.2.2, ((HL.out.far (p := ⟨w2.heap.size + 1 + 1, 3, none⟩) (by show w2.heap.size + 1 ≠ w2.heap.size + 1 + 1; omega) _).drew.cells).2.2.2⟩ | go_keep | fail)
    (first | (go_at_call 224; (with_reducible refine (P.out _).mono ?_); rintro e w' ⟨rfl, rfl⟩) | (go_at_call 224; (with_reducible refine (Q.out _).mono ?_); rintro e w' ⟨rfl, rfl⟩))
   all_goals
    go_wp2_with fail
    go_roundw
    case rel => exact ⟨4, m1, m2, _, by omega, by omega, rfl, ⟨fun _ => Hm.out.1 (by omega), fun _ => Hm.out.2.1 (by omega), fun _ => rfl⟩, HU.out.drew.far (by show w2.heap.size ≠ w2.heap.size + 1 + 1; omega) _, HL.out.drew.far (by show w2.heap.size + 1 ≠ w2.heap.size + 1 + 1; omega) _, HM.out.drew.set3 _, HK.out.drew.setCell (by simp; omega) _⟩
    case measure => simp [intOf]
  ·obtain rfl : m1 = a1 + b1 := Hm.out.1 (by omega)
   obtain rfl : m2 = a2 + b2 := Hm.out.2.1 (by omega)
   obtain rfl : m3 = a3 + b3 := Hm.out.2.2 (by omega)
   go_wp2_with fail
   refine (packedI 255 _ _ _ ch_255 M1.out M2.out M3.out _).mono ?_
   rintro e w3 ⟨rfl, hb⟩
   go_wp2_with fail
   go_ret
   exact ⟨ret_int Hn.out.symm, px_call HK.out hb⟩
theorem overI_any (p q : Int) (w : World) :
  Calls Tryz.prog 205 #[.int .i64 p, .int .i64 q] w fun e w' => e = .returned (.int .i64 (over p q)) ∧ Below w.heap.size w w' := by
 by_cases hp : pixOk p
 ·by_cases hq : pixOk q
  ·exact overI_in p q hp hq w
  ·have Hn : Hid (over p q = -1) := over_no fun h => hq h.2
   have Hp := Lib.hid hp
   have Hq := Lib.hid hq
   clear hp hq
   go_enter Tryz.func205, Tryz.ntmps205
   go_wp2_with fail
   refine (pixI_yes p Hp.out _).mono ?_
   rintro e w' ⟨rfl, rfl⟩
   go_wp2_with fail
   refine (pixI_no q Hq.out _).mono ?_
   rintro e w' ⟨rfl, rfl⟩
   go_wp2
   go_ret
   exact ⟨ret_int Hn.out.symm, Below.refl _ _⟩
 ·have Hn : Hid (over p q = -1) := over_no fun h => hp h.1
  have Hp := Lib.hid hp
  clear hp
  go_enter Tryz.func205, Tryz.ntmps205
  go_wp2_with fail
  refine (pixI_no p Hp.out _).mono ?_
  rintro e w' ⟨rfl, rfl⟩
  go_wp2
  go_ret
  exact ⟨ret_int Hn.out.symm, Below.refl _ _⟩
end Go.Proofs.YtokniebejilcbaaGreat
namespace Go.Proofs.YtokniebejilcbaaGreat
open Go.RowKit
theorem big_no (w : World) (a : Option Addr) (len cap : Nat) (h : len ≤ 1048576) :
  Calls Tryz.prog 22 #[.slice a len cap] w fun e w' => e = .returned (.bool false) ∧ w = w' := by
 have hd : decide ((1048576 : Int) < len) = false := by simp; omega
 go_enter Tryz.func22, Tryz.ntmps22
 go_wp2
 go_ret
 exact ⟨ret_bool (by first | rfl | (simp; done) | (simp; omega)), rfl⟩
theorem big_yes (w : World) (a : Option Addr) (len cap : Nat) (h : 1048576 < len) :
  Calls Tryz.prog 22 #[.slice a len cap] w fun e w' => e = .returned (.bool true) ∧ w = w' := by
 go_enter Tryz.func22, Tryz.ntmps22
 go_wp2
 go_ret
 exact ⟨ret_bool (by first | rfl | (simp; done) | (simp; omega)), rfl⟩
end Go.Proofs.YtokniebejilcbaaGreat
