/- The contracts of NewImage, of the program and of its model. No statement is proved here. -/
import Derived.Test.YtfolphadhmgbiaaMA
import Derived.Test.YtfolphadhmgbiaaImR
import Derived.Test.YtfolphadhmgbiaaImO
import Derived.Test.YtfolphadhmgbiaaImL
import Derived.Test.YtfolphadhmgbiaaImC
import Derived.Test.YtfolphadhmgbiaaProg
import Derived.WalkKit
import Derived.ProofKit
import Derived.OpenShut
import Derived.WalkLawsBesides
import Derived.WalkSpells
import Derived.ShutString
import Derived.ChangeOld
import Derived.Below
import Derived.Lib.Hide
import Derived.BigQuiet
import Derived.Deep.QuietTactic
import Derived.Maps.AppendAt
import Derived.Deep.OwnRows
import Derived.Handy
import Derived.Deep.Draws
import Derived.OwnWalk
import Derived.Deep.AppendLies
import Derived.Deep.LoopGhost
import Derived.Deep.Onto
import Derived.Laws.BitsAllLaws
import Derived.Lib.QuoteBits
import Derived.Test.YtfolphadhmgbiaaShelf
import Derived.Laws.CopyOwn
import Derived.Deep.RegionLaw
import Derived.Deep.RegionHeld3
import Derived.Deep.DeepCutAuto
import Derived.Great.BuildSlice
namespace Go.Proofs.Ytfolphadhmgbiaa
open Go.RowKit
/-- An image: its numbers and its pixels. -/
structure Im where
  w : Int
  h : Int
  d : List Int
def zeroIm : Im := ⟨0, 0, []⟩
def flatN (W H p : Int) : List Int := tabI (W * H).toNat (fun _ => p)
open Classical in
noncomputable def newIm (W H p : Int) : Im := if szOk W H ∧ pixOk p then ⟨W, H, flatN W H p⟩ else zeroIm
theorem new_yes {W H p : Int} (h1 : szOk W H) (h2 : pixOk p) : newIm W H p = ⟨W, H, flatN W H p⟩ := if_pos ⟨h1, h2⟩
theorem new_no {W H p : Int} (h : ¬ (szOk W H ∧ pixOk p)) : newIm W H p = zeroIm := if_neg h
/-- What answers the image I. -/
def AnsIm (I : Im) (w : World) (e : Ending) (w' : World) : Prop := ImAns I.w I.h I.d w e w'
theorem flat_size {W H : Int} (h : szOk W H) (p : Int) : ∃ n : Nat, 1 ≤ n ∧ n ≤ 256 ∧ (n : Int) = W * H ∧ flatN W H p = tabI n (fun _ => p) := by
  have h1 := sz_mul h
  have h2 := sz_pos h
  exact ⟨(W * H).toNat, by omega, by omega, by omega, rfl⟩
theorem zeroIm_ans {w w' : World} (hb : Below w.heap.size w w') : AnsIm zeroIm w (.returned (.agg #[.int .i64 0, .int .i64 0, .slice none 0 0])) w' :=
  ⟨_, rfl, World.ownsRow_nil _ _ _ _, hb⟩
set_option maxHeartbeats 600000 in
set_option maxRecDepth 10000 in
theorem newI (W H p : Int) (w : World) : Calls Try.prog 65 #[.int .i64 W, .int .i64 H, .int .i64 p] w (AnsIm (newIm W H p) w) := by
  have hR := ImAt.new w 35 0 0 (.slice none 0 0)
  have hw := (Below.refl w.heap.size w).alloc (Nat.le_refl _) (.cells #[.int .i64 0, .int .i64 0, .slice none 0 0] 35)
  by_cases hs : szOk W H
  · by_cases hp : pixOk p
    · obtain ⟨n, n1, n2, hn, hd⟩ := flat_size hs p
      have HA := Lib.hid (show newIm W H p = ⟨W, H, tabI n (fun _ => p)⟩ by rw [new_yes hs hp, hd])
      have Hs := Lib.hid hs
      have Hp := Lib.hid hp
      have hn' : W * H = (n : Int) := hn.symm
      have HR := Lib.hid hR
      have Hw := Lib.hid hw
      clear hs hp hd hn hR hw
      go_enter Try.func65, Try.ntmps65
      go_wp2_with (first | (go_at_call 58; (with_reducible refine (szI_yes _ _ Hs.out _).mono ?_); rintro e w' ⟨rfl, rfl⟩) | (go_at_call 118; (with_reducible refine (pixI_yes _ Hp.out _).mono ?_); rintro e w' ⟨rfl, rfl⟩))
      have hc : ((w.alloc (.cells #[.int .i64 0, .int .i64 0, .slice none 0 0] 35)).alloc (.cells #[.int .i64 p] 3)).cell? ⟨w.heap.size + 1, 0, none⟩ = some (.int .i64 p) := cell_newAt (by simp) _ _
      refine (repI p n n1 n2 (w.heap.size + 1) _ hc).mono ?_
      rintro e w2 ⟨v, rfl, hown, hb⟩
      have hI := (HR.out.alloc _).call hb
      have hz := hb.size
      obtain ⟨A, c, hv⟩ := ownI_shape hown
      subst hv
      obtain ⟨c0, c1, c2⟩ := hI.cells
      have f0 := hI.frozen 0
      have f1 := hI.frozen 1
      have f2 := hI.frozen 2
      have Hown := Lib.hid hown
      have Hb := Lib.hid (Hw.out.trans ((belI_call ((Below.refl _ _).alloc (Nat.le_refl _) _) hb).mono (by simp)))
      have HI := Lib.hid hI
      simp at hz
      clear hown hb hI hc
      go_wp2_with fail
      have j := HI.out.set3 W H (.slice A n c)
      obtain ⟨x0, x1, x2⟩ := j.cells
      refine bodyPost_ret (v := .agg #[.int .i64 W, .int .i64 H, .slice A n c]) (by simp [results, Try.results65, go_sem, x0, x1, x2]) rfl ?_
      rw [HA.out]
      refine ⟨_, rfl, ?_, ((Hb.out.setCell (by simp) _).setCell (by simp) _).setCell (by simp) _⟩
      have hlt := fun g hg => (Hown.out.lt g hg).1
      have h3 := ownI_far (ownI_far (ownI_far (Hown.out.mono (show w.heap.size ≤ _ by simp; omega)) (p := ⟨w.heap.size, 0, none⟩) (fun g hg => by have := hlt g hg; simp at this ⊢; omega) (.int .i64 W)) (p := ⟨w.heap.size, 1, none⟩) (fun g hg => by have := hlt g hg; simp at this ⊢; omega) (.int .i64 H)) (p := ⟨w.heap.size, 2, none⟩) (fun g hg => by have := hlt g hg; simp at this ⊢; omega) (.slice A n c)
      rw [tabI_length]
      exact h3
    · have HA := Lib.hid (show newIm W H p = zeroIm from new_no fun h => hp h.2)
      have Hs := Lib.hid hs
      have Hp := Lib.hid hp
      obtain ⟨c0, c1, c2⟩ := hR.cells
      have f0 := hR.frozen 0
      have f1 := hR.frozen 1
      have f2 := hR.frozen 2
      clear hs hp
      go_enter Try.func65, Try.ntmps65
      go_wp2_with (first | (go_at_call 58; (with_reducible refine (szI_yes _ _ Hs.out _).mono ?_); rintro e w' ⟨rfl, rfl⟩) | (go_at_call 118; (with_reducible refine (pixI_no _ Hp.out _).mono ?_); rintro e w' ⟨rfl, rfl⟩))
      refine bodyPost_ret (v := .agg #[.int .i64 0, .int .i64 0, .slice none 0 0]) (by simp [results, Try.results65, go_sem]) rfl ?_
      rw [HA.out]
      exact zeroIm_ans (by repeat (first | exact hw | refine Below.setCell ?_ (by simp) _))
  · have HA := Lib.hid (show newIm W H p = zeroIm from new_no fun h => hs h.1)
    have Hs := Lib.hid hs
    obtain ⟨c0, c1, c2⟩ := hR.cells
    have f0 := hR.frozen 0
    have f1 := hR.frozen 1
    have f2 := hR.frozen 2
    clear hs
    go_enter Try.func65, Try.ntmps65
    go_wp2_with (first | (go_at_call 58; (with_reducible refine (szI_no _ _ Hs.out _).mono ?_); rintro e w' ⟨rfl, rfl⟩))
    refine bodyPost_ret (v := .agg #[.int .i64 0, .int .i64 0, .slice none 0 0]) (by simp [results, Try.results65, go_sem]) rfl ?_
    rw [HA.out]
    exact zeroIm_ans (by repeat (first | exact hw | refine Below.setCell ?_ (by simp) _))
theorem tabI_snoc (k : Nat) (f : Nat → Int) : tabI (k + 1) f = tabI k f ++ [f k] := by simp [tabI, List.range_succ]
/-- The model's loop: its result's block, the image's block, what was appended. -/
structure NiSt (w : World) (W H p : Int) (k : Nat) (v : Value) (wr : World) : Prop where
  rs : ImAt wr w.heap.size 35 0 0 (.slice none 0 0)
  im : ImAt wr (w.heap.size + 1) 35 W H v
  own : wr.ownsRow (w.heap.size + 2) 3 1 v k (intCells (tabI k (fun _ => p)))
  bw : Below w.heap.size w wr
theorem NiSt.next {w wr w2 : World} {W H p : Int} {k : Nat} {v v' : Value} {o : Obj} (h : NiSt w W H p k v wr)
    (hown : w2.ownsRow (w.heap.size + 2) 3 1 v' (k + 1) (intCells (tabI k (fun _ => p)) ++ [.int .i64 p])) (hgr : (wr.alloc o).grownBy w2 v.ownBlock) :
    NiSt w W H p (k + 1) v' (w2.setCell ⟨w.heap.size + 1, 2, none⟩ v') := by
  have hlow : ∀ b, b < w.heap.size + 2 → some b ≠ v.ownBlock := fun b hb e => by have := (h.own.lt b e.symm).1; omega
  refine ⟨(((h.rs.alloc o).grown hgr (hlow _ (by omega))).far (by simp) _), ((h.im.alloc o).grown hgr (hlow _ (by omega))).set2 v', ?_, ((h.bw.alloc h.bw.size o).grown hgr (by have := h.bw.size; simp; omega) (fun b hb => by have := (h.own.lt b hb).1; omega)).setCell (by simp) _⟩
  have h2 := ownI_far hown (p := ⟨w.heap.size + 1, 2, none⟩) (fun g hg => by have := (hown.lt g hg).1; simp; omega) v'
  rw [tabI_snoc, show intCells (tabI k (fun _ => p) ++ [p]) = intCells (tabI k (fun _ => p)) ++ [.int .i64 p] by simp [intCells]]
  exact h2
theorem NiSt.mid {w wr w2 : World} {W H p : Int} {k : Nat} {v : Value} {o : Obj} (h : NiSt w W H p k v wr) (hgr : (wr.alloc o).grownBy w2 v.ownBlock) :
    ImAt w2 (w.heap.size + 1) 35 W H v := (h.im.alloc o).grown hgr (fun e => by have := (h.own.lt _ e.symm).1; omega)
set_option maxHeartbeats 600000 in
set_option maxRecDepth 10000 in
theorem newS (W H p : Int) (w : World) : Calls Try.prog 139 #[.int .i64 W, .int .i64 H, .int .i64 p] w (AnsIm (newIm W H p) w) := by
  have hR := ImAt.new w 35 0 0 (.slice none 0 0)
  have hw := (Below.refl w.heap.size w).alloc (Nat.le_refl _) (.cells #[.int .i64 0, .int .i64 0, .slice none 0 0] 35)
  obtain ⟨i0, hi, hz0, hz1, hz2⟩ := info_parts infoInt
  by_cases hs : szOk W H
  · have hs2 := hs
    obtain ⟨s1, s2, s3, s4⟩ := hs2
    by_cases hp : pixOk p
    · obtain ⟨n, n1, n2, hn, hd⟩ := flat_size hs p
      have HA := Lib.hid (show newIm W H p = ⟨W, H, tabI n (fun _ => p)⟩ by rw [new_yes hs hp, hd])
      have Hp := Lib.hid hp
      have hn' : W * H = (n : Int) := hn.symm
      have hS0 : NiSt w W H p 0 (.slice none 0 0) ((w.alloc (.cells #[.int .i64 0, .int .i64 0, .slice none 0 0] 35)).alloc (.cells #[.int .i64 W, .int .i64 H, .slice none 0 0] 35)) :=
        ⟨hR.alloc _, ImAt.newAt (by simp) _ _ _ _, World.ownsRow_nil _ _ _ _, hw.alloc (by simp) _⟩
      clear hs hp hd hn hR hw
      go_enter Try.func139, Try.ntmps139
      go_wp2_with (first | (go_at_call 85; (with_reducible refine (inS_yes _ _ _ _ (by omega) (by omega)).mono ?_); rintro e w' ⟨rfl, rfl⟩) | (go_at_call 76; (with_reducible refine (pixS_yes _ Hp.out _).mono ?_); rintro e w' ⟨rfl, rfl⟩))
      go_loopw [8] (fun s wr => ∃ (k : Nat) (v : Value), k ≤ n ∧ s = .int .i64 k ∧ NiSt w W H p k v wr) (fun s _ => n - (intOf s).toNat)
      case atStart => exact ⟨0, _, Nat.zero_le _, rfl, hS0⟩
      case round =>
        clear hS0
        obtain ⟨k, v, hk, rfl, hS⟩ := hrel
        obtain ⟨A, c, hv⟩ := ownI_shape hS.own
        subst hv
        obtain ⟨c0, c1, c2⟩ := hS.im.cells
        by_cases hlt : k < n
        · have k1 : (k : Int) < (n : Int) := by omega
          go_wp2_with (at_builtin; refine wpList_append_own _ rfl _ _ 33 rfl (w.heap.size + 2) 3 i0 (.int .i64 0) 1 8 Try.underlying33 hi hz0 hz1 hz2 rfl (by decide) _ _ _ rfl (hS.own.alloc _) ⟨_, 0, none⟩ 1 1 _ rfl rfl (World.news_of_block (cs := #[.int .i64 p]) (fr := (0, 0)) (heap_alloc_new _ _)) (by intro u hu; simp at hu; subst hu; rfl) (by unfold maxLen; omega) (by omega) (by have := hS.im.lt; simp; omega) ?_)
          intro v2 w2 hown2 hgrow _
          obtain ⟨gq, cq, hvq, _, _⟩ := hown2.form (by omega)
          subst hvq
          have hM := hS.mid hgrow
          obtain ⟨d0, d1, d2⟩ := hM.cells
          have f2 := hM.frozen 2
          have hS := hS.next hown2 hgrow
          clear hown2 hgrow c0 c1 c2 hM
          go_wp2_with fail
          go_roundw
          case rel => exact ⟨k + 1, _, by omega, by go_num, hS⟩
          case measure => simp [intOf]; omega
        · obtain rfl : k = n := by omega
          obtain ⟨d0, d1, d2⟩ := hS.rs.cells
          have f0 := hS.rs.frozen 0
          have f1 := hS.rs.frozen 1
          have f2 := hS.rs.frozen 2
          go_wp2_with fail
          have j := hS.rs.set3 W H (.slice A k c)
          obtain ⟨x0, x1, x2⟩ := j.cells
          refine bodyPost_ret (v := .agg #[.int .i64 W, .int .i64 H, .slice A k c]) (by simp [results, Try.results139, go_sem, x0, x1, x2]) rfl ?_
          rw [HA.out]
          refine ⟨_, rfl, ?_, ((hS.bw.setCell (by simp) _).setCell (by simp) _).setCell (by simp) _⟩
          have hlt := fun g hg => (hS.own.lt g hg).1
          have h3 := ownI_far (ownI_far (ownI_far (hS.own.mono (show w.heap.size ≤ _ by omega)) (p := ⟨w.heap.size, 0, none⟩) (fun g hg => by have := hlt g hg; simp at this ⊢; omega) (.int .i64 W)) (p := ⟨w.heap.size, 1, none⟩) (fun g hg => by have := hlt g hg; simp at this ⊢; omega) (.int .i64 H)) (p := ⟨w.heap.size, 2, none⟩) (fun g hg => by have := hlt g hg; simp at this ⊢; omega) (.slice A k c)
          rw [tabI_length]
          exact h3
    · have HA := Lib.hid (show newIm W H p = zeroIm from new_no fun h => hp h.2)
      have Hp := Lib.hid hp
      obtain ⟨c0, c1, c2⟩ := hR.cells
      have f0 := hR.frozen 0
      have f1 := hR.frozen 1
      have f2 := hR.frozen 2
      clear hs hp
      go_enter Try.func139, Try.ntmps139
      go_wp2_with (first | (go_at_call 85; (with_reducible refine (inS_yes _ _ _ _ (by omega) (by omega)).mono ?_); rintro e w' ⟨rfl, rfl⟩) | (go_at_call 76; (with_reducible refine (pixS_no _ Hp.out _).mono ?_); rintro e w' ⟨rfl, rfl⟩))
      refine bodyPost_ret (v := .agg #[.int .i64 0, .int .i64 0, .slice none 0 0]) (by simp [results, Try.results139, go_sem]) rfl ?_
      rw [HA.out]
      exact zeroIm_ans (by repeat (first | exact hw | refine Below.setCell ?_ (by simp) _))
  · have HA := Lib.hid (show newIm W H p = zeroIm from new_no fun h => hs h.1)
    obtain ⟨c0, c1, c2⟩ := hR.cells
    have f0 := hR.frozen 0
    have f1 := hR.frozen 1
    have f2 := hR.frozen 2
    unfold szOk at hs
    by_cases h1 : 1 ≤ W ∧ W ≤ 16
    · obtain ⟨h1, h2⟩ := h1
      have h7 : H < 1 ∨ 16 < H := by omega
      have H7 := Lib.hid h7
      clear h7 hs
      go_enter Try.func139, Try.ntmps139
      go_wp2_with (first | (go_at_call 85; (with_reducible refine (inS_yes _ _ _ _ (by omega) (by omega)).mono ?_); rintro e w' ⟨rfl, rfl⟩) | (go_at_call 85; (with_reducible refine (inS_no _ _ _ _ H7.out).mono ?_); rintro e w' ⟨rfl, rfl⟩))
      refine bodyPost_ret (v := .agg #[.int .i64 0, .int .i64 0, .slice none 0 0]) (by simp [results, Try.results139, go_sem]) rfl ?_
      rw [HA.out]
      exact zeroIm_ans (by repeat (first | exact hw | refine Below.setCell ?_ (by simp) _))
    · have h7 : W < 1 ∨ 16 < W := by omega
      have H7 := Lib.hid h7
      clear h7 hs h1
      go_enter Try.func139, Try.ntmps139
      go_wp2_with (first | (go_at_call 85; (with_reducible refine (inS_no _ _ _ _ H7.out).mono ?_); rintro e w' ⟨rfl, rfl⟩))
      refine bodyPost_ret (v := .agg #[.int .i64 0, .int .i64 0, .slice none 0 0]) (by simp [results, Try.results139, go_sem]) rfl ?_
      rw [HA.out]
      exact zeroIm_ans (by repeat (first | exact hw | refine Below.setCell ?_ (by simp) _))
end Go.Proofs.Ytfolphadhmgbiaa
