/- Texts of mine in one file: StM. No statement is proved here. -/
import Derived.Test.YtnndifemkichmaaGreatMA
import Derived.Test.YtnndifemkichmaaGreatMAv1
import Derived.Test.YtnndifemkichmaaGreatChJv1
import Derived.Test.YtnndifemkichmaaGreatChLv1
import Derived.Test.YtnndifemkichmaaGreatB1sav1
import Derived.Test.YtnndifemkichmaaGreatCombIv1
import Derived.Test.YtnndifemkichmaaGreatB0sav1
import Derived.Test.YtnndifemkichmaaGreatB1nav1
import Derived.Test.YtnndifemkichmaaGreatB1sb
import Derived.Test.YtnndifemkichmaaGreatMBv1
import Derived.Test.YtnndifemkichmaaGreatB1sa
import Derived.Test.YtnndifemkichmaaGreatMB
import Derived.Test.YtnndifemkichmaaGreatSnS
import Derived.Test.YtnndifemkichmaaGreatProg
import Derived.WalkKit
import Derived.ProofKit
import Derived.OpenShut
import Derived.WalkLawsBesides
import Derived.WalkSpells
import Derived.ShutString
import Derived.ChangeOld
import Derived.Below
import Derived.Lib.Hide
import Derived.BigQuiet
import Derived.Deep.QuietTactic
import Derived.Maps.AppendAt
import Derived.Deep.OwnRows
import Derived.Handy
import Derived.Deep.Draws
import Derived.OwnWalk
import Derived.Deep.AppendLies
import Derived.Deep.LoopGhost
import Derived.Deep.Onto
import Derived.Deep.MidRow
import Derived.Deep.WholeRow
import Derived.Laws.BitsAllLaws
import Derived.Lib.QuoteBits
import Derived.Deep.RegionHeld3
import Derived.Deep.DeepCutAuto
import Derived.Test.YtnndifemkichmaaGreatShelf
import Derived.Laws.CopyOwn
import Derived.Deep.RegionLaw
import Derived.Great.BuildSlice
import Derived.Laws.AppendOwn
import Derived.Shelf.RegionOpenPlain
import Derived.Lib.SliceRun
import Derived.Deep.RegionWith
import Derived.ChangeKeysEq
import Derived.Deep.DeepAppendRoom
namespace Go.Proofs.YtnndifemkichmaaGreat
open Go.RowKit
def preP (c : Ch) (s : Sn) : Prop := cnOk c ∧ snOk s ∧ s.w = c.s.w ∧ s.h = c.s.h
noncomputable def preB (c : Ch) (s : Sn) : Bool := @decide (preP c s) (Classical.propDecidable _)
theorem preB_yes {c : Ch} {s : Sn} (h : preP c s) : preB c s = true := by unfold preB; simp [h]
theorem preB_no {c : Ch} {s : Sn} (h : ¬ preP c s) : preB c s = false := by unfold preB; simp [h]
noncomputable def stU (c : Ch) (s : Sn) (n : Nat) : List Rc := (c.rgs.take n).foldl (joinL fun p q => p || q) (dmgM c.s s)
theorem stU_zero (c : Ch) (s : Sn) : stU c s 0 = dmgM c.s s := by simp [stU]
theorem stU_succ {c : Ch} {s : Sn} {n : Nat} {r : List Rc} (h : c.rgs[n]? = some r) : stU c s (n + 1) = joinL (fun p q => p || q) (stU c s n) r := by
 unfold stU
 rw [List.take_add_one, h, Option.toList_some, List.foldl_append]
 rfl
noncomputable def staleM (c : Ch) (k : Int) (s : Sn) : List Rc := @ite _ (preP c s ∧ 0 ≤ k ∧ k < c.ims.length) (Classical.propDecidable _) (if c.ages.getD k.toNat 0 = 0 then canon (gridOf [⟨0, 0, s.w, s.h⟩]) else stU c s ((c.ages.getD k.toNat 0) - 1).toNat) []
theorem stale_no {c : Ch} {k : Int} {s : Sn} (h : ¬ (preP c s ∧ 0 ≤ k ∧ k < c.ims.length)) : staleM c k s = [] := by unfold staleM; rw [if_neg h]
theorem stale_zero {c : Ch} {q : Nat} {s : Sn} (h : preP c s) (hq : q < c.ims.length) (h0 : c.ages[q]? = some 0) : staleM c q s = canon (gridOf [⟨0, 0, s.w, s.h⟩]) := by
 unfold staleM
 rw [if_pos ⟨h, by omega, by exact_mod_cast hq⟩, Int.toNat_natCast, List.getD_eq_getElem?_getD, h0, Option.getD_some, if_pos rfl]
theorem stale_age {c : Ch} {q n : Nat} {s : Sn} (h : preP c s) (hq : q < c.ims.length) (h0 : c.ages[q]? = some ((n : Int) + 1)) : staleM c q s = stU c s n := by
 unfold staleM
 rw [if_pos ⟨h, by omega, by exact_mod_cast hq⟩, Int.toNat_natCast, List.getD_eq_getElem?_getD, h0]
 rw [if_neg (by rw [Option.getD_some]; omega), Option.getD_some, show ((n : Int) + 1 - 1).toNat = n by omega]
theorem stU_len (c : Ch) (s : Sn) (n : Nat) : (stU c s n).length ≤ 256 := by
  induction n with
  | zero => rw [stU_zero]; exact dmgM_len _ _
  | succ n ih =>
    by_cases h : n < c.rgs.length
    · rw [stU_succ (List.getElem?_eq_getElem h)]; exact joinL_len _ _ _
    · have : stU c s (n + 1) = stU c s n := by unfold stU; rw [List.take_of_length_le (by omega), List.take_of_length_le (by omega)]
      rw [this]; exact ih
theorem stale_len (c : Ch) (k : Int) (s : Sn) : (staleM c k s).length ≤ 256 := by
 unfold staleM
 split
 ·split
  ·exact canon_len _
  ·exact stU_len _ _ _
 ·simp
theorem age_cases {c : Ch} (h : cnOk c) {q : Nat} {x : Int} (hx : c.ages[q]? = some x) : x = 0 ∨ ∃ n : Nat, x = (n : Int) + 1 ∧ n ≤ c.rgs.length ∧ n ≤ 2 := by
 have h1 := (h.2.2.2.2 q x hx).1
 by_cases h0 : x = 0
 ·exact .inl h0
 ·refine .inr ⟨(x - 1).toNat, by omega, ?_, ?_⟩ <;>
   ·have h2 := h1.2
    unfold grA at h2
    split at h2 <;> omega
structure StA (w : World) (f : Ch) (a b e d : Value) (bs : List Nat) (s : Sn) (v : Value) (cs : List Nat) (W : World) : Prop where
 c : CnA w f a b e d bs W
 s : SnA (w.heap.size + 1) s v cs W
 z : BkAt W (w.heap.size + 1 + 1) 55 #[.slice none 0 0]
section
variable {w : World} {f : Ch} {a b e d : Value} {bs : List Nat} {s : Sn} {v : Value} {cs : List Nat} {W W' : World}
theorem StA.call (h : StA w f a b e d bs s v cs W) (hb : Below W.heap.size W W') : StA w f a b e d bs s v cs W' := ⟨h.c.call hb, h.s.call hb, h.z.call hb⟩
theorem StA.born (h : repCh.R w f [a, b, e, .int .i64 f.s.w, .int .i64 f.s.h, .int .i64 f.s.back, d] bs) (hs : repSfs.R w s.fs [v] cs) : StA w f a b e d bs s v cs (((w.alloc (.cells #[a, b, e, .int .i64 f.s.w, .int .i64 f.s.h, .int .i64 f.s.back, d] 34)).alloc (.cells #[.int .i64 s.w, .int .i64 s.h, .int .i64 s.back, v] 26)).alloc (.cells #[.slice none 0 0] 55)) :=
 ⟨((CnA.born h).call (belI_box _ _)).call (belI_box _ _), (⟨BkAt.newAt (by simp) _ _, Rep.call hs (belI_call (belI_box _ _) (belI_box _ _))⟩ : SnA (w.heap.size + 1) s v cs _).call (belI_box _ _), BkAt.newAt (by simp) _ _⟩
theorem StA.other (h : StA w f a b e d bs s v cs W) {g : Nat} (hg : W.grownBy W' (some g)) (hn : w.heap.size + 1 + 1 < g) (hr : g ∉ bs) (hcs : g ∉ cs) (h0 : w.heap.size ≤ g) : StA w f a b e d bs s v cs W' := by
 have hc : Chg W W' [g] := Chg.of_grown hg
 have kb : ∀ k, k < W.heap.size → k ≠ g → W'.heap[k]? = W.heap[k]? := fun k hk e => hc.block k hk (by simpa using e)
 exact ⟨⟨(kb _ h.c.at_.lt (by omega)).trans h.c.at_, Rep.chg h.c.r hc (fun k hk e => hr (by rw [← List.mem_singleton.1 e]; exact hk)), hc.below h.c.bw h.c.bw.size (fun k hk => by rw [List.mem_singleton.1 hk]; exact h0)⟩,
  ⟨(kb _ h.s.at_.lt (by omega)).trans h.s.at_, Rep.chg h.s.r hc (fun k hk e => hcs (by rw [← List.mem_singleton.1 e]; exact hk))⟩, (kb _ h.z.lt (by omega)).trans h.z⟩
theorem StA.scells (h : StA w f a b e d bs s v cs W) : W.cell? ⟨w.heap.size + 1, 0, none⟩ = some (.int .i64 s.w) ∧ W.cell? ⟨w.heap.size + 1, 1, none⟩ = some (.int .i64 s.h) ∧ W.cell? ⟨w.heap.size + 1, 2, none⟩ = some (.int .i64 s.back) ∧ W.cell? ⟨w.heap.size + 1, 3, none⟩ = some v := h.s.cells
end
theorem st_end {w W : World} {Q : List Rc} {z : Value} {B : Nat} (hz : W.ownsRow B 131 4 z Q.length (rcsCells Q)) (hB : w.heap.size ≤ B) (hg : w.heap.size + 1 + 1 < B) (hb : Below w.heap.size w W) : RgQ Q w (.returned (.agg #[z])) (W.setCell ⟨w.heap.size + 1 + 1, 0, none⟩ z) :=
 ⟨z, rfl, own_set hz hB hg _, hb.setCell (by simp; omega) _⟩
theorem st_nil {w W : World} (hb : Below w.heap.size w W) (x : Value) : RgQ [] w (.returned (.agg #[.slice none 0 0])) (W.setCell ⟨w.heap.size + 1 + 1, 0, none⟩ x) :=
 ⟨_, rfl, World.ownsRow_nil _ _ _ _, hb.setCell (by simp; omega) _⟩
end Go.Proofs.YtnndifemkichmaaGreat
