/- The contract of slices.Clone over surfaces. No statement is proved here. -/
import Derived.Test.YtnndifemkichmaaMA
import Derived.Test.YtnndifemkichmaaLk
import Derived.Test.YtnndifemkichmaaMB
import Derived.Test.YtnndifemkichmaaProg
import Derived.WalkKit
import Derived.ProofKit
import Derived.OpenShut
import Derived.WalkLawsBesides
import Derived.WalkSpells
import Derived.ShutString
import Derived.ChangeOld
import Derived.Below
import Derived.Lib.Hide
import Derived.BigQuiet
import Derived.Deep.QuietTactic
import Derived.Maps.AppendAt
import Derived.Deep.OwnRows
import Derived.Handy
import Derived.Deep.Draws
import Derived.OwnWalk
import Derived.Deep.AppendLies
import Derived.Deep.LoopGhost
import Derived.Deep.Onto
import Derived.Deep.MidRow
import Derived.Deep.WholeRow
import Derived.Laws.BitsAllLaws
import Derived.Lib.QuoteBits
import Derived.Deep.RegionHeld3
import Derived.Deep.DeepCutAuto
import Derived.Test.YtnndifemkichmaaShelf
import Derived.Laws.CopyOwn
import Derived.Deep.RegionLaw
import Derived.Great.BuildSlice
import Derived.Shelf.RegionOpenPlain
import Derived.Lib.SliceRun
namespace Go.Proofs.Ytnndifemkichmaa
open Go.RowKit
theorem rows_one {w : World} : ∀ {L : List Sf} {xs : List (List Value)} {bss : List (List Nat)}, rowsR repSf w L xs bss → ∀ u ∈ xs.flatten, u.oneCell' = true
  | [], [], [], _, u, hu => by simp at hu
  | f :: L, x :: xs, b :: bss, h, u, hu => by
    rw [List.flatten_cons, List.mem_append] at hu
    rcases hu with hu | hu
    · obtain ⟨d, rfl, hd⟩ := h.1
      obtain ⟨⟨A, c, rfl⟩, _⟩ := ints_form hd
      simp only [sfCells, List.mem_cons, List.not_mem_nil, or_false] at hu
      rcases hu with rfl | rfl | rfl | rfl | rfl | rfl | rfl | rfl | rfl | rfl | rfl <;> rfl
    · exact rows_one h.2 u hu
theorem info2_sf : ∃ i0, Try.prog.info? 80 = some i0 ∧ i0.zero = some (.agg #[.int .i64 0, .int .i64 0, .int .i64 0, .int .i64 0, .int .i64 0, .int .i64 0, .int .i64 0, .bool false, .int .i64 0, .int .i64 0, .slice none 0 0]) ∧ i0.size = 11 ∧ i0.bytes ≤ 1000 := by
  have h : (Try.prog.info? 80).map (fun i => (i.zero, i.size, decide (i.bytes ≤ 1000))) = some (some (.agg #[.int .i64 0, .int .i64 0, .int .i64 0, .int .i64 0, .int .i64 0, .int .i64 0, .int .i64 0, .bool false, .int .i64 0, .int .i64 0, .slice none 0 0]), 11, true) := by kernel_rfl
  cases e : Try.prog.info? 80 with
  | none => rw [e] at h; simp at h
  | some i =>
    rw [e] at h
    simp only [Option.map_some, Option.some.injEq, Prod.mk.injEq, decide_eq_true_eq] at h
    exact ⟨i, rfl, h.1, h.2.1, h.2.2⟩
def CloneFs (L : List Sf) (xs : List (List Value)) (bss : List (List Nat)) (w : World) (e : Ending) (w' : World) : Prop :=
 ∃ g c, e = .returned (.slice (some ⟨g, 0, none⟩) L.length c) ∧ SlU repSf 80 11 w' L g c L.length xs bss ∧ w.heap.size ≤ g ∧ Below w.heap.size w w'
set_option maxHeartbeats 2000000 in
set_option maxRecDepth 100000 in
theorem cloneFs (L : List Sf) (g c : Nat) (xs : List (List Value)) (bss : List (List Nat)) (w : World) (hm : L.length ≤ 2097152) (h : SlU repSf 80 11 w L g c L.length xs bss) :
  Calls Try.prog 112 #[.slice (some ⟨g, 0, none⟩) L.length c] w (CloneFs L xs bss w) := by
 obtain ⟨i0, hi, hz0, hz1, hby⟩ := info2_sf
 have hbn : L.length * i0.bytes ≤ 2097152 * 1000 := Nat.mul_le_mul hm hby
 have H := Lib.hid h
 obtain ⟨n, hn⟩ : ∃ n, n = L.length := ⟨_, rfl⟩
 rw [← hn] at hbn hm ⊢
 have Hn := Lib.hid hn
 have HL := Lib.hid (show xs.flatten.length = n * 11 by have := h.ow.1; rw [this, hn])
 have HC := Lib.hid (show ∀ j u, xs.flatten[j]? = some u → w.cell? ⟨g, j, none⟩ = some u from fun j u hu => own_cellI h.ow hu)
 have H1 := Lib.hid (rows_one h.rr)
 clear hn h
 have q22 : ∀ (w : World) (a : Option Addr) (n c n' c' : Nat), (binOp .eql 34 (.slice a n c) (.slice none n' c')).run Try.prog w = .ok (.bool a.isNone) w := fun w a n c n' c' => Lib.run_eql_slice_nil w _ _ a n c n' c' Try.underlying34
 go_enter Try.func112, Try.ntmps112
 go_wp2_with (at_builtin; refine wpList_append_own _ rfl _ _ 34 rfl w.heap.size 80 i0 _ 11 i0.bytes Try.underlying34 hi hz0 hz1 rfl rfl (by omega) _ _ _ rfl (World.ownsRow_made w #[] 0 (Nat.le_refl _) (Nat.zero_le _) (by simp)) ⟨g, 0, none⟩ n c xs.flatten rfl ?qc1 ?qc2 ?qc3 ?qc4 ?qc5 ?qc6 ?_)
 case qc1 => exact HL.out
 case qc2 =>
  intro j u hj
  rw [addr_add]
  exact Lib.cell?_alloc_some _ (HC.out j u hj)
 case qc3 => exact H1.out
 case qc4 => rw [Nat.zero_add]; unfold maxLen; omega
 case qc5 => rw [Nat.zero_add]; omega
 case qc6 => simp
 intro v' w1 hown hgrow hnil
 have HO := Lib.hid hown
 have HG := Lib.hid hgrow
 have HV := Lib.hid hnil
 clear hown hgrow hnil
 go_wp2_with fail
 go_ret
 have ho : w1.ownsRow w.heap.size 80 11 v' n xs.flatten := by simpa using HO.out
 have hbel := ((Below.refl _ w).alloc (Nat.le_refl _) _).grown HG.out (by simp) (by intro k hk; simp [Value.ownBlock] at hk; omega)
 rcases ho.2 with ⟨hv, _⟩ | ⟨g', cap, cur, hv, hB, hh, h3, h4, h5, h6⟩
 ·exact absurd hv HV.out
 ·have hU : SlU repSf 80 11 w1 L g' cap L.length xs bss :=
   ⟨rowsR_keep H.out.rr fun b hb => hbel.block b (rowsR_ex H.out.rr b hb), H.out.ls, by rw [← Hn.out, ← hv]; exact own_rebase ho fun _ _ => Nat.zero_le _, rfl⟩
  subst hv
  refine ⟨g', cap, ?_, hU, hB, hbel⟩
  rw [← Hn.out]
  rfl
set_option maxHeartbeats 1000000 in
theorem cloneFs_nil (w : World) : Calls Try.prog 112 #[.slice none 0 0] w fun e w' => e = .returned (.slice none 0 0) ∧ w' = w := by
 have q22 : ∀ (w : World) (a : Option Addr) (n c n' c' : Nat), (binOp .eql 34 (.slice a n c) (.slice none n' c')).run Try.prog w = .ok (.bool a.isNone) w := fun w a n c n' c' => Lib.run_eql_slice_nil w _ _ a n c n' c' Try.underlying34
 go_enter Try.func112, Try.ntmps112
 go_wp2
 go_ret
 exact ⟨rfl, rfl⟩
end Go.Proofs.Ytnndifemkichmaa
