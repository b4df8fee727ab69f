/- Appending one image in a free order. No statement is proved here. -/
import Derived.Test.YtnndifemkichmaaMA
import Derived.Test.YtnndifemkichmaaMB
import Derived.Test.YtnndifemkichmaaLk
import Derived.Test.YtnndifemkichmaaChM
import Derived.Test.YtnndifemkichmaaIsE
import Derived.Test.YtnndifemkichmaaSlE
import Derived.Test.YtnndifemkichmaaMC
import Derived.Test.YtnndifemkichmaaProg
import Derived.WalkKit
import Derived.ProofKit
import Derived.OpenShut
import Derived.WalkLawsBesides
import Derived.WalkSpells
import Derived.ShutString
import Derived.ChangeOld
import Derived.Below
import Derived.Lib.Hide
import Derived.BigQuiet
import Derived.Deep.QuietTactic
import Derived.Maps.AppendAt
import Derived.Deep.OwnRows
import Derived.Handy
import Derived.Deep.Draws
import Derived.OwnWalk
import Derived.Deep.AppendLies
import Derived.Deep.LoopGhost
import Derived.Deep.Onto
import Derived.Deep.MidRow
import Derived.Deep.WholeRow
import Derived.Laws.BitsAllLaws
import Derived.Lib.QuoteBits
import Derived.Deep.RegionHeld3
import Derived.Deep.DeepCutAuto
import Derived.Test.YtnndifemkichmaaShelf
import Derived.Laws.CopyOwn
import Derived.Deep.RegionLaw
import Derived.Great.BuildSlice
import Derived.Laws.AppendOwn
import Derived.Shelf.RegionOpenPlain
import Derived.Lib.SliceRun
import Derived.Deep.RegionWith
namespace Go.Proofs.Ytnndifemkichmaa
open Go.RowKit
theorem info2_im : ∃ i0, Try.prog.info? 58 = some i0 ∧ i0.zero = some (.agg #[.int .i64 0, .int .i64 0, .slice none 0 0]) ∧ i0.size = 3 ∧ i0.bytes ≤ 1000 := by
  have h : (Try.prog.info? 58).map (fun i => (i.zero, i.size, decide (i.bytes ≤ 1000))) = some (some (.agg #[.int .i64 0, .int .i64 0, .slice none 0 0]), 3, true) := by kernel_rfl
  cases e : Try.prog.info? 58 with
  | none => rw [e] at h; simp at h
  | some i =>
    rw [e] at h
    simp only [Option.map_some, Option.some.injEq, Prod.mk.injEq, decide_eq_true_eq] at h
    exact ⟨i, rfl, h.1, h.2.1, h.2.2⟩
theorem im_one (f : Im) (A : Option Addr) (n c : Nat) : ∀ u ∈ imCells f (.slice A n c), u.oneCell' = true := by
 intro u hu
 simp only [imCells, List.mem_cons, List.not_mem_nil, or_false] at hu
 rcases hu with rfl | rfl | rfl <;> rfl
theorem wp_append_im {op : Oper} {a : Act} {w : World} {K : Act → World → Prop} {Q : Exit → Act → World → Prop} (s x : Operand)
  (ho : op.op = .call { callee := .builtin .append, args := #[s, x], argTypes := #[32, 32] })
  (B : Nat) (v : Value) (M : List Im) (bs : List Nat) (hs : a.eval s = v) (hown : repIms.Own B w M [v] bs) (g1 : Nat) (f : Im) (u : Value) (bu : List Nat)
  (hx : a.eval x = .slice (some ⟨g1, 0, none⟩) 1 1) (hg : BkAt w g1 58 #[.int .i64 f.w, .int .i64 f.h, u]) (hf : repIm.Own B w f (imCells f u) bu) (hd : ∀ b ∈ bu, b ∉ bs) (hM : M.length ≤ 2097152) (hB : B ≤ w.heap.size)
  (h : ∀ v' bs' w', repIms.Own B w' (M ++ [f]) [v'] bs' → w.grownBy w' v.ownBlock → (∀ b ∈ bs', b ∈ bs ∨ b ∈ bu ∨ w.heap.size ≤ b) → (∃ A c, v' = .slice A (M.length + 1) c) → K (a.put op.dst v') w') : op.wp Try.prog a w K Q := by
 obtain ⟨i0, hi, hz0, hz1, hby⟩ := info2_im
 have hbn : (M.length + 1) * i0.bytes ≤ (2097152 + 1) * 1000 := Nat.mul_le_mul (by omega) hby
 obtain ⟨⟨A, c, rfl⟩, _⟩ := ints_form (r_im hf.r)
 obtain ⟨v0, xs, bss, he, hr, hls, how, rfl⟩ := hown.r
 obtain rfl : v = v0 := by simpa using he
 have hvl : ∀ b ∈ v.ownBlock.toList, B ≤ b := fun b hb => hown.lo b (List.mem_append.2 (.inl hb))
 have h1 : w.ownsRow 0 58 3 (.slice (some ⟨g1, 0, none⟩) 1 1) 1 (imCells f (.slice A f.d.length c)) :=
  ⟨rfl, .inr ⟨g1, 1, _, rfl, Nat.zero_le _, hg, Nat.le_refl _, by unfold maxLen; omega, rfl, rfl⟩⟩
 refine wp_append_row s x 32 ho B 0 58 i0 _ 3 i0.bytes Try.underlying32 hi hz0 hz1 rfl rfl (by omega) v M.length xs.flatten hs (own_rebase how hvl) _ 1 _ hx h1 (im_one f _ _ _) (by unfold maxLen; omega) (by omega) hB (fun v' w' q1 q2 q3 => ?_)
 have hch := Chg.of_grown q2
 have hvx := own_ltB how
 have hnd := hown.nd
 rw [List.nodup_append] at hnd
 have hvn : ∀ b ∈ bss.flatten, b ∉ v.ownBlock.toList := fun b hb e => hnd.2.2 b e b hb rfl
 have hR' : rowsR repIm w' (M ++ [f]) (xs ++ [imCells f (.slice A f.d.length c)]) (bss ++ [bu]) :=
  rowsR_snoc (rowsR_keep hr fun b hb => hch.block b (rowsR_ex hr b hb) (hvn b hb)) (Rep.chg hf.r hch fun b hb e => hd b hb (List.mem_append.2 (.inl e)))
 have hlo' : ∀ b ∈ v'.ownBlock.toList, B ≤ b ∧ (b ∈ v.ownBlock.toList ∨ w.heap.size ≤ b) := fun b hb => by
  refine ⟨(own_ltB q1 b hb).1, ?_⟩
  rcases q3 with e | e
  ·rw [e] at hb; exact .inl hb
  ·rw [e] at hb; simp at hb; exact .inr (by omega)
 have hfl : (bss ++ [bu]).flatten = bss.flatten ++ bu := by simp
 have hex : ∀ b ∈ bss.flatten ++ bu, b < w.heap.size ∧ b ∉ v.ownBlock.toList ∧ B ≤ b := fun b hb => by
  rcases List.mem_append.1 hb with hb | hb
  ·exact ⟨rowsR_ex hr b hb, hvn b hb, hown.lo b (List.mem_append.2 (.inr hb))⟩
  ·exact ⟨repIm.ex hf.r b hb, fun e => hd b hb (List.mem_append.2 (.inl e)), hf.lo b hb⟩
 have hsh : ∃ A c, v' = .slice A (M.length + 1) c := by
  rcases q1.2 with ⟨_, e⟩ | ⟨g', cap, cur, e, _⟩
  ·omega
  ·exact ⟨_, _, e⟩
 refine h v' (v'.ownBlock.toList ++ (bss ++ [bu]).flatten) w' ⟨⟨v', _, _, rfl, hR', fun y hy => ?_, ?_, rfl⟩, ?_, fun b hb => ?_⟩ q2 (fun b hb => ?_) hsh
 ·rcases List.mem_append.1 hy with hy | hy
  ·exact hls y hy
  ·rw [List.mem_singleton.1 hy]; rfl
 ·rw [List.flatten_append]
  have := own_rebase q1 (C := 0) fun _ _ => Nat.zero_le _
  simpa using this
 ·rw [hfl, List.nodup_append]
  refine ⟨by cases v'.ownBlock <;> simp, ?_, fun x hx y hy e => ?_⟩
  ·rw [List.nodup_append]
   exact ⟨hnd.2.1, hf.nd, fun x hx y hy e => hd y hy (List.mem_append.2 (.inr (e ▸ hx)))⟩
  ·subst e
   have h3 := hex x hy
   rcases (hlo' x hx).2 with h4 | h4
   ·exact h3.2.1 h4
   ·omega
 ·rcases List.mem_append.1 hb with hb | hb
  ·exact (hlo' b hb).1
  ·rw [hfl] at hb; exact (hex b hb).2.2
 ·rcases List.mem_append.1 hb with hb | hb
  ·rcases (hlo' b hb).2 with h4 | h4
   ·exact .inl (List.mem_append.2 (.inl h4))
   ·exact .inr (.inr h4)
  ·rw [hfl] at hb
   rcases List.mem_append.1 hb with hb | hb
   ·exact .inl (List.mem_append.2 (.inr hb))
   ·exact .inr (.inl hb)
end Go.Proofs.Ytnndifemkichmaa
