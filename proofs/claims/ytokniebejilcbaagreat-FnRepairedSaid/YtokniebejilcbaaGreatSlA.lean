/- Building and appending one surface in a free order; the contract of l10CopySurface. No statement is proved here. -/
import Derived.Test.YtokniebejilcbaaGreatMA
import Derived.Test.YtokniebejilcbaaGreatMC
import Derived.Test.YtokniebejilcbaaGreatMB
import Derived.Test.YtokniebejilcbaaGreatSnS
import Derived.Test.YtokniebejilcbaaGreatProg
import Derived.WalkKit
import Derived.ProofKit
import Derived.OpenShut
import Derived.WalkLawsBesides
import Derived.WalkSpells
import Derived.ShutString
import Derived.ChangeOld
import Derived.Below
import Derived.Lib.Hide
import Derived.BigQuiet
import Derived.Deep.QuietTactic
import Derived.Maps.AppendAt
import Derived.Deep.OwnRows
import Derived.Handy
import Derived.Deep.Draws
import Derived.OwnWalk
import Derived.Deep.AppendLies
import Derived.Deep.LoopGhost
import Derived.Deep.Onto
import Derived.Deep.MidRow
import Derived.Deep.WholeRow
import Derived.Laws.BitsAllLaws
import Derived.Lib.QuoteBits
import Derived.Deep.RegionHeld3
import Derived.Deep.DeepCutAuto
import Derived.Test.YtokniebejilcbaaGreatShelf
import Derived.Laws.CopyOwn
import Derived.Deep.RegionLaw
import Derived.Great.BuildSlice
import Derived.Shelf.RegionOpenPlain
import Derived.Lib.SliceRun
import Derived.Deep.RegionWith
import Derived.Laws.AppendOwn
namespace Go.Proofs.YtokniebejilcbaaGreat
open Go.RowKit
theorem run_build_sf (c0 c1 c2 c3 c4 c5 c6 c7 c8 c9 c10 : Value) (w : World) : (Instr.buildSlice 32 1 #[(0, .agg #[c0, c1, c2, c3, c4, c5, c6, c7, c8, c9, c10])]).run Tryz.prog w = .ok (.slice (some ⟨w.heap.size, 0, none⟩) 1 1) (w.alloc (.cells #[c0, c1, c2, c3, c4, c5, c6, c7, c8, c9, c10] 153)) := by
 kernel_rfl
theorem wp_build_sf {op : Oper} {a : Act} {w : World} {K : Act → World → Prop} {Q : Exit → Act → World → Prop} (dst : Nat) (x : Operand) (f : Sf) (d : Value) (ho : op.op = .buildSlice 32 1 #[(0, x)]) (hx : a.eval x = .agg #[.int .i64 f.id, .int .i64 f.x, .int .i64 f.y, .int .i64 f.w, .int .i64 f.h, .int .i64 f.alpha, .int .i64 f.orient, .bool f.vis, .int .i64 f.bw, .int .i64 f.bh, d]) (hd : op.dst = some dst)
  (h : ∀ g W', Below w.heap.size w W' → BkAt W' g 153 #[.int .i64 f.id, .int .i64 f.x, .int .i64 f.y, .int .i64 f.w, .int .i64 f.h, .int .i64 f.alpha, .int .i64 f.orient, .bool f.vis, .int .i64 f.bw, .int .i64 f.bh, d] → w.heap.size ≤ g → K (a.put (some dst) (.slice (some ⟨g, 0, none⟩) 1 1)) W') : op.wp Tryz.prog a w K Q := by
 have h1 := h w.heap.size (w.alloc (.cells #[.int .i64 f.id, .int .i64 f.x, .int .i64 f.y, .int .i64 f.w, .int .i64 f.h, .int .i64 f.alpha, .int .i64 f.orient, .bool f.vis, .int .i64 f.bw, .int .i64 f.bh, d] 153)) (belI_box _ _) (BkAt.new _ _ _) (Nat.le_refl _)
 have hz := run_build_sf (.int .i64 f.id) (.int .i64 f.x) (.int .i64 f.y) (.int .i64 f.w) (.int .i64 f.h) (.int .i64 f.alpha) (.int .i64 f.orient) (.bool f.vis) (.int .i64 f.bw) (.int .i64 f.bh) d w
 unfold Oper.wp execOp
 simp only [ho, List.map_toArray, List.map_cons, List.map_nil, hx, Sem.run_bind, hz, Result.andThen_ok, Sem.run_pure]
 rw [← hd] at h1
 exact h1
theorem sf_one (f : Sf) (A : Option Addr) (n c : Nat) : ∀ u ∈ sfCells f (.slice A n c), u.oneCell' = true := by
 intro u hu
 simp only [sfCells, List.mem_cons, List.not_mem_nil, or_false] at hu
 rcases hu with rfl | rfl | rfl | rfl | rfl | rfl | rfl | rfl | rfl | rfl | rfl <;> rfl
theorem wp_append_sf {op : Oper} {a : Act} {w : World} {K : Act → World → Prop} {Q : Exit → Act → World → Prop} (s x : Operand)
  (ho : op.op = .call { callee := .builtin .append, args := #[s, x], argTypes := #[32, 32] })
  (B : Nat) (v : Value) (M : List Sf) (bs : List Nat) (hs : a.eval s = v) (hown : repSfs.Own B w M [v] bs) (g1 : Nat) (f : Sf) (u : Value) (bu : List Nat)
  (hx : a.eval x = .slice (some ⟨g1, 0, none⟩) 1 1) (hg : BkAt w g1 153 #[.int .i64 f.id, .int .i64 f.x, .int .i64 f.y, .int .i64 f.w, .int .i64 f.h, .int .i64 f.alpha, .int .i64 f.orient, .bool f.vis, .int .i64 f.bw, .int .i64 f.bh, u]) (hf : repSf.Own B w f (sfCells f u) bu) (hd : ∀ b ∈ bu, b ∉ bs) (hM : M.length ≤ 2097152) (hB : B ≤ w.heap.size)
  (h : ∀ v' bs' w', repSfs.Own B w' (M ++ [f]) [v'] bs' → w.grownBy w' v.ownBlock → (∀ b ∈ bs', b ∈ bs ∨ b ∈ bu ∨ w.heap.size ≤ b) → (∃ A c, v' = .slice A (M.length + 1) c) → K (a.put op.dst v') w') : op.wp Tryz.prog a w K Q := by
 obtain ⟨i0, hi, hz0, hz1, hby⟩ := info2_sf
 have hbn : (M.length + 1) * i0.bytes ≤ (2097152 + 1) * 1000 := Nat.mul_le_mul (by omega) hby
 obtain ⟨⟨A, c, rfl⟩, _⟩ := ints_form (r_sf hf.r)
 obtain ⟨v0, xs, bss, he, hr, hls, how, rfl⟩ := hown.r
 obtain rfl : v = v0 := by simpa using he
 have hvl : ∀ b ∈ v.ownBlock.toList, B ≤ b := fun b hb => hown.lo b (List.mem_append.2 (.inl hb))
 have h1 : w.ownsRow 0 153 11 (.slice (some ⟨g1, 0, none⟩) 1 1) 1 (sfCells f (.slice A f.data.length c)) :=
  ⟨rfl, .inr ⟨g1, 1, _, rfl, Nat.zero_le _, hg, Nat.le_refl _, by unfold maxLen; omega, rfl, rfl⟩⟩
 refine wp_append_row s x 32 ho B 0 153 i0 _ 11 i0.bytes Tryz.underlying32 hi hz0 hz1 rfl rfl (by omega) v M.length xs.flatten hs (own_rebase how hvl) _ 1 _ hx h1 (sf_one f _ _ _) (by unfold maxLen; omega) (by omega) hB (fun v' w' q1 q2 q3 => ?_)
 have hch := Chg.of_grown q2
 have hvx := own_ltB how
 have hnd := hown.nd
 rw [List.nodup_append] at hnd
 have hvn : ∀ b ∈ bss.flatten, b ∉ v.ownBlock.toList := fun b hb e => hnd.2.2 b e b hb rfl
 have hR' : rowsR repSf w' (M ++ [f]) (xs ++ [sfCells f (.slice A f.data.length c)]) (bss ++ [bu]) :=
  rowsR_snoc (rowsR_keep hr fun b hb => hch.block b (rowsR_ex hr b hb) (hvn b hb)) (Rep.chg hf.r hch fun b hb e => hd b hb (List.mem_append.2 (.inl e)))
 have hlo' : ∀ b ∈ v'.ownBlock.toList, B ≤ b ∧ (b ∈ v.ownBlock.toList ∨ w.heap.size ≤ b) := fun b hb => by
  refine ⟨(own_ltB q1 b hb).1, ?_⟩
  rcases q3 with e | e
  ·rw [e] at hb; exact .inl hb
  ·rw [e] at hb; simp at hb; exact .inr (by omega)
 have hfl : (bss ++ [bu]).flatten = bss.flatten ++ bu := by simp
 have hex : ∀ b ∈ bss.flatten ++ bu, b < w.heap.size ∧ b ∉ v.ownBlock.toList ∧ B ≤ b := fun b hb => by
  rcases List.mem_append.1 hb with hb | hb
  ·exact ⟨rowsR_ex hr b hb, hvn b hb, hown.lo b (List.mem_append.2 (.inr hb))⟩
  ·exact ⟨repSf.ex hf.r b hb, fun e => hd b hb (List.mem_append.2 (.inl e)), hf.lo b hb⟩
 have hsh : ∃ A c, v' = .slice A (M.length + 1) c := by
  rcases q1.2 with ⟨_, e⟩ | ⟨g', cap, cur, e, _⟩
  ·omega
  ·exact ⟨_, _, e⟩
 refine h v' (v'.ownBlock.toList ++ (bss ++ [bu]).flatten) w' ⟨⟨v', _, _, rfl, hR', fun y hy => ?_, ?_, rfl⟩, ?_, fun b hb => ?_⟩ q2 (fun b hb => ?_) hsh
 ·rcases List.mem_append.1 hy with hy | hy
  ·exact hls y hy
  ·rw [List.mem_singleton.1 hy]; rfl
 ·rw [List.flatten_append]
  have := own_rebase q1 (C := 0) fun _ _ => Nat.zero_le _
  simpa using this
 ·rw [hfl, List.nodup_append]
  refine ⟨by cases v'.ownBlock <;> simp, ?_, fun x hx y hy e => ?_⟩
  ·rw [List.nodup_append]
   exact ⟨hnd.2.1, hf.nd, fun x hx y hy e => hd y hy (List.mem_append.2 (.inr (e ▸ hx)))⟩
  ·subst e
   have h3 := hex x hy
   rcases (hlo' x hx).2 with h4 | h4
   ·exact h3.2.1 h4
   ·omega
 ·rcases List.mem_append.1 hb with hb | hb
  ·exact (hlo' b hb).1
  ·rw [hfl] at hb; exact (hex b hb).2.2
 ·rcases List.mem_append.1 hb with hb | hb
  ·rcases (hlo' b hb).2 with h4 | h4
   ·exact .inl (List.mem_append.2 (.inl h4))
   ·exact .inr (.inr h4)
  ·rw [hfl] at hb
   rcases List.mem_append.1 hb with hb | hb
   ·exact .inl (List.mem_append.2 (.inr hb))
   ·exact .inr (.inl hb)
set_option maxHeartbeats 2000000 in
set_option maxRecDepth 10000 in
theorem copySf (f : Sf) (d : Value) (w : World) (hm : f.data.length ≤ 2097152) (hv : RdI w d f.data) : Calls Tryz.prog 135 #[.agg #[.int .i64 f.id, .int .i64 f.x, .int .i64 f.y, .int .i64 f.w, .int .i64 f.h, .int .i64 f.alpha, .int .i64 f.orient, .bool f.vis, .int .i64 f.bw, .int .i64 f.bh, d]] w (SfAns f w) := by
 have hB : Below w.heap.size w ((w.alloc (.cells #[.int .i64 f.id, .int .i64 f.x, .int .i64 f.y, .int .i64 f.w, .int .i64 f.h, .int .i64 f.alpha, .int .i64 f.orient, .bool f.vis, .int .i64 f.bw, .int .i64 f.bh, d] 153)).alloc (.cells #[.int .i64 0, .int .i64 0, .int .i64 0, .int .i64 0, .int .i64 0, .int .i64 0, .int .i64 0, .bool false, .int .i64 0, .int .i64 0, .slice none 0 0] 153)) := belI_call (belI_box _ _) (belI_box _ _)
 have hX : BkAt ((w.alloc (.cells #[.int .i64 f.id, .int .i64 f.x, .int .i64 f.y, .int .i64 f.w, .int .i64 f.h, .int .i64 f.alpha, .int .i64 f.orient, .bool f.vis, .int .i64 f.bw, .int .i64 f.bh, d] 153)).alloc (.cells #[.int .i64 0, .int .i64 0, .int .i64 0, .int .i64 0, .int .i64 0, .int .i64 0, .int .i64 0, .bool false, .int .i64 0, .int .i64 0, .slice none 0 0] 153)) w.heap.size 153 #[.int .i64 f.id, .int .i64 f.x, .int .i64 f.y, .int .i64 f.w, .int .i64 f.h, .int .i64 f.alpha, .int .i64 f.orient, .bool f.vis, .int .i64 f.bw, .int .i64 f.bh, d] := (BkAt.new _ _ _).alloc _
 have hZ : BkAt ((w.alloc (.cells #[.int .i64 f.id, .int .i64 f.x, .int .i64 f.y, .int .i64 f.w, .int .i64 f.h, .int .i64 f.alpha, .int .i64 f.orient, .bool f.vis, .int .i64 f.bw, .int .i64 f.bh, d] 153)).alloc (.cells #[.int .i64 0, .int .i64 0, .int .i64 0, .int .i64 0, .int .i64 0, .int .i64 0, .int .i64 0, .bool false, .int .i64 0, .int .i64 0, .slice none 0 0] 153)) (w.heap.size + 1) 153 #[.int .i64 0, .int .i64 0, .int .i64 0, .int .i64 0, .int .i64 0, .int .i64 0, .int .i64 0, .bool false, .int .i64 0, .int .i64 0, .slice none 0 0] := BkAt.newAt (by simp) _ _
 have HR := Lib.hid (hv.call hB)
 obtain ⟨A0, c0, rfl⟩ := hv.form
 have Hm := Lib.hid hm
 clear hm hv
 go_enter Tryz.func135, Tryz.ntmps135
 go_wp2_with fail
 refine (l05Copy_any f.bw f.bh _ f.data _ Hm.out HR.out).mono ?_
 rintro e w1 ⟨u, rfl, hown, hb1⟩
 have hlo := hZ.lt
 replace hX := hX.call hb1
 replace hZ := hZ.call hb1
 replace hB := belI_call hB hb1
 obtain ⟨A, c, hu⟩ := ownI_shape hown
 subst hu
 have hown := hown.mono (show w.heap.size + 2 ≤ _ by omega)
 have Hown := Lib.hid hown
 clear hown hb1 hlo HR
 have a0 := hX.cell 0 rfl
 have a1 := hX.cell 1 rfl
 have a2 := hX.cell 2 rfl
 have a3 := hX.cell 3 rfl
 have a4 := hX.cell 4 rfl
 have a5 := hX.cell 5 rfl
 have a6 := hX.cell 6 rfl
 have a7 := hX.cell 7 rfl
 have a8 := hX.cell 8 rfl
 have a9 := hX.cell 9 rfl
 have a10 := hX.cell 10 rfl
 have fa8 := hX.frozen 8
 have fa9 := hX.frozen 9
 have fa10 := hX.frozen 10
 have b0 := hZ.cell 0 rfl
 have fb0 := hZ.frozen 0
 have b1 := hZ.cell 1 rfl
 have fb1 := hZ.frozen 1
 have b2 := hZ.cell 2 rfl
 have fb2 := hZ.frozen 2
 have b3 := hZ.cell 3 rfl
 have fb3 := hZ.frozen 3
 have b4 := hZ.cell 4 rfl
 have fb4 := hZ.frozen 4
 have b5 := hZ.cell 5 rfl
 have fb5 := hZ.frozen 5
 have b6 := hZ.cell 6 rfl
 have fb6 := hZ.frozen 6
 have b7 := hZ.cell 7 rfl
 have fb7 := hZ.frozen 7
 have b8 := hZ.cell 8 rfl
 have fb8 := hZ.frozen 8
 have b9 := hZ.cell 9 rfl
 have fb9 := hZ.frozen 9
 have b10 := hZ.cell 10 rfl
 have fb10 := hZ.frozen 10
 have HZ := Lib.hid hZ
 have HB := Lib.hid hB
 clear hZ hB hX
 go_wp2_with fail
 have hJ0 := HZ.out
 have hC0 : Chg w1 w1 [w.heap.size, w.heap.size + 1] := Chg.refl _ _
 have hJ1 : BkAt (w1.setCell ⟨w.heap.size, 8, none⟩ (.int .i64 f.bw)) (w.heap.size + 1) 153 #[.int .i64 0, .int .i64 0, .int .i64 0, .int .i64 0, .int .i64 0, .int .i64 0, .int .i64 0, .bool false, .int .i64 0, .int .i64 0, .slice none 0 0] := BkAt.far hJ0 (by dsimp only; omega) _
 have hC1 : Chg w1 (w1.setCell ⟨w.heap.size, 8, none⟩ (.int .i64 f.bw)) [w.heap.size, w.heap.size + 1] := hC0.trans (Chg.setB _ _ _ _ _ (by simp))
 clear hJ0 hC0
 have hJ2 : BkAt ((w1.setCell ⟨w.heap.size, 8, none⟩ (.int .i64 f.bw)).setCell ⟨w.heap.size, 9, none⟩ (.int .i64 f.bh)) (w.heap.size + 1) 153 #[.int .i64 0, .int .i64 0, .int .i64 0, .int .i64 0, .int .i64 0, .int .i64 0, .int .i64 0, .bool false, .int .i64 0, .int .i64 0, .slice none 0 0] := BkAt.far hJ1 (by dsimp only; omega) _
 have hC2 : Chg w1 ((w1.setCell ⟨w.heap.size, 8, none⟩ (.int .i64 f.bw)).setCell ⟨w.heap.size, 9, none⟩ (.int .i64 f.bh)) [w.heap.size, w.heap.size + 1] := hC1.trans (Chg.setB _ _ _ _ _ (by simp))
 clear hJ1 hC1
 have hJ3 : BkAt (((w1.setCell ⟨w.heap.size, 8, none⟩ (.int .i64 f.bw)).setCell ⟨w.heap.size, 9, none⟩ (.int .i64 f.bh)).setCell ⟨w.heap.size, 10, none⟩ (.slice A f.data.length c)) (w.heap.size + 1) 153 #[.int .i64 0, .int .i64 0, .int .i64 0, .int .i64 0, .int .i64 0, .int .i64 0, .int .i64 0, .bool false, .int .i64 0, .int .i64 0, .slice none 0 0] := BkAt.far hJ2 (by dsimp only; omega) _
 have hC3 : Chg w1 (((w1.setCell ⟨w.heap.size, 8, none⟩ (.int .i64 f.bw)).setCell ⟨w.heap.size, 9, none⟩ (.int .i64 f.bh)).setCell ⟨w.heap.size, 10, none⟩ (.slice A f.data.length c)) [w.heap.size, w.heap.size + 1] := hC2.trans (Chg.setB _ _ _ _ _ (by simp))
 clear hJ2 hC2
 have hJ4 : BkAt ((((w1.setCell ⟨w.heap.size, 8, none⟩ (.int .i64 f.bw)).setCell ⟨w.heap.size, 9, none⟩ (.int .i64 f.bh)).setCell ⟨w.heap.size, 10, none⟩ (.slice A f.data.length c)).setCell ⟨w.heap.size + 1, 0, none⟩ (.int .i64 f.id)) (w.heap.size + 1) 153 #[.int .i64 f.id, .int .i64 0, .int .i64 0, .int .i64 0, .int .i64 0, .int .i64 0, .int .i64 0, .bool false, .int .i64 0, .int .i64 0, .slice none 0 0] := BkAt.put hJ3 0 _ (by simp only [List.setIfInBounds_toArray, List.set_cons_zero])
 have hC4 : Chg w1 ((((w1.setCell ⟨w.heap.size, 8, none⟩ (.int .i64 f.bw)).setCell ⟨w.heap.size, 9, none⟩ (.int .i64 f.bh)).setCell ⟨w.heap.size, 10, none⟩ (.slice A f.data.length c)).setCell ⟨w.heap.size + 1, 0, none⟩ (.int .i64 f.id)) [w.heap.size, w.heap.size + 1] := hC3.trans (Chg.setB _ _ _ _ _ (by simp))
 clear hJ3 hC3
 have hJ5 : BkAt (((((w1.setCell ⟨w.heap.size, 8, none⟩ (.int .i64 f.bw)).setCell ⟨w.heap.size, 9, none⟩ (.int .i64 f.bh)).setCell ⟨w.heap.size, 10, none⟩ (.slice A f.data.length c)).setCell ⟨w.heap.size + 1, 0, none⟩ (.int .i64 f.id)).setCell ⟨w.heap.size + 1, 1, none⟩ (.int .i64 f.x)) (w.heap.size + 1) 153 #[.int .i64 f.id, .int .i64 f.x, .int .i64 0, .int .i64 0, .int .i64 0, .int .i64 0, .int .i64 0, .bool false, .int .i64 0, .int .i64 0, .slice none 0 0] := BkAt.put hJ4 1 _ (by simp only [List.setIfInBounds_toArray, List.set_cons_zero, List.set_cons_succ])
 have hC5 : Chg w1 (((((w1.setCell ⟨w.heap.size, 8, none⟩ (.int .i64 f.bw)).setCell ⟨w.heap.size, 9, none⟩ (.int .i64 f.bh)).setCell ⟨w.heap.size, 10, none⟩ (.slice A f.data.length c)).setCell ⟨w.heap.size + 1, 0, none⟩ (.int .i64 f.id)).setCell ⟨w.heap.size + 1, 1, none⟩ (.int .i64 f.x)) [w.heap.size, w.heap.size + 1] := hC4.trans (Chg.setB _ _ _ _ _ (by simp))
 clear hJ4 hC4
 have hJ6 : BkAt ((((((w1.setCell ⟨w.heap.size, 8, none⟩ (.int .i64 f.bw)).setCell ⟨w.heap.size, 9, none⟩ (.int .i64 f.bh)).setCell ⟨w.heap.size, 10, none⟩ (.slice A f.data.length c)).setCell ⟨w.heap.size + 1, 0, none⟩ (.int .i64 f.id)).setCell ⟨w.heap.size + 1, 1, none⟩ (.int .i64 f.x)).setCell ⟨w.heap.size + 1, 2, none⟩ (.int .i64 f.y)) (w.heap.size + 1) 153 #[.int .i64 f.id, .int .i64 f.x, .int .i64 f.y, .int .i64 0, .int .i64 0, .int .i64 0, .int .i64 0, .bool false, .int .i64 0, .int .i64 0, .slice none 0 0] := BkAt.put hJ5 2 _ (by simp only [List.setIfInBounds_toArray, List.set_cons_zero, List.set_cons_succ])
 have hC6 : Chg w1 ((((((w1.setCell ⟨w.heap.size, 8, none⟩ (.int .i64 f.bw)).setCell ⟨w.heap.size, 9, none⟩ (.int .i64 f.bh)).setCell ⟨w.heap.size, 10, none⟩ (.slice A f.data.length c)).setCell ⟨w.heap.size + 1, 0, none⟩ (.int .i64 f.id)).setCell ⟨w.heap.size + 1, 1, none⟩ (.int .i64 f.x)).setCell ⟨w.heap.size + 1, 2, none⟩ (.int .i64 f.y)) [w.heap.size, w.heap.size + 1] := hC5.trans (Chg.setB _ _ _ _ _ (by simp))
 clear hJ5 hC5
 have hJ7 : BkAt (((((((w1.setCell ⟨w.heap.size, 8, none⟩ (.int .i64 f.bw)).setCell ⟨w.heap.size, 9, none⟩ (.int .i64 f.bh)).setCell ⟨w.heap.size, 10, none⟩ (.slice A f.data.length c)).setCell ⟨w.heap.size + 1, 0, none⟩ (.int .i64 f.id)).setCell ⟨w.heap.size + 1, 1, none⟩ (.int .i64 f.x)).setCell ⟨w.heap.size + 1, 2, none⟩ (.int .i64 f.y)).setCell ⟨w.heap.size + 1, 3, none⟩ (.int .i64 f.w)) (w.heap.size + 1) 153 #[.int .i64 f.id, .int .i64 f.x, .int .i64 f.y, .int .i64 f.w, .int .i64 0, .int .i64 0, .int .i64 0, .bool false, .int .i64 0, .int .i64 0, .slice none 0 0] := BkAt.put hJ6 3 _ (by simp only [List.setIfInBounds_toArray, List.set_cons_zero, List.set_cons_succ])
 have hC7 : Chg w1 (((((((w1.setCell ⟨w.heap.size, 8, none⟩ (.int .i64 f.bw)).setCell ⟨w.heap.size, 9, none⟩ (.int .i64 f.bh)).setCell ⟨w.heap.size, 10, none⟩ (.slice A f.data.length c)).setCell ⟨w.heap.size + 1, 0, none⟩ (.int .i64 f.id)).setCell ⟨w.heap.size + 1, 1, none⟩ (.int .i64 f.x)).setCell ⟨w.heap.size + 1, 2, none⟩ (.int .i64 f.y)).setCell ⟨w.heap.size + 1, 3, none⟩ (.int .i64 f.w)) [w.heap.size, w.heap.size + 1] := hC6.trans (Chg.setB _ _ _ _ _ (by simp))
 clear hJ6 hC6
 have hJ8 : BkAt ((((((((w1.setCell ⟨w.heap.size, 8, none⟩ (.int .i64 f.bw)).setCell ⟨w.heap.size, 9, none⟩ (.int .i64 f.bh)).setCell ⟨w.heap.size, 10, none⟩ (.slice A f.data.length c)).setCell ⟨w.heap.size + 1, 0, none⟩ (.int .i64 f.id)).setCell ⟨w.heap.size + 1, 1, none⟩ (.int .i64 f.x)).setCell ⟨w.heap.size + 1, 2, none⟩ (.int .i64 f.y)).setCell ⟨w.heap.size + 1, 3, none⟩ (.int .i64 f.w)).setCell ⟨w.heap.size + 1, 4, none⟩ (.int .i64 f.h)) (w.heap.size + 1) 153 #[.int .i64 f.id, .int .i64 f.x, .int .i64 f.y, .int .i64 f.w, .int .i64 f.h, .int .i64 0, .int .i64 0, .bool false, .int .i64 0, .int .i64 0, .slice none 0 0] := BkAt.put hJ7 4 _ (by simp only [List.setIfInBounds_toArray, List.set_cons_zero, List.set_cons_succ])
 have hC8 : Chg w1 ((((((((w1.setCell ⟨w.heap.size, 8, none⟩ (.int .i64 f.bw)).setCell ⟨w.heap.size, 9, none⟩ (.int .i64 f.bh)).setCell ⟨w.heap.size, 10, none⟩ (.slice A f.data.length c)).setCell ⟨w.heap.size + 1, 0, none⟩ (.int .i64 f.id)).setCell ⟨w.heap.size + 1, 1, none⟩ (.int .i64 f.x)).setCell ⟨w.heap.size + 1, 2, none⟩ (.int .i64 f.y)).setCell ⟨w.heap.size + 1, 3, none⟩ (.int .i64 f.w)).setCell ⟨w.heap.size + 1, 4, none⟩ (.int .i64 f.h)) [w.heap.size, w.heap.size + 1] := hC7.trans (Chg.setB _ _ _ _ _ (by simp))
 clear hJ7 hC7
 have hJ9 : BkAt (((((((((w1.setCell ⟨w.heap.size, 8, none⟩ (.int .i64 f.bw)).setCell ⟨w.heap.size, 9, none⟩ (.int .i64 f.bh)).setCell ⟨w.heap.size, 10, none⟩ (.slice A f.data.length c)).setCell ⟨w.heap.size + 1, 0, none⟩ (.int .i64 f.id)).setCell ⟨w.heap.size + 1, 1, none⟩ (.int .i64 f.x)).setCell ⟨w.heap.size + 1, 2, none⟩ (.int .i64 f.y)).setCell ⟨w.heap.size + 1, 3, none⟩ (.int .i64 f.w)).setCell ⟨w.heap.size + 1, 4, none⟩ (.int .i64 f.h)).setCell ⟨w.heap.size + 1, 5, none⟩ (.int .i64 f.alpha)) (w.heap.size + 1) 153 #[.int .i64 f.id, .int .i64 f.x, .int .i64 f.y, .int .i64 f.w, .int .i64 f.h, .int .i64 f.alpha, .int .i64 0, .bool false, .int .i64 0, .int .i64 0, .slice none 0 0] := BkAt.put hJ8 5 _ (by simp only [List.setIfInBounds_toArray, List.set_cons_zero, List.set_cons_succ])
 have hC9 : Chg w1 (((((((((w1.setCell ⟨w.heap.size, 8, none⟩ (.int .i64 f.bw)).setCell ⟨w.heap.size, 9, none⟩ (.int .i64 f.bh)).setCell ⟨w.heap.size, 10, none⟩ (.slice A f.data.length c)).setCell ⟨w.heap.size + 1, 0, none⟩ (.int .i64 f.id)).setCell ⟨w.heap.size + 1, 1, none⟩ (.int .i64 f.x)).setCell ⟨w.heap.size + 1, 2, none⟩ (.int .i64 f.y)).setCell ⟨w.heap.size + 1, 3, none⟩ (.int .i64 f.w)).setCell ⟨w.heap.size + 1, 4, none⟩ (.int .i64 f.h)).setCell ⟨w.heap.size + 1, 5, none⟩ (.int .i64 f.alpha)) [w.heap.size, w.heap.size + 1] := hC8.trans (Chg.setB _ _ _ _ _ (by simp))
 clear hJ8 hC8
 have hJ10 : BkAt ((((((((((w1.setCell ⟨w.heap.size, 8, none⟩ (.int .i64 f.bw)).setCell ⟨w.heap.size, 9, none⟩ (.int .i64 f.bh)).setCell ⟨w.heap.size, 10, none⟩ (.slice A f.data.length c)).setCell ⟨w.heap.size + 1, 0, none⟩ (.int .i64 f.id)).setCell ⟨w.heap.size + 1, 1, none⟩ (.int .i64 f.x)).setCell ⟨w.heap.size + 1, 2, none⟩ (.int .i64 f.y)).setCell ⟨w.heap.size + 1, 3, none⟩ (.int .i64 f.w)).setCell ⟨w.heap.size + 1, 4, none⟩ (.int .i64 f.h)).setCell ⟨w.heap.size + 1, 5, none⟩ (.int .i64 f.alpha)).setCell ⟨w.heap.size + 1, 6, none⟩ (.int .i64 f.orient)) (w.heap.size + 1) 153 #[.int .i64 f.id, .int .i64 f.x, .int .i64 f.y, .int .i64 f.w, .int .i64 f.h, .int .i64 f.alpha, .int .i64 f.orient, .bool false, .int .i64 0, .int .i64 0, .slice none 0 0] := BkAt.put hJ9 6 _ (by simp only [List.setIfInBounds_toArray, List.set_cons_zero, List.set_cons_succ])
 have hC10 : Chg w1 ((((((((((w1.setCell ⟨w.heap.size, 8, none⟩ (.int .i64 f.bw)).setCell ⟨w.heap.size, 9, none⟩ (.int .i64 f.bh)).setCell ⟨w.heap.size, 10, none⟩ (.slice A f.data.length c)).setCell ⟨w.heap.size + 1, 0, none⟩ (.int .i64 f.id)).setCell ⟨w.heap.size + 1, 1, none⟩ (.int .i64 f.x)).setCell ⟨w.heap.size + 1, 2, none⟩ (.int .i64 f.y)).setCell ⟨w.heap.size + 1, 3, none⟩ (.int .i64 f.w)).setCell ⟨w.heap.size + 1, 4, none⟩ (.int .i64 f.h)).setCell ⟨w.heap.size + 1, 5, none⟩ (.int .i64 f.alpha)).setCell ⟨w.heap.size + 1, 6, none⟩ (.int .i64 f.orient)) [w.heap.size, w.heap.size + 1] := hC9.trans (Chg.setB _ _ _ _ _ (by simp))
 clear hJ9 hC9
 have hJ11 : BkAt (((((((((((w1.setCell ⟨w.heap.size, 8, none⟩ (.int .i64 f.bw)).setCell ⟨w.heap.size, 9, none⟩ (.int .i64 f.bh)).setCell ⟨w.heap.size, 10, none⟩ (.slice A f.data.length c)).setCell ⟨w.heap.size + 1, 0, none⟩ (.int .i64 f.id)).setCell ⟨w.heap.size + 1, 1, none⟩ (.int .i64 f.x)).setCell ⟨w.heap.size + 1, 2, none⟩ (.int .i64 f.y)).setCell ⟨w.heap.size + 1, 3, none⟩ (.int .i64 f.w)).setCell ⟨w.heap.size + 1, 4, none⟩ (.int .i64 f.h)).setCell ⟨w.heap.size + 1, 5, none⟩ (.int .i64 f.alpha)).setCell ⟨w.heap.size + 1, 6, none⟩ (.int .i64 f.orient)).setCell ⟨w.heap.size + 1, 7, none⟩ (.bool f.vis)) (w.heap.size + 1) 153 #[.int .i64 f.id, .int .i64 f.x, .int .i64 f.y, .int .i64 f.w, .int .i64 f.h, .int .i64 f.alpha, .int .i64 f.orient, .bool f.vis, .int .i64 0, .int .i64 0, .slice none 0 0] := BkAt.put hJ10 7 _ (by simp only [List.setIfInBounds_toArray, List.set_cons_zero, List.set_cons_succ])
 have hC11 : Chg w1 (((((((((((w1.setCell ⟨w.heap.size, 8, none⟩ (.int .i64 f.bw)).setCell ⟨w.heap.size, 9, none⟩ (.int .i64 f.bh)).setCell ⟨w.heap.size, 10, none⟩ (.slice A f.data.length c)).setCell ⟨w.heap.size + 1, 0, none⟩ (.int .i64 f.id)).setCell ⟨w.heap.size + 1, 1, none⟩ (.int .i64 f.x)).setCell ⟨w.heap.size + 1, 2, none⟩ (.int .i64 f.y)).setCell ⟨w.heap.size + 1, 3, none⟩ (.int .i64 f.w)).setCell ⟨w.heap.size + 1, 4, none⟩ (.int .i64 f.h)).setCell ⟨w.heap.size + 1, 5, none⟩ (.int .i64 f.alpha)).setCell ⟨w.heap.size + 1, 6, none⟩ (.int .i64 f.orient)).setCell ⟨w.heap.size + 1, 7, none⟩ (.bool f.vis)) [w.heap.size, w.heap.size + 1] := hC10.trans (Chg.setB _ _ _ _ _ (by simp))
 clear hJ10 hC10
 have hJ12 : BkAt ((((((((((((w1.setCell ⟨w.heap.size, 8, none⟩ (.int .i64 f.bw)).setCell ⟨w.heap.size, 9, none⟩ (.int .i64 f.bh)).setCell ⟨w.heap.size, 10, none⟩ (.slice A f.data.length c)).setCell ⟨w.heap.size + 1, 0, none⟩ (.int .i64 f.id)).setCell ⟨w.heap.size + 1, 1, none⟩ (.int .i64 f.x)).setCell ⟨w.heap.size + 1, 2, none⟩ (.int .i64 f.y)).setCell ⟨w.heap.size + 1, 3, none⟩ (.int .i64 f.w)).setCell ⟨w.heap.size + 1, 4, none⟩ (.int .i64 f.h)).setCell ⟨w.heap.size + 1, 5, none⟩ (.int .i64 f.alpha)).setCell ⟨w.heap.size + 1, 6, none⟩ (.int .i64 f.orient)).setCell ⟨w.heap.size + 1, 7, none⟩ (.bool f.vis)).setCell ⟨w.heap.size + 1, 8, none⟩ (.int .i64 f.bw)) (w.heap.size + 1) 153 #[.int .i64 f.id, .int .i64 f.x, .int .i64 f.y, .int .i64 f.w, .int .i64 f.h, .int .i64 f.alpha, .int .i64 f.orient, .bool f.vis, .int .i64 f.bw, .int .i64 0, .slice none 0 0] := BkAt.put hJ11 8 _ (by simp only [List.setIfInBounds_toArray, List.set_cons_zero, List.set_cons_succ])
 have hC12 : Chg w1 ((((((((((((w1.setCell ⟨w.heap.size, 8, none⟩ (.int .i64 f.bw)).setCell ⟨w.heap.size, 9, none⟩ (.int .i64 f.bh)).setCell ⟨w.heap.size, 10, none⟩ (.slice A f.data.length c)).setCell ⟨w.heap.size + 1, 0, none⟩ (.int .i64 f.id)).setCell ⟨w.heap.size + 1, 1, none⟩ (.int .i64 f.x)).setCell ⟨w.heap.size + 1, 2, none⟩ (.int .i64 f.y)).setCell ⟨w.heap.size + 1, 3, none⟩ (.int .i64 f.w)).setCell ⟨w.heap.size + 1, 4, none⟩ (.int .i64 f.h)).setCell ⟨w.heap.size + 1, 5, none⟩ (.int .i64 f.alpha)).setCell ⟨w.heap.size + 1, 6, none⟩ (.int .i64 f.orient)).setCell ⟨w.heap.size + 1, 7, none⟩ (.bool f.vis)).setCell ⟨w.heap.size + 1, 8, none⟩ (.int .i64 f.bw)) [w.heap.size, w.heap.size + 1] := hC11.trans (Chg.setB _ _ _ _ _ (by simp))
 clear hJ11 hC11
 have hJ13 : BkAt (((((((((((((w1.setCell ⟨w.heap.size, 8, none⟩ (.int .i64 f.bw)).setCell ⟨w.heap.size, 9, none⟩ (.int .i64 f.bh)).setCell ⟨w.heap.size, 10, none⟩ (.slice A f.data.length c)).setCell ⟨w.heap.size + 1, 0, none⟩ (.int .i64 f.id)).setCell ⟨w.heap.size + 1, 1, none⟩ (.int .i64 f.x)).setCell ⟨w.heap.size + 1, 2, none⟩ (.int .i64 f.y)).setCell ⟨w.heap.size + 1, 3, none⟩ (.int .i64 f.w)).setCell ⟨w.heap.size + 1, 4, none⟩ (.int .i64 f.h)).setCell ⟨w.heap.size + 1, 5, none⟩ (.int .i64 f.alpha)).setCell ⟨w.heap.size + 1, 6, none⟩ (.int .i64 f.orient)).setCell ⟨w.heap.size + 1, 7, none⟩ (.bool f.vis)).setCell ⟨w.heap.size + 1, 8, none⟩ (.int .i64 f.bw)).setCell ⟨w.heap.size + 1, 9, none⟩ (.int .i64 f.bh)) (w.heap.size + 1) 153 #[.int .i64 f.id, .int .i64 f.x, .int .i64 f.y, .int .i64 f.w, .int .i64 f.h, .int .i64 f.alpha, .int .i64 f.orient, .bool f.vis, .int .i64 f.bw, .int .i64 f.bh, .slice none 0 0] := BkAt.put hJ12 9 _ (by simp only [List.setIfInBounds_toArray, List.set_cons_zero, List.set_cons_succ])
 have hC13 : Chg w1 (((((((((((((w1.setCell ⟨w.heap.size, 8, none⟩ (.int .i64 f.bw)).setCell ⟨w.heap.size, 9, none⟩ (.int .i64 f.bh)).setCell ⟨w.heap.size, 10, none⟩ (.slice A f.data.length c)).setCell ⟨w.heap.size + 1, 0, none⟩ (.int .i64 f.id)).setCell ⟨w.heap.size + 1, 1, none⟩ (.int .i64 f.x)).setCell ⟨w.heap.size + 1, 2, none⟩ (.int .i64 f.y)).setCell ⟨w.heap.size + 1, 3, none⟩ (.int .i64 f.w)).setCell ⟨w.heap.size + 1, 4, none⟩ (.int .i64 f.h)).setCell ⟨w.heap.size + 1, 5, none⟩ (.int .i64 f.alpha)).setCell ⟨w.heap.size + 1, 6, none⟩ (.int .i64 f.orient)).setCell ⟨w.heap.size + 1, 7, none⟩ (.bool f.vis)).setCell ⟨w.heap.size + 1, 8, none⟩ (.int .i64 f.bw)).setCell ⟨w.heap.size + 1, 9, none⟩ (.int .i64 f.bh)) [w.heap.size, w.heap.size + 1] := hC12.trans (Chg.setB _ _ _ _ _ (by simp))
 clear hJ12 hC12
 have hJ14 : BkAt ((((((((((((((w1.setCell ⟨w.heap.size, 8, none⟩ (.int .i64 f.bw)).setCell ⟨w.heap.size, 9, none⟩ (.int .i64 f.bh)).setCell ⟨w.heap.size, 10, none⟩ (.slice A f.data.length c)).setCell ⟨w.heap.size + 1, 0, none⟩ (.int .i64 f.id)).setCell ⟨w.heap.size + 1, 1, none⟩ (.int .i64 f.x)).setCell ⟨w.heap.size + 1, 2, none⟩ (.int .i64 f.y)).setCell ⟨w.heap.size + 1, 3, none⟩ (.int .i64 f.w)).setCell ⟨w.heap.size + 1, 4, none⟩ (.int .i64 f.h)).setCell ⟨w.heap.size + 1, 5, none⟩ (.int .i64 f.alpha)).setCell ⟨w.heap.size + 1, 6, none⟩ (.int .i64 f.orient)).setCell ⟨w.heap.size + 1, 7, none⟩ (.bool f.vis)).setCell ⟨w.heap.size + 1, 8, none⟩ (.int .i64 f.bw)).setCell ⟨w.heap.size + 1, 9, none⟩ (.int .i64 f.bh)).setCell ⟨w.heap.size + 1, 10, none⟩ (.slice A f.data.length c)) (w.heap.size + 1) 153 #[.int .i64 f.id, .int .i64 f.x, .int .i64 f.y, .int .i64 f.w, .int .i64 f.h, .int .i64 f.alpha, .int .i64 f.orient, .bool f.vis, .int .i64 f.bw, .int .i64 f.bh, .slice A f.data.length c] := BkAt.put hJ13 10 _ (by simp only [List.setIfInBounds_toArray, List.set_cons_zero, List.set_cons_succ])
 have hC14 : Chg w1 ((((((((((((((w1.setCell ⟨w.heap.size, 8, none⟩ (.int .i64 f.bw)).setCell ⟨w.heap.size, 9, none⟩ (.int .i64 f.bh)).setCell ⟨w.heap.size, 10, none⟩ (.slice A f.data.length c)).setCell ⟨w.heap.size + 1, 0, none⟩ (.int .i64 f.id)).setCell ⟨w.heap.size + 1, 1, none⟩ (.int .i64 f.x)).setCell ⟨w.heap.size + 1, 2, none⟩ (.int .i64 f.y)).setCell ⟨w.heap.size + 1, 3, none⟩ (.int .i64 f.w)).setCell ⟨w.heap.size + 1, 4, none⟩ (.int .i64 f.h)).setCell ⟨w.heap.size + 1, 5, none⟩ (.int .i64 f.alpha)).setCell ⟨w.heap.size + 1, 6, none⟩ (.int .i64 f.orient)).setCell ⟨w.heap.size + 1, 7, none⟩ (.bool f.vis)).setCell ⟨w.heap.size + 1, 8, none⟩ (.int .i64 f.bw)).setCell ⟨w.heap.size + 1, 9, none⟩ (.int .i64 f.bh)).setCell ⟨w.heap.size + 1, 10, none⟩ (.slice A f.data.length c)) [w.heap.size, w.heap.size + 1] := hC13.trans (Chg.setB _ _ _ _ _ (by simp))
 clear hJ13 hC13
 have x0 := hJ14.cell 0 rfl
 have x1 := hJ14.cell 1 rfl
 have x2 := hJ14.cell 2 rfl
 have x3 := hJ14.cell 3 rfl
 have x4 := hJ14.cell 4 rfl
 have x5 := hJ14.cell 5 rfl
 have x6 := hJ14.cell 6 rfl
 have x7 := hJ14.cell 7 rfl
 have x8 := hJ14.cell 8 rfl
 have x9 := hJ14.cell 9 rfl
 have x10 := hJ14.cell 10 rfl
 have hown := own_chg Hown.out hC14 (fun b hb => by rcases mem2 hb with rfl | rfl <;> omega)
 have hbel := hC14.below HB.out HB.out.size (fun b hb => by rcases mem2 hb with rfl | rfl <;> omega)
 exact bodyPost_ret (v := .agg #[.int .i64 f.id, .int .i64 f.x, .int .i64 f.y, .int .i64 f.w, .int .i64 f.h, .int .i64 f.alpha, .int .i64 f.orient, .bool f.vis, .int .i64 f.bw, .int .i64 f.bh, .slice A f.data.length c]) (by simp [results, Tryz.results135, go_sem, x0, x1, x2, x3, x4, x5, x6, x7, x8, x9, x10]) rfl ⟨_, rfl, hown.mono (by omega), hbel⟩
end Go.Proofs.YtokniebejilcbaaGreat
