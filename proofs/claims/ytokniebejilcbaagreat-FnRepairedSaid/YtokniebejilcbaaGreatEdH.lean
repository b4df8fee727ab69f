/- Lists of surfaces whose row is owned while their pixels may be shared; appending and setting. No statement is proved here. -/
import Derived.Test.YtokniebejilcbaaGreatMA
import Derived.Test.YtokniebejilcbaaGreatMC
import Derived.Test.YtokniebejilcbaaGreatMB
import Derived.Test.YtokniebejilcbaaGreatSnS
import Derived.Test.YtokniebejilcbaaGreatSnD
import Derived.Test.YtokniebejilcbaaGreatProg
import Derived.WalkKit
import Derived.ProofKit
import Derived.OpenShut
import Derived.WalkLawsBesides
import Derived.WalkSpells
import Derived.ShutString
import Derived.ChangeOld
import Derived.Below
import Derived.Lib.Hide
import Derived.BigQuiet
import Derived.Deep.QuietTactic
import Derived.Maps.AppendAt
import Derived.Deep.OwnRows
import Derived.Handy
import Derived.Deep.Draws
import Derived.OwnWalk
import Derived.Deep.AppendLies
import Derived.Deep.LoopGhost
import Derived.Deep.Onto
import Derived.Deep.MidRow
import Derived.Deep.WholeRow
import Derived.Laws.BitsAllLaws
import Derived.Lib.QuoteBits
import Derived.Deep.RegionHeld3
import Derived.Deep.DeepCutAuto
import Derived.Test.YtokniebejilcbaaGreatShelf
import Derived.Laws.CopyOwn
import Derived.Deep.RegionLaw
import Derived.Great.BuildSlice
import Derived.Shelf.RegionOpenPlain
import Derived.Lib.SliceRun
import Derived.Deep.RegionWith
import Derived.Laws.AppendOwn
namespace Go.Proofs.YtokniebejilcbaaGreat
open Go.RowKit
structure HalfU (B : Nat) (w : World) (M : List Sf) (v : Value) (bs : List Nat) : Prop where
 ex : ∃ xs bss, rowsR repSf w M xs bss ∧ (∀ x ∈ xs, x.length = 11) ∧ w.ownsRow B 153 11 v M.length xs.flatten ∧ bs = bss.flatten
 ne : ∀ b ∈ bs, b ∉ v.ownBlock.toList
theorem HalfU.of_own {B : Nat} {w : World} {M : List Sf} {v : Value} {bs : List Nat} (h : repSfs.Own B w M [v] bs) : ∃ bs', HalfU B w M v bs' ∧ (∀ b ∈ bs', B ≤ b) := by
 obtain ⟨v', xs, bss, e, hr, hls, how, rfl⟩ := h.r
 obtain rfl : v = v' := by simpa using e
 have hnd := h.nd
 rw [List.nodup_append] at hnd
 exact ⟨bss.flatten, ⟨⟨xs, bss, hr, hls, own_rebase how fun b hb => h.lo b (List.mem_append.2 (.inl hb)), rfl⟩, fun b hb e => hnd.2.2 b e b hb rfl⟩, fun b hb => h.lo b (List.mem_append.2 (.inr hb))⟩
theorem HalfU.r {B : Nat} {w : World} {M : List Sf} {v : Value} {bs : List Nat} (h : HalfU B w M v bs) : repSfs.R w M [v] (v.ownBlock.toList ++ bs) := by
 obtain ⟨xs, bss, hr, hls, how, rfl⟩ := h.ex
 exact ⟨v, xs, bss, rfl, hr, hls, own_rebase how fun _ _ => Nat.zero_le _, rfl⟩
theorem HalfU.lo {B : Nat} {w : World} {M : List Sf} {v : Value} {bs : List Nat} (h : HalfU B w M v bs) : ∀ q, v.ownBlock = some q → B ≤ q := fun q hq => by
 obtain ⟨xs, bss, hr, hls, how, rfl⟩ := h.ex
 exact (own_ltB how q (by rw [hq]; simp)).1
theorem HalfU.form {B : Nat} {w : World} {M : List Sf} {v : Value} {bs : List Nat} (h : HalfU B w M v bs) : ∃ A c, v = .slice A M.length c := (repSfs_form h.r).1
theorem HalfU.chg {B : Nat} {w w' : World} {M : List Sf} {v : Value} {bs cs : List Nat} (h : HalfU B w M v bs) (hc : Chg w w' cs) (h1 : ∀ q, v.ownBlock = some q → q ∉ cs) (h2 : ∀ b ∈ bs, b ∉ cs) : HalfU B w' M v bs := by
 obtain ⟨xs, bss, hr, hls, how, rfl⟩ := h.ex
 exact ⟨⟨xs, bss, rowsR_keep hr fun b hb => hc.block b (rowsR_ex hr b hb) (h2 b hb), hls, own_chgN how hc fun b hb => h1 b (by simpa using hb), rfl⟩, h.ne⟩
theorem HalfU.call {B : Nat} {w w' : World} {M : List Sf} {v : Value} {bs : List Nat} (h : HalfU B w M v bs) (hb : Below w.heap.size w w') : HalfU B w' M v bs := h.chg (Chg.of_below [] hb) (fun _ _ => by simp) (fun _ _ => by simp)
theorem HalfU.nil (B : Nat) (w : World) : HalfU B w [] (.slice none 0 0) [] := ⟨⟨[], [], trivial, by simp, ⟨rfl, .inl ⟨rfl, rfl⟩⟩, rfl⟩, by simp⟩
theorem HalfU.lt {B : Nat} {w : World} {M : List Sf} {v : Value} {bs : List Nat} (h : HalfU B w M v bs) : ∀ b ∈ bs, b < w.heap.size := fun b hb => repSfs.ex h.r b (List.mem_append.2 (.inr hb))
theorem HalfU.mono {B B' : Nat} {w : World} {M : List Sf} {v : Value} {bs : List Nat} (h : HalfU B w M v bs) (hB : B' ≤ B) : HalfU B' w M v bs := by
 obtain ⟨xs, bss, hr, hls, how, e⟩ := h.ex
 exact ⟨⟨xs, bss, hr, hls, how.mono hB, e⟩, h.ne⟩
theorem wp_append_half {op : Oper} {a : Act} {w : World} {K : Act → World → Prop} {Q : Exit → Act → World → Prop} (s x : Operand)
  (ho : op.op = .call { callee := .builtin .append, args := #[s, x], argTypes := #[32, 32] })
  (B B' : Nat) (v u : Value) (M N : List Sf) (bs cs : List Nat) (hs : a.eval s = v) (hown : HalfU B w M v bs) (hx : a.eval x = u) (hu : HalfU B' w N u cs) (hd : ∀ b ∈ cs, b ∉ v.ownBlock.toList) (hM : M.length + N.length ≤ 2097152) (hB : B ≤ w.heap.size)
  (h : ∀ v' bs' w', HalfU B w' (M ++ N) v' bs' → w.grownBy w' v.ownBlock → (∀ b ∈ bs', b ∈ bs ∨ b ∈ cs) → (v'.ownBlock = v.ownBlock ∨ v'.ownBlock = some w.heap.size) → (∃ A c, v' = .slice A (M.length + N.length) c) → K (a.put op.dst v') w') : op.wp Tryz.prog a w K Q := by
 obtain ⟨i0, hi, hz0, hz1, hby⟩ := info2_sf
 have hbn : (M.length + N.length) * i0.bytes ≤ 2097152 * 1000 := Nat.mul_le_mul hM hby
 obtain ⟨xs, bss, hr, hls, how, rfl⟩ := hown.ex
 obtain ⟨ys, css, hr2, hls2, how2, rfl⟩ := hu.ex
 refine wp_append_row s x 32 ho B B' 153 i0 _ 11 i0.bytes Tryz.underlying32 hi hz0 hz1 rfl rfl (by omega) v M.length xs.flatten hs how u N.length ys.flatten hx how2 (rows_one hr2) (by unfold maxLen; omega) (by omega) hB (fun v' w' q1 q2 q3 => ?_)
 have hch := Chg.of_grown q2
 have hlt : ∀ b ∈ bss.flatten ++ css.flatten, b < w.heap.size ∧ b ∉ v.ownBlock.toList := fun b hb => by
  rcases List.mem_append.1 hb with hb | hb
  ·exact ⟨rowsR_ex hr b hb, hown.ne b hb⟩
  ·exact ⟨rowsR_ex hr2 b hb, hd b hb⟩
 have hsh : ∃ A c, v' = .slice A (M.length + N.length) c := by
  rcases q1.2 with ⟨e, e2⟩ | ⟨g', cap, cur, e, _⟩
  ·exact ⟨none, 0, by rw [e, e2]⟩
  ·exact ⟨_, _, e⟩
 refine h v' (bss ++ css).flatten w' ⟨⟨xs ++ ys, bss ++ css, ?_, ?_, ?_, rfl⟩, fun b hb e => ?_⟩ q2 (fun b hb => ?_) q3 hsh
 ·exact rowsR_append (rowsR_keep hr fun b hb => hch.block b (rowsR_ex hr b hb) (hown.ne b hb)) (rowsR_keep hr2 fun b hb => hch.block b (rowsR_ex hr2 b hb) (hd b hb))
 ·intro y hy
  rcases List.mem_append.1 hy with hy | hy
  ·exact hls y hy
  ·exact hls2 y hy
 ·rw [List.flatten_append, List.length_append]; exact q1
 ·rw [List.flatten_append] at hb
  have h1 := hlt b hb
  rcases q3 with q | q
  ·rw [q] at e; exact h1.2 e
  ·rw [q] at e
   have : b = w.heap.size := by simpa using e
   omega
 ·rw [List.flatten_append] at hb
  exact List.mem_append.1 hb
theorem half_one {w : World} {g : Nat} {f : Sf} {u : Value} {bu : List Nat} (hg : BkAt w g 153 #[.int .i64 f.id, .int .i64 f.x, .int .i64 f.y, .int .i64 f.w, .int .i64 f.h, .int .i64 f.alpha, .int .i64 f.orient, .bool f.vis, .int .i64 f.bw, .int .i64 f.bh, u]) (hf : repSf.R w f (sfCells f u) bu) (hn : g ∉ bu) : HalfU g w [f] (.slice (some ⟨g, 0, none⟩) 1 1) bu :=
 ⟨⟨[sfCells f u], [bu], ⟨hf, trivial⟩, fun x hx => by rw [List.mem_singleton.1 hx]; rfl, ⟨rfl, .inr ⟨g, 1, _, rfl, Nat.le_refl _, hg, Nat.le_refl _, by unfold maxLen; omega, rfl, rfl⟩⟩, by simp⟩, fun b hb e => hn (by rw [← show b = g by simpa [Value.ownBlock] using e]; exact hb)⟩
theorem HalfU.put1 {B : Nat} {w : World} {M : List Sf} {g c n k j : Nat} {bs : List Nat} {f f' : Sf} {val : Value} (h : HalfU B w M (.slice (some ⟨g, 0, none⟩) n c) bs) (hn : n = M.length) (hf : M[k]? = some f) (hj : j < 11) (hv : ∀ d, (sfCells f d).set j val = sfCells f' d) (hd : f'.data = f.data) :
  HalfU B (w.setCell ⟨g, k * 11 + j, none⟩ val) (M.set k f') (.slice (some ⟨g, 0, none⟩) n c) bs ∧ w.grownBy (w.setCell ⟨g, k * 11 + j, none⟩ val) (some g) := by
 obtain ⟨xs, bss, hr, hls, how, rfl⟩ := h.ex
 have hB := fun b hb => (own_ltB how b hb).1
 have hU : SlU repSf 153 11 w M g c n xs bss := ⟨hr, hls, by rw [hn]; rw [hn] at how; exact own_rebase how fun _ _ => Nat.zero_le _, hn⟩
 have hk : k < n := by rw [hn]; exact (List.getElem?_eq_some_iff.1 hf).1
 obtain ⟨f0, x, b, hf0, hx, hb, hxl, hR, _⟩ := hU.at_ hk
 obtain rfl : f = f0 := Option.some.inj (hf.symm.trans hf0)
 obtain ⟨d, rfl, hdd⟩ := hR
 have hS := (SetK.zero hU hx).put (List.getElem?_eq_some_iff.1 hx).1 j hj val (hv d)
 have hch := Chg.of_grown hS.gr
 have hng : ∀ q ∈ bss.flatten, q ≠ g := fun q hq e => h.ne q hq (by rw [e]; simp [Value.ownBlock])
 have hU2 := SlU.upd (a' := f') (b' := b) hU hk hS.ow hS.ls ⟨d, rfl, by rw [hd]; exact Rep.chg hdd hch fun q hq e => hng q (flat_mem hb hq) (by simpa using e)⟩ (fun i dd _ hdd2 q hq => hch.block q (rowsR_ex hr q (flat_mem hdd2 hq)) fun e => hng q (flat_mem hdd2 hq) (by simpa using e))
 rw [set_same hb] at hU2
 refine ⟨⟨⟨_, bss, hU2.rr, hU2.ls, ?_, rfl⟩, h.ne⟩, hS.gr⟩
 rw [List.length_set, ← hn]
 exact own_rebase hU2.ow fun b hb => hB b hb
theorem HalfU.put3 {B : Nat} {w : World} {M : List Sf} {g c n k : Nat} {bs bu : List Nat} {f f' : Sf} {p q u : Value} (h : HalfU B w M (.slice (some ⟨g, 0, none⟩) n c) bs) (hn : n = M.length) (hf : M[k]? = some f) (hv : ∀ d, (((sfCells f d).set 8 p).set 9 q).set 10 u = sfCells f' u) (hu : repInts.R w f'.data [u] bu) (hg : g ∉ bu) :
  ∃ bs', HalfU B (((w.setCell ⟨g, k * 11 + 8, none⟩ p).setCell ⟨g, k * 11 + 8 + 1, none⟩ q).setCell ⟨g, k * 11 + 8 + 2, none⟩ u) (M.set k f') (.slice (some ⟨g, 0, none⟩) n c) bs' ∧ w.grownBy (((w.setCell ⟨g, k * 11 + 8, none⟩ p).setCell ⟨g, k * 11 + 8 + 1, none⟩ q).setCell ⟨g, k * 11 + 8 + 2, none⟩ u) (some g) ∧ ∀ b ∈ bs', b ∈ bs ∨ b ∈ bu := by
 obtain ⟨xs, bss, hr, hls, how, rfl⟩ := h.ex
 have hB := fun b hb => (own_ltB how b hb).1
 have hU : SlU repSf 153 11 w M g c n xs bss := ⟨hr, hls, by rw [hn]; rw [hn] at how; exact own_rebase how fun _ _ => Nat.zero_le _, hn⟩
 have hk : k < n := by rw [hn]; exact (List.getElem?_eq_some_iff.1 hf).1
 obtain ⟨f0, x, b, hf0, hx, hb, hxl, hR, _⟩ := hU.at_ hk
 obtain rfl : f = f0 := Option.some.inj (hf.symm.trans hf0)
 obtain ⟨d, rfl, hdd⟩ := hR
 have hkx := (List.getElem?_eq_some_iff.1 hx).1
 have hS := (((SetK.zero hU hx).put hkx 8 (by omega) p rfl).put hkx 9 (by omega) q rfl).put hkx 10 (by omega) u (hv d)
 rw [show k * 11 + 9 = k * 11 + 8 + 1 by omega, show k * 11 + 10 = k * 11 + 8 + 2 by omega] at hS
 have hch := Chg.of_grown hS.gr
 have hng : ∀ q ∈ bss.flatten, q ≠ g := fun q hq e => h.ne q hq (by rw [e]; simp [Value.ownBlock])
 have hU2 := SlU.upd (a' := f') (b' := bu) hU hk hS.ow hS.ls ⟨u, rfl, Rep.chg hu hch fun q hq e => hg (by rw [← show q = g by simpa using e]; exact hq)⟩ (fun i dd _ hdd2 q hq => hch.block q (rowsR_ex hr q (flat_mem hdd2 hq)) fun e => hng q (flat_mem hdd2 hq) (by simpa using e))
 have hmem : ∀ z ∈ (bss.set k bu).flatten, z ∈ bss.flatten ∨ z ∈ bu := fun z hz => by
  obtain ⟨dd, hd, hm⟩ := List.mem_flatten.1 hz
  rcases List.mem_or_eq_of_mem_set hd with hd | rfl
  ·exact .inl (List.mem_flatten.2 ⟨dd, hd, hm⟩)
  ·exact .inr hm
 refine ⟨_, ⟨⟨_, _, hU2.rr, hU2.ls, ?_, rfl⟩, fun z hz e => ?_⟩, hS.gr, hmem⟩
 ·rw [List.length_set, ← hn]
  exact own_rebase hU2.ow fun b hb => hB b hb
 ·have e2 : z = g := by simpa [Value.ownBlock] using e
  rcases hmem z hz with h1 | h1
  ·exact hng z h1 e2
  ·exact hg (e2 ▸ h1)
end Go.Proofs.YtokniebejilcbaaGreat
