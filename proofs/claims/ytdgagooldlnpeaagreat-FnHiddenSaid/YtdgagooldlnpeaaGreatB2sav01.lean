/- Texts of mine in one file: EdH, EdW, EdQ, PnM, OcN. No statement is proved here. -/
import Derived.Test.YtdgagooldlnpeaaGreatMA
import Derived.Test.YtdgagooldlnpeaaGreatMC
import Derived.Test.YtdgagooldlnpeaaGreatMAv013
import Derived.Test.YtdgagooldlnpeaaGreatCombIv013
import Derived.Test.YtdgagooldlnpeaaGreatMAv01
import Derived.Test.YtdgagooldlnpeaaGreatB1nav013
import Derived.Test.YtdgagooldlnpeaaGreatMAv012
import Derived.Test.YtdgagooldlnpeaaGreatMBv01
import Derived.Test.YtdgagooldlnpeaaGreatMB
import Derived.Test.YtdgagooldlnpeaaGreatSnDv01
import Derived.Test.YtdgagooldlnpeaaGreatSnS
import Derived.Test.YtdgagooldlnpeaaGreatB2sa
import Derived.Test.YtdgagooldlnpeaaGreatSfP
import Derived.Test.YtdgagooldlnpeaaGreatSfR
import Derived.Test.YtdgagooldlnpeaaGreatB2sav013
import Derived.Test.YtdgagooldlnpeaaGreatB2sav012
import Derived.Test.YtdgagooldlnpeaaGreatProg
import Derived.WalkKit
import Derived.ProofKit
import Derived.OpenShut
import Derived.WalkLawsBesides
import Derived.WalkSpells
import Derived.ShutString
import Derived.ChangeOld
import Derived.Below
import Derived.Lib.Hide
import Derived.BigQuiet
import Derived.Deep.QuietTactic
import Derived.Maps.AppendAt
import Derived.Deep.OwnRows
import Derived.Handy
import Derived.Deep.Draws
import Derived.OwnWalk
import Derived.Deep.AppendLies
import Derived.Deep.LoopGhost
import Derived.Deep.Onto
import Derived.Deep.MidRow
import Derived.Deep.WholeRow
import Derived.Laws.BitsAllLaws
import Derived.Lib.QuoteBits
import Derived.Deep.RegionHeld3
import Derived.Deep.DeepCutAuto
import Derived.Test.YtdgagooldlnpeaaGreatShelf
import Derived.Laws.CopyOwn
import Derived.Deep.RegionLaw
import Derived.Great.BuildSlice
import Derived.Shelf.RegionOpenPlain
import Derived.Lib.SliceRun
import Derived.Deep.RegionWith
import Derived.Laws.AppendOwn
import Derived.Deep.CutBlock
import Derived.ChangeKeysEq
namespace Go.Proofs.YtdgagooldlnpeaaGreat
open Go.RowKit
structure HalfU (B : Nat) (w : World) (M : List Sf) (v : Value) (bs : List Nat) : Prop where
 ex : ∃ xs bss, rowsR repSf w M xs bss ∧ (∀ x ∈ xs, x.length = 11) ∧ w.ownsRow B 89 11 v M.length xs.flatten ∧ bs = bss.flatten
 ne : ∀ b ∈ bs, b ∉ v.ownBlock.toList
theorem HalfU.of_own {B : Nat} {w : World} {M : List Sf} {v : Value} {bs : List Nat} (h : repSfs.Own B w M [v] bs) : ∃ bs', HalfU B w M v bs' ∧ (∀ b ∈ bs', B ≤ b) := by
 obtain ⟨v', xs, bss, e, hr, hls, how, rfl⟩ := h.r
 obtain rfl : v = v' := by simpa using e
 have hnd := h.nd
 rw [List.nodup_append] at hnd
 exact ⟨bss.flatten, ⟨⟨xs, bss, hr, hls, own_rebase how fun b hb => h.lo b (List.mem_append.2 (.inl hb)), rfl⟩, fun b hb e => hnd.2.2 b e b hb rfl⟩, fun b hb => h.lo b (List.mem_append.2 (.inr hb))⟩
theorem HalfU.r {B : Nat} {w : World} {M : List Sf} {v : Value} {bs : List Nat} (h : HalfU B w M v bs) : repSfs.R w M [v] (v.ownBlock.toList ++ bs) := by
 obtain ⟨xs, bss, hr, hls, how, rfl⟩ := h.ex
 exact ⟨v, xs, bss, rfl, hr, hls, own_rebase how fun _ _ => Nat.zero_le _, rfl⟩
theorem HalfU.lo {B : Nat} {w : World} {M : List Sf} {v : Value} {bs : List Nat} (h : HalfU B w M v bs) : ∀ q, v.ownBlock = some q → B ≤ q := fun q hq => by
 obtain ⟨xs, bss, hr, hls, how, rfl⟩ := h.ex
 exact (own_ltB how q (by rw [hq]; simp)).1
theorem HalfU.form {B : Nat} {w : World} {M : List Sf} {v : Value} {bs : List Nat} (h : HalfU B w M v bs) : ∃ A c, v = .slice A M.length c := (repSfs_form h.r).1
theorem HalfU.chg {B : Nat} {w w' : World} {M : List Sf} {v : Value} {bs cs : List Nat} (h : HalfU B w M v bs) (hc : Chg w w' cs) (h1 : ∀ q, v.ownBlock = some q → q ∉ cs) (h2 : ∀ b ∈ bs, b ∉ cs) : HalfU B w' M v bs := by
 obtain ⟨xs, bss, hr, hls, how, rfl⟩ := h.ex
 exact ⟨⟨xs, bss, rowsR_keep hr fun b hb => hc.block b (rowsR_ex hr b hb) (h2 b hb), hls, own_chgN how hc fun b hb => h1 b (by simpa using hb), rfl⟩, h.ne⟩
theorem HalfU.call {B : Nat} {w w' : World} {M : List Sf} {v : Value} {bs : List Nat} (h : HalfU B w M v bs) (hb : Below w.heap.size w w') : HalfU B w' M v bs := h.chg (Chg.of_below [] hb) (fun _ _ => by simp) (fun _ _ => by simp)
theorem HalfU.nil (B : Nat) (w : World) : HalfU B w [] (.slice none 0 0) [] := ⟨⟨[], [], trivial, by simp, ⟨rfl, .inl ⟨rfl, rfl⟩⟩, rfl⟩, by simp⟩
theorem HalfU.lt {B : Nat} {w : World} {M : List Sf} {v : Value} {bs : List Nat} (h : HalfU B w M v bs) : ∀ b ∈ bs, b < w.heap.size := fun b hb => repSfs.ex h.r b (List.mem_append.2 (.inr hb))
theorem HalfU.mono {B B' : Nat} {w : World} {M : List Sf} {v : Value} {bs : List Nat} (h : HalfU B w M v bs) (hB : B' ≤ B) : HalfU B' w M v bs := by
 obtain ⟨xs, bss, hr, hls, how, e⟩ := h.ex
 exact ⟨⟨xs, bss, hr, hls, how.mono hB, e⟩, h.ne⟩
theorem wp_append_half {op : Oper} {a : Act} {w : World} {K : Act → World → Prop} {Q : Exit → Act → World → Prop} (s x : Operand)
  (ho : op.op = .call { callee := .builtin .append, args := #[s, x], argTypes := #[32, 32] })
  (B B' : Nat) (v u : Value) (M N : List Sf) (bs cs : List Nat) (hs : a.eval s = v) (hown : HalfU B w M v bs) (hx : a.eval x = u) (hu : HalfU B' w N u cs) (hd : ∀ b ∈ cs, b ∉ v.ownBlock.toList) (hM : M.length + N.length ≤ 2097152) (hB : B ≤ w.heap.size)
  (h : ∀ v' bs' w', HalfU B w' (M ++ N) v' bs' → w.grownBy w' v.ownBlock → (∀ b ∈ bs', b ∈ bs ∨ b ∈ cs) → (v'.ownBlock = v.ownBlock ∨ v'.ownBlock = some w.heap.size) → (∃ A c, v' = .slice A (M.length + N.length) c) → K (a.put op.dst v') w') : op.wp Tryz.prog a w K Q := by
 obtain ⟨i0, hi, hz0, hz1, hby⟩ := info2_sf
 have hbn : (M.length + N.length) * i0.bytes ≤ 2097152 * 1000 := Nat.mul_le_mul hM hby
 obtain ⟨xs, bss, hr, hls, how, rfl⟩ := hown.ex
 obtain ⟨ys, css, hr2, hls2, how2, rfl⟩ := hu.ex
 refine wp_append_row s x 32 ho B B' 89 i0 _ 11 i0.bytes Tryz.underlying32 hi hz0 hz1 rfl rfl (by omega) v M.length xs.flatten hs how u N.length ys.flatten hx how2 (rows_one hr2) (by unfold maxLen; omega) (by omega) hB (fun v' w' q1 q2 q3 => ?_)
 have hch := Chg.of_grown q2
 have hlt : ∀ b ∈ bss.flatten ++ css.flatten, b < w.heap.size ∧ b ∉ v.ownBlock.toList := fun b hb => by
  rcases List.mem_append.1 hb with hb | hb
  ·exact ⟨rowsR_ex hr b hb, hown.ne b hb⟩
  ·exact ⟨rowsR_ex hr2 b hb, hd b hb⟩
 have hsh : ∃ A c, v' = .slice A (M.length + N.length) c := by
  rcases q1.2 with ⟨e, e2⟩ | ⟨g', cap, cur, e, _⟩
  ·exact ⟨none, 0, by rw [e, e2]⟩
  ·exact ⟨_, _, e⟩
 refine h v' (bss ++ css).flatten w' ⟨⟨xs ++ ys, bss ++ css, ?_, ?_, ?_, rfl⟩, fun b hb e => ?_⟩ q2 (fun b hb => ?_) q3 hsh
 ·exact rowsR_append (rowsR_keep hr fun b hb => hch.block b (rowsR_ex hr b hb) (hown.ne b hb)) (rowsR_keep hr2 fun b hb => hch.block b (rowsR_ex hr2 b hb) (hd b hb))
 ·intro y hy
  rcases List.mem_append.1 hy with hy | hy
  ·exact hls y hy
  ·exact hls2 y hy
 ·rw [List.flatten_append, List.length_append]; exact q1
 ·rw [List.flatten_append] at hb
  have h1 := hlt b hb
  rcases q3 with q | q
  ·rw [q] at e; exact h1.2 e
  ·rw [q] at e
   have : b = w.heap.size := by simpa using e
   omega
 ·rw [List.flatten_append] at hb
  exact List.mem_append.1 hb
theorem half_one {w : World} {g : Nat} {f : Sf} {u : Value} {bu : List Nat} (hg : BkAt w g 89 #[.int .i64 f.id, .int .i64 f.x, .int .i64 f.y, .int .i64 f.w, .int .i64 f.h, .int .i64 f.alpha, .int .i64 f.orient, .bool f.vis, .int .i64 f.bw, .int .i64 f.bh, u]) (hf : repSf.R w f (sfCells f u) bu) (hn : g ∉ bu) : HalfU g w [f] (.slice (some ⟨g, 0, none⟩) 1 1) bu :=
 ⟨⟨[sfCells f u], [bu], ⟨hf, trivial⟩, fun x hx => by rw [List.mem_singleton.1 hx]; rfl, ⟨rfl, .inr ⟨g, 1, _, rfl, Nat.le_refl _, hg, Nat.le_refl _, by unfold maxLen; omega, rfl, rfl⟩⟩, by simp⟩, fun b hb e => hn (by rw [← show b = g by simpa [Value.ownBlock] using e]; exact hb)⟩
theorem HalfU.put1 {B : Nat} {w : World} {M : List Sf} {g c n k j : Nat} {bs : List Nat} {f f' : Sf} {val : Value} (h : HalfU B w M (.slice (some ⟨g, 0, none⟩) n c) bs) (hn : n = M.length) (hf : M[k]? = some f) (hj : j < 11) (hv : ∀ d, (sfCells f d).set j val = sfCells f' d) (hd : f'.data = f.data) :
  HalfU B (w.setCell ⟨g, k * 11 + j, none⟩ val) (M.set k f') (.slice (some ⟨g, 0, none⟩) n c) bs ∧ w.grownBy (w.setCell ⟨g, k * 11 + j, none⟩ val) (some g) := by
 obtain ⟨xs, bss, hr, hls, how, rfl⟩ := h.ex
 have hB := fun b hb => (own_ltB how b hb).1
 have hU : SlU repSf 89 11 w M g c n xs bss := ⟨hr, hls, by rw [hn]; rw [hn] at how; exact own_rebase how fun _ _ => Nat.zero_le _, hn⟩
 have hk : k < n := by rw [hn]; exact (List.getElem?_eq_some_iff.1 hf).1
 obtain ⟨f0, x, b, hf0, hx, hb, hxl, hR, _⟩ := hU.at_ hk
 obtain rfl : f = f0 := Option.some.inj (hf.symm.trans hf0)
 obtain ⟨d, rfl, hdd⟩ := hR
 have hS := (SetK.zero hU hx).put (List.getElem?_eq_some_iff.1 hx).1 j hj val (hv d)
 have hch := Chg.of_grown hS.gr
 have hng : ∀ q ∈ bss.flatten, q ≠ g := fun q hq e => h.ne q hq (by rw [e]; simp [Value.ownBlock])
 have hU2 := SlU.upd (a' := f') (b' := b) hU hk hS.ow hS.ls ⟨d, rfl, by rw [hd]; exact Rep.chg hdd hch fun q hq e => hng q (flat_mem hb hq) (by simpa using e)⟩ (fun i dd _ hdd2 q hq => hch.block q (rowsR_ex hr q (flat_mem hdd2 hq)) fun e => hng q (flat_mem hdd2 hq) (by simpa using e))
 rw [set_same hb] at hU2
 refine ⟨⟨⟨_, bss, hU2.rr, hU2.ls, ?_, rfl⟩, h.ne⟩, hS.gr⟩
 rw [List.length_set, ← hn]
 exact own_rebase hU2.ow fun b hb => hB b hb
theorem HalfU.put3 {B : Nat} {w : World} {M : List Sf} {g c n k : Nat} {bs bu : List Nat} {f f' : Sf} {p q u : Value} (h : HalfU B w M (.slice (some ⟨g, 0, none⟩) n c) bs) (hn : n = M.length) (hf : M[k]? = some f) (hv : ∀ d, (((sfCells f d).set 8 p).set 9 q).set 10 u = sfCells f' u) (hu : repInts.R w f'.data [u] bu) (hg : g ∉ bu) :
  ∃ bs', HalfU B (((w.setCell ⟨g, k * 11 + 8, none⟩ p).setCell ⟨g, k * 11 + 8 + 1, none⟩ q).setCell ⟨g, k * 11 + 8 + 2, none⟩ u) (M.set k f') (.slice (some ⟨g, 0, none⟩) n c) bs' ∧ w.grownBy (((w.setCell ⟨g, k * 11 + 8, none⟩ p).setCell ⟨g, k * 11 + 8 + 1, none⟩ q).setCell ⟨g, k * 11 + 8 + 2, none⟩ u) (some g) ∧ ∀ b ∈ bs', b ∈ bs ∨ b ∈ bu := by
 obtain ⟨xs, bss, hr, hls, how, rfl⟩ := h.ex
 have hB := fun b hb => (own_ltB how b hb).1
 have hU : SlU repSf 89 11 w M g c n xs bss := ⟨hr, hls, by rw [hn]; rw [hn] at how; exact own_rebase how fun _ _ => Nat.zero_le _, hn⟩
 have hk : k < n := by rw [hn]; exact (List.getElem?_eq_some_iff.1 hf).1
 obtain ⟨f0, x, b, hf0, hx, hb, hxl, hR, _⟩ := hU.at_ hk
 obtain rfl : f = f0 := Option.some.inj (hf.symm.trans hf0)
 obtain ⟨d, rfl, hdd⟩ := hR
 have hkx := (List.getElem?_eq_some_iff.1 hx).1
 have hS := (((SetK.zero hU hx).put hkx 8 (by omega) p rfl).put hkx 9 (by omega) q rfl).put hkx 10 (by omega) u (hv d)
 rw [show k * 11 + 9 = k * 11 + 8 + 1 by omega, show k * 11 + 10 = k * 11 + 8 + 2 by omega] at hS
 have hch := Chg.of_grown hS.gr
 have hng : ∀ q ∈ bss.flatten, q ≠ g := fun q hq e => h.ne q hq (by rw [e]; simp [Value.ownBlock])
 have hU2 := SlU.upd (a' := f') (b' := bu) hU hk hS.ow hS.ls ⟨u, rfl, Rep.chg hu hch fun q hq e => hg (by rw [← show q = g by simpa using e]; exact hq)⟩ (fun i dd _ hdd2 q hq => hch.block q (rowsR_ex hr q (flat_mem hdd2 hq)) fun e => hng q (flat_mem hdd2 hq) (by simpa using e))
 have hmem : ∀ z ∈ (bss.set k bu).flatten, z ∈ bss.flatten ∨ z ∈ bu := fun z hz => by
  obtain ⟨dd, hd, hm⟩ := List.mem_flatten.1 hz
  rcases List.mem_or_eq_of_mem_set hd with hd | rfl
  ·exact .inl (List.mem_flatten.2 ⟨dd, hd, hm⟩)
  ·exact .inr hm
 refine ⟨_, ⟨⟨_, _, hU2.rr, hU2.ls, ?_, rfl⟩, fun z hz e => ?_⟩, hS.gr, hmem⟩
 ·rw [List.length_set, ← hn]
  exact own_rebase hU2.ow fun b hb => hB b hb
 ·have e2 : z = g := by simpa [Value.ownBlock] using e
  rcases hmem z hz with h1 | h1
  ·exact hng z h1 e2
  ·exact hg (e2 ▸ h1)
end Go.Proofs.YtdgagooldlnpeaaGreat
namespace Go.Proofs.YtdgagooldlnpeaaGreat
open Go.RowKit
structure EdB (w : World) (s : Sn) (v : Value) (bs : List Nat) (e : Ed) (d : Value) (W : World) : Prop where
 a : SnA w.heap.size s v bs W
 x : BkAt W (w.heap.size + 1) 97 #[.int .i64 e.kind, .int .i64 e.id, .int .i64 e.a, .int .i64 e.b, .int .i64 e.bw, .int .i64 e.bh, d]
 rd : RdI W d e.data
 r : BkAt W (w.heap.size + 1 + 1) 34 #[.int .i64 0, .int .i64 0, .int .i64 0, .slice none 0 0]
 bw : Below w.heap.size w W
theorem EdB.call {w : World} {s : Sn} {v : Value} {bs : List Nat} {e : Ed} {d : Value} {W W' : World} (h : EdB w s v bs e d W) (hb : Below W.heap.size W W') : EdB w s v bs e d W' := ⟨h.a.call hb, h.x.call hb, h.rd.call hb, h.r.call hb, belI_call h.bw hb⟩
theorem EdB.set {w : World} {s : Sn} {v : Value} {bs : List Nat} {e : Ed} {d : Value} {W W' : World} {row : Option Nat} (h : EdB w s v bs e d W) (ho : (∀ b ∈ bs, b < w.heap.size) ∧ ∀ q, d.ownBlock = some q → q < w.heap.size) (hg : W.grownBy W' row) (hk : ∀ k, row = some k → w.heap.size + 3 ≤ k) : EdB w s v bs e d W' :=
 ⟨⟨h.a.at_.grown hg (fun e => by have := hk _ e.symm; omega), Rep.chg h.a.r (Chg.of_grown hg) fun b hb e => by have := hk b (by simpa using e); have := ho.1 b hb; omega⟩, h.x.grown hg (fun e => by have := hk _ e.symm; omega), h.rd.grown hg (fun q hq e => by have := hk _ e.symm; have := ho.2 q hq; omega), h.r.grown hg (fun e => by have := hk _ e.symm; omega), h.bw.grown hg h.bw.size (fun k e => by have := hk k e; omega)⟩
structure EdW (w : World) (s : Sn) (v : Value) (bs : List Nat) (e : Ed) (d : Value) (bo : Nat) (u : Value) (bu : List Nat) (W : World) : Prop where
 o : EdB w s v bs e d W
 b : BkAt W bo 34 #[.int .i64 s.w, .int .i64 s.h, .int .i64 s.back, u]
 h : HalfU (w.heap.size + 3) W s.fs u bu
structure EdO (w : World) (bs : List Nat) (d : Value) (bo : Nat) (u : Value) (bu : List Nat) : Prop where
 ob : (∀ b ∈ bs, b < w.heap.size) ∧ ∀ q, d.ownBlock = some q → q < w.heap.size
 lo : w.heap.size + 3 ≤ bo
 ub : ∀ q, u.ownBlock = some q → q < bo ∧ w.heap.size + 3 ≤ q
 bb : ∀ b ∈ bu, b < bo ∧ w.heap.size + 3 ≤ b
theorem EdW.call {w : World} {s : Sn} {v : Value} {bs : List Nat} {e : Ed} {d : Value} {bo : Nat} {u : Value} {bu : List Nat} {W W' : World} (h : EdW w s v bs e d bo u bu W) (hb : Below W.heap.size W W') : EdW w s v bs e d bo u bu W' := ⟨h.o.call hb, h.b.call hb, h.h.call hb⟩
theorem EdW.set {w : World} {s : Sn} {v : Value} {bs : List Nat} {e : Ed} {d : Value} {bo : Nat} {u : Value} {bu : List Nat} {W W' : World} {row : Option Nat} (h : EdW w s v bs e d bo u bu W) (ho : EdO w bs d bo u bu) (hg : W.grownBy W' row) (hk : ∀ k, row = some k → bo < k) : EdW w s v bs e d bo u bu W' :=
 ⟨h.o.set ho.ob hg (fun k e => by have := hk k e; have := ho.lo; omega), h.b.grown hg (fun e => by have := hk _ e.symm; omega), h.h.chg (Chg.of_grown hg) (fun q hq e => by have := hk q (by simpa using e); have := (ho.ub q hq).1; omega) (fun b hb e => by have := hk b (by simpa using e); have := (ho.bb b hb).1; omega)⟩
structure EdX (w : World) (s : Sn) (v : Value) (bs : List Nat) (e : Ed) (d : Value) (bo : Nat) (u : Value) (bu : List Nat) (g i : Nat) (f : Sf) (d1 : Value) (b1 : List Nat) (W : World) : Prop where
 o : EdW w s v bs e d bo u bu W
 c : C11 W g (i * 11) f d1
 r : repSf.R W f (sfCells f d1) b1
theorem EdX.call {w : World} {s : Sn} {v : Value} {bs : List Nat} {e : Ed} {d : Value} {bo : Nat} {u : Value} {bu : List Nat} {g i : Nat} {f : Sf} {d1 : Value} {b1 : List Nat} {W W' : World} (h : EdX w s v bs e d bo u bu g i f d1 b1 W) (hb : Below W.heap.size W W') : EdX w s v bs e d bo u bu g i f d1 b1 W' := ⟨h.o.call hb, h.c.call hb, Rep.call h.r hb⟩
theorem C11.kept {W W' : World} {g o : Nat} {f : Sf} {d : Value} (h : C11 W g o f d) (hg : ∀ q, q = g → q < W.heap.size → W'.heap[q]? = W.heap[q]?) : C11 W' g o f d := by
 have hc : ∀ o u, W.cell? ⟨g, o, none⟩ = some u → W'.cell? ⟨g, o, none⟩ = some u := fun o u hu => by
  have hl := World.block_lt_of_cell? W _ hu
  rw [← hu]
  exact World.cell?_of_block (hg g rfl hl)
 exact ⟨hc _ _ h.c0, hc _ _ h.c1, hc _ _ h.c2, hc _ _ h.c3, hc _ _ h.c4, hc _ _ h.c5, hc _ _ h.c6, hc _ _ h.c7, hc _ _ h.c8, hc _ _ h.c9, hc _ _ h.c10⟩
theorem EdX.set {w : World} {s : Sn} {v : Value} {bs : List Nat} {e : Ed} {d : Value} {bo : Nat} {u : Value} {bu : List Nat} {g i : Nat} {f : Sf} {d1 : Value} {b1 : List Nat} {W W' : World} {row : Option Nat} (h : EdX w s v bs e d bo u bu g i f d1 b1 W) (ho : EdO w bs d bo u bu) (hgb : g < bo ∧ ∀ b ∈ b1, b < bo) (hg : W.grownBy W' row) (hk : ∀ k, row = some k → bo < k) : EdX w s v bs e d bo u bu g i f d1 b1 W' :=
 ⟨h.o.set ho hg hk, h.c.kept fun q e hl => hg.block q hl fun e2 => by have := hk q e2.symm; omega, Rep.chg h.r (Chg.of_grown hg) fun b hb e => by have := hk b (by simpa using e); have := hgb.2 b hb; omega⟩
theorem HalfU.at_ {B : Nat} {W : World} {M : List Sf} {A : Option Addr} {n c k : Nat} {bs : List Nat} (h : HalfU B W M (.slice A n c) bs) (hk : k < M.length) : ∃ g f d b, A = some ⟨g, 0, none⟩ ∧ M[k]? = some f ∧ C11 W g (k * 11) f d ∧ repSf.R W f (sfCells f d) b ∧ (∀ q ∈ b, q ∈ bs) := by
 obtain ⟨xs, bss, hr, hls, how, rfl⟩ := h.ex
 have hR : repSfs.R W M [.slice A n c] ((Value.slice A n c).ownBlock.toList ++ bss.flatten) := ⟨_, xs, bss, rfl, hr, hls, own_rebase how fun _ _ => Nat.zero_le _, rfl⟩
 have hL := List.getElem?_eq_getElem hk
 obtain ⟨x, b, hx, hb, hRk⟩ := rowsR_at hr k _ hL
 have hR2 := hRk
 obtain ⟨d, rfl, hd⟩ := hR2
 rcases how.2 with ⟨_, h0⟩ | ⟨g, cap, cur, he, _⟩
 ·omega
 ·injection he with e1 e2 e3
  subst e1 e2 e3
  exact ⟨g, _, d, b, rfl, hL, c11_of fun j z hz => own_cellI how (by rw [flat_at hls k j hx (by have := (List.getElem?_eq_some_iff.1 hz).1; simpa [sfCells] using this)]; exact hz), hRk, fun q hq => flat_mem hb hq⟩
theorem er_ne {L : List Sf} {i kk : Nat} {f : Sf} (h : L[i]? = some f) (hne : i ≠ kk) : (L.take (i + 1)).eraseIdx kk = (L.take i).eraseIdx kk ++ [f] := by
 have hi := (List.getElem?_eq_some_iff.1 h).1
 have hl : (L.take i).length = i := by rw [List.length_take]; omega
 rw [take_snoc h]
 by_cases hk : kk < i
 ·rw [List.eraseIdx_append_of_lt_length (by omega)]
 ·rw [List.eraseIdx_append_of_length_le (by omega), List.eraseIdx_of_length_le (l := L.take i) (by omega), List.eraseIdx_of_length_le (l := [f]) (by simp; omega)]
theorem er_eq {L : List Sf} {kk : Nat} {f : Sf} (h : L[kk]? = some f) : (L.take (kk + 1)).eraseIdx kk = (L.take kk).eraseIdx kk := by
 have hi := (List.getElem?_eq_some_iff.1 h).1
 have hl : (L.take kk).length = kk := by rw [List.length_take]; omega
 rw [take_snoc h, List.eraseIdx_append_of_length_le (by omega), List.eraseIdx_of_length_le (l := L.take kk) (by omega), hl]
 simp
theorem er_len (L : List Sf) (i kk : Nat) : ((L.take i).eraseIdx kk).length ≤ L.length := by
 have h1 := List.length_eraseIdx_le (l := L.take i) (i := kk)
 rw [List.length_take] at h1
 omega
def EdAnsS (s : Sn) (e : Ed) (w : World) (e' : Ending) (w' : World) : Prop := ∃ u bs, e' = .returned (.tuple #[.agg #[.int .i64 (doE s e).1.w, .int .i64 (doE s e).1.h, .int .i64 (doE s e).1.back, u], .bool (doE s e).2]) ∧ repSfs.Own w.heap.size w' (doE s e).1.fs [u] bs ∧ Below w.heap.size w w'
end Go.Proofs.YtdgagooldlnpeaaGreat
namespace Go.Proofs.YtdgagooldlnpeaaGreat
open Go.RowKit
theorem edRet {w W : World} {s T : Sn} {g : Bool} {e : Ed} {a : Act} {u : Value} {bu : List Nat} (hde : doE s e = (T, g)) (hbw : Below w.heap.size w W) (hO : repSfs.Own (w.heap.size + 3) W T.fs [u] bu)
  (hr : (results Tryz.f76 a.tmps).run Tryz.prog ((((W.setCell ⟨w.heap.size + 1 + 1, 0, none⟩ (.int .i64 T.w)).setCell ⟨w.heap.size + 1 + 1, 1, none⟩ (.int .i64 T.h)).setCell ⟨w.heap.size + 1 + 1, 2, none⟩ (.int .i64 T.back)).setCell ⟨w.heap.size + 1 + 1, 3, none⟩ u) = .ok (.tuple #[.agg #[.int .i64 T.w, .int .i64 T.h, .int .i64 T.back, u], .bool g]) ((((W.setCell ⟨w.heap.size + 1 + 1, 0, none⟩ (.int .i64 T.w)).setCell ⟨w.heap.size + 1 + 1, 1, none⟩ (.int .i64 T.h)).setCell ⟨w.heap.size + 1 + 1, 2, none⟩ (.int .i64 T.back)).setCell ⟨w.heap.size + 1 + 1, 3, none⟩ u)) (hdf : a.defers = [] := by rfl) :
  bodyPost Tryz.prog Tryz.f76 (EdAnsS s e w) .ret a ((((W.setCell ⟨w.heap.size + 1 + 1, 0, none⟩ (.int .i64 T.w)).setCell ⟨w.heap.size + 1 + 1, 1, none⟩ (.int .i64 T.h)).setCell ⟨w.heap.size + 1 + 1, 2, none⟩ (.int .i64 T.back)).setCell ⟨w.heap.size + 1 + 1, 3, none⟩ u) := by
 have hCh := (((Chg.setB W (w.heap.size + 1 + 1) 0 (.int .i64 T.w) [w.heap.size + 1 + 1] (by simp)).trans (Chg.setB _ (w.heap.size + 1 + 1) 1 (.int .i64 T.h) _ (by simp))).trans (Chg.setB _ (w.heap.size + 1 + 1) 2 (.int .i64 T.back) _ (by simp))).trans (Chg.setB _ (w.heap.size + 1 + 1) 3 u _ (by simp))
 refine bodyPost_ret hr hdf ?_
 unfold EdAnsS
 rw [hde]
 exact ⟨u, bu, rfl, (Rep.Own.chg hO hCh (fun b hb e => by have h1 := hO.lo b hb; have h2 : b = w.heap.size + 1 + 1 := (by simpa using e); omega)).mono (by omega), hCh.below hbw hbw.size (fun b hb => by have : b = w.heap.size + 1 + 1 := (by simpa using hb); omega)⟩
theorem sf_form {W : World} {f : Sf} {d : Value} {b : List Nat} (h : repSf.R W f (sfCells f d) b) : ∃ A c, d = .slice A f.data.length c := by
 obtain ⟨d', e1, hd⟩ := h
 obtain rfl : d = d' := by simpa [sfCells] using e1
 exact (repInts_rd hd).form
def rsL (q : Int) (L : List Sf) (i : Nat) : List Sf := if q < 0 then [] else (L.take i).eraseIdx q.toNat
theorem rs_zero (q : Int) (L : List Sf) : rsL q L 0 = [] := by unfold rsL; split <;> simp
theorem rs_neg {q : Int} (h : q < 0) (L : List Sf) (i j : Nat) : rsL q L i = rsL q L j := by unfold rsL; rw [if_pos h, if_pos h]
theorem rs_ne {q : Int} {L : List Sf} {i : Nat} {f : Sf} (h0 : 0 ≤ q) (h : L[i]? = some f) (hne : (i : Int) ≠ q) : rsL q L (i + 1) = rsL q L i ++ [f] := by
 unfold rsL; rw [if_neg (by omega), if_neg (by omega)]; exact er_ne h (by omega)
theorem rs_eq {q : Int} {L : List Sf} {i : Nat} {f : Sf} (h : L[i]? = some f) (he : (i : Int) = q) : rsL q L (i + 1) = rsL q L i := by
 unfold rsL; rw [if_neg (by omega), if_neg (by omega), ← he, Int.toNat_natCast]; exact er_eq h
theorem rsl_len (q : Int) (L : List Sf) (i : Nat) : (rsL q L i).length ≤ L.length := by
 unfold rsL; split
 ·exact Nat.zero_le _
 ·exact er_len L i _
theorem rs_all {q : Int} (h : 0 ≤ q) (L : List Sf) : rsL q L L.length = L.eraseIdx q.toNat := by unfold rsL; rw [if_neg (by omega), List.take_length]
theorem ed_fin {w V : World} {s : Sn} {v d : Value} {bs : List Nat} {e : Ed} {bo : Nat} {x y z : Int} {u u5 : Value} {b5 : List Nat} {M : List Sf} (ho : (∀ b ∈ bs, b < w.heap.size) ∧ ∀ q, d.ownBlock = some q → q < w.heap.size) (hB : EdB w s v bs e d V) (hb : BkAt V bo 34 #[.int .i64 x, .int .i64 y, .int .i64 z, u]) (hH : HalfU (w.heap.size + 3) V M u5 b5) (hlo : w.heap.size + 3 ≤ bo) (h1 : ∀ p, u5.ownBlock = some p → p ≠ bo) (h2 : ∀ q ∈ b5, q ≠ bo) :
  EdB w s v bs e d (V.setCell ⟨bo, 3, none⟩ u5) ∧ BkAt (V.setCell ⟨bo, 3, none⟩ u5) bo 34 #[.int .i64 x, .int .i64 y, .int .i64 z, u5] ∧ HalfU (w.heap.size + 3) (V.setCell ⟨bo, 3, none⟩ u5) M u5 b5 :=
 ⟨hB.set ho (grown_setB _ bo 3 _) (fun k hk => by have := Option.some.inj hk; omega), hb.put 3 _ rfl, hH.chg (Chg.of_grown (grown_setB _ bo 3 _)) (fun p hp e => h1 p hp (by simpa using e)) (fun q hq e => h2 q hq (by simpa using e))⟩
theorem HalfU.frozen {B : Nat} {W : World} {M : List Sf} {g n c : Nat} {bs : List Nat} (h : HalfU B W M (.slice (some ⟨g, 0, none⟩) n c) bs) (j : Nat) : W.frozen? ⟨g, j, none⟩ = false := by
 obtain ⟨A, c', e⟩ := h.form
 injection e with e1 e2 e3
 subst e2
 obtain ⟨xs, bss, hr, hls, how, _⟩ := h.ex
 exact how.frozenAt j
theorem HalfU.im3 {B : Nat} {W : World} {M : List Sf} {g n c k : Nat} {bs : List Nat} (h : HalfU B W M (.slice (some ⟨g, 0, none⟩) n c) bs) (hk : k < M.length) : ∃ f d, M[k]? = some f ∧ W.cell? ⟨g, k * 11 + 8, none⟩ = some (.int .i64 f.bw) ∧ W.cell? ⟨g, k * 11 + 8 + 1, none⟩ = some (.int .i64 f.bh) ∧ W.cell? ⟨g, k * 11 + 8 + 2, none⟩ = some d := by
 obtain ⟨g', f, d, b, hA, hf, hC, _, _⟩ := h.at_ hk
 injection hA with hA
 injection hA with hA
 subst hA
 exact ⟨f, d, hf, hC.c8, hC.c9, hC.c10⟩
theorem ed_put1 {w V : World} {s : Sn} {v d : Value} {bs bu : List Nat} {e : Ed} {bo g n c k j : Nat} {cs : Array Value} {M : List Sf} {f f' : Sf} {val : Value} (ho : (∀ b ∈ bs, b < w.heap.size) ∧ ∀ q, d.ownBlock = some q → q < w.heap.size) (hB : EdB w s v bs e d V) (hb : BkAt V bo 34 cs) (hH : HalfU (w.heap.size + 3) V M (.slice (some ⟨g, 0, none⟩) n c) bu) (hn : n = M.length) (hf : M[k]? = some f) (hj : j < 11) (hv : ∀ d, (sfCells f d).set j val = sfCells f' d) (hd : f'.data = f.data) (hg : w.heap.size + 3 ≤ g) (hbg : bo ≠ g) :
  EdB w s v bs e d (V.setCell ⟨g, k * 11 + j, none⟩ val) ∧ BkAt (V.setCell ⟨g, k * 11 + j, none⟩ val) bo 34 cs ∧ HalfU (w.heap.size + 3) (V.setCell ⟨g, k * 11 + j, none⟩ val) (M.set k f') (.slice (some ⟨g, 0, none⟩) n c) bu := by
 obtain ⟨h1, h2⟩ := hH.put1 hn hf hj hv hd
 exact ⟨hB.set ho h2 (fun q hq => by have := Option.some.inj hq; omega), hb.grown h2 (fun e => hbg (Option.some.inj e)), h1⟩
structure EdY (w : World) (s : Sn) (v : Value) (bs : List Nat) (e : Ed) (d : Value) (br : Nat) (v2 : Value) (g i : Nat) (f : Sf) (d1 : Value) (b1 : List Nat) (W : World) : Prop where
 o : EdB w s v bs e d W
 r : BkAt W br 34 #[.int .i64 0, .int .i64 0, .int .i64 0, v2]
 c : C11 W g (i * 11) f d1
 rf : repSf.R W f (sfCells f d1) b1
theorem EdY.call {w : World} {s : Sn} {v : Value} {bs : List Nat} {e : Ed} {d : Value} {br : Nat} {v2 : Value} {g i : Nat} {f : Sf} {d1 : Value} {b1 : List Nat} {W W' : World} (h : EdY w s v bs e d br v2 g i f d1 b1 W) (hb : Below W.heap.size W W') : EdY w s v bs e d br v2 g i f d1 b1 W' := ⟨h.o.call hb, h.r.call hb, h.c.call hb, Rep.call h.rf hb⟩
theorem EdY.set {w : World} {s : Sn} {v : Value} {bs : List Nat} {e : Ed} {d : Value} {br : Nat} {v2 : Value} {g i : Nat} {f : Sf} {d1 : Value} {b1 : List Nat} {W W' : World} {row : Option Nat} (h : EdY w s v bs e d br v2 g i f d1 b1 W) (ho : (∀ b ∈ bs, b < w.heap.size) ∧ ∀ q, d.ownBlock = some q → q < w.heap.size) (hg : W.grownBy W' row) (hk : ∀ k, row = some k → w.heap.size + 3 ≤ k ∧ k ≠ br ∧ k ≠ g ∧ k ∉ b1) : EdY w s v bs e d br v2 g i f d1 b1 W' :=
 ⟨h.o.set ho hg (fun k e => (hk k e).1), h.r.grown hg (fun e => (hk _ e.symm).2.1 rfl), h.c.kept fun q e hl => hg.block q hl fun e2 => (hk q e2.symm).2.2.1 e, Rep.chg h.rf (Chg.of_grown hg) fun b hb e => (hk b (by simpa using e)).2.2.2 hb⟩
theorem edNew_rep {W : World} {e : Ed} {A : Option Addr} {c B : Nat} (h : W.ownsRow B 3 1 (.slice A e.data.length c) e.data.length (intCells e.data)) : repInts.R W e.data [.slice A e.data.length c] (Value.slice A e.data.length c).ownBlock.toList := ⟨_, rfl, own_rebase h (fun _ _ => Nat.zero_le _), rfl⟩
end Go.Proofs.YtdgagooldlnpeaaGreat
namespace Go.Proofs.YtdgagooldlnpeaaGreat
open Go.RowKit
theorem pnPx_ok {W : Nat} {f : Sf} {k : Nat} (h : hasB (sfRect f) (k % W : Nat) (k / W : Nat) = true) : pixOk (pnPx W f.x f.y (sfPic f) k) := by
 obtain ⟨ho, hx, hy, _⟩ := has_pic h
 have him := (sfPic_ok ho).2.2
 obtain ⟨_, _, p0, p1, _⟩ := px_place him hx hy
 unfold pnPx
 generalize hj : ((((k / W : Nat) : Int) - f.y) * (sfPic f).w + (((k % W : Nat) : Int) - f.x)).toNat = j
 have hl : j < (sfPic f).d.length := by omega
 have e := List.getElem?_eq_getElem hl
 rw [List.getD_eq_getElem?_getD, e]
 exact him.2.2 j _ e
theorem over_pix {p q : Int} (hp : pixOk p) (hq : pixOk q) : pixOk (over p q) := by unfold over; rw [if_pos ⟨hp, hq⟩]; exact overK_ok hp q
def allPix (D : List Int) : Prop := ∀ (k : Nat) (x : Int), D[k]? = some x → pixOk x
end Go.Proofs.YtdgagooldlnpeaaGreat
namespace Go.Proofs.YtdgagooldlnpeaaGreat
open Go.RowKit
theorem over_hides {p q : Int} (hp : opq p) (hq : pixOk q) : over p q = p := by
 have hpx := hp.1
 have h255 := hp.2
 have h1 : p = pack4 255 (p / 65536 % 256) (p / 256 % 256) (p % 256) := by unfold pixOk at hpx; unfold pack4; omega
 rw [h1]
 exact over_op (by unfold chOk; omega) (by unfold chOk; omega) (by unfold chOk; omega) hq
noncomputable def ptA (W : Nat) (k : Nat) (f : Sf) (a : Int) : Int := if hasB (sfRect f) (k % W : Nat) (k / W : Nat) = true then over (pnPx W f.x f.y (sfPic f) k) a else a
theorem ptA_ok {W k : Nat} {f : Sf} {a : Int} (h : pixOk a) : pixOk (ptA W k f a) := by
 unfold ptA
 split
 ·rename_i hb; exact over_pix (pnPx_ok hb) h
 ·exact h
def cvr (W k : Nat) (fs : List Sf) : Prop := ∃ f ∈ fs, sfOpq f = true ∧ hasB (sfRect f) (k % W : Nat) (k / W : Nat) = true
theorem ptA_opq {W k : Nat} {f : Sf} {a : Int} (ho : sfOpq f = true) (hb : hasB (sfRect f) (k % W : Nat) (k / W : Nat) = true) (h : pixOk a) : ptA W k f a = pnPx W f.x f.y (sfPic f) k := by
 unfold ptA
 rw [if_pos hb]
 refine over_hides ?_ h
 have hs : sfOk f ∧ allOpq (sfPic f).d := by
  by_cases hc : sfOk f ∧ allOpq (sfPic f).d
  ·exact hc
  ·rw [sfOpq_no hc] at ho; cases ho
 obtain ⟨_, hx, hy, _⟩ := has_pic hb
 have him := (sfPic_ok hs.1).2.2
 obtain ⟨_, _, p0, p1, _⟩ := px_place him hx hy
 unfold pnPx
 generalize hj : ((((k / W : Nat) : Int) - f.y) * (sfPic f).w + (((k % W : Nat) : Int) - f.x)).toNat = j
 have hl : j < (sfPic f).d.length := by omega
 have e := List.getElem?_eq_getElem hl
 rw [List.getD_eq_getElem?_getD, e]
 show opq ((sfPic f).d[j])
 exact ⟨him.2.2 j _ e, by rw [← chan_0 (him.2.2 j _ e)]; exact hs.2 j _ e⟩
theorem fold_cvr {W k : Nat} {fs : List Sf} (h : cvr W k fs) {a b : Int} (ha : pixOk a) (hb : pixOk b) : fs.foldl (fun x f => ptA W k f x) a = fs.foldl (fun x f => ptA W k f x) b := by
  induction fs generalizing a b with
  | nil => obtain ⟨f, hf, _⟩ := h; cases hf
  | cons g r ih =>
    rw [List.foldl_cons, List.foldl_cons]
    by_cases hr : cvr W k r
    · exact ih hr (ptA_ok ha) (ptA_ok hb)
    · obtain ⟨f, hf, ho, hh⟩ := h
      rcases List.mem_cons.1 hf with rfl | hf
      · rw [ptA_opq ho hh ha, ptA_opq ho hh hb]
      · exact absurd ⟨f, hf, ho, hh⟩ hr
theorem getD_ok {D : List Int} (hD : allPix D) {k : Nat} (hk : k < D.length) : pixOk (D.getD k 0) := by
 have e := List.getElem?_eq_getElem hk
 rw [List.getD_eq_getElem?_getD, e]
 exact hD k _ e
theorem pn1_at {W : Nat} {D : List Int} {f : Sf} {k : Nat} (hk : k < D.length) : (pn1 W D f).getD k 0 = ptA W k f (D.getD k 0) := by
 unfold pn1
 rw [tabI_getD _ _ _ hk]
 rfl
theorem pnL_at {W : Nat} (fs : List Sf) {D : List Int} {k : Nat} (hk : k < D.length) : (pnL W D fs).getD k 0 = fs.foldl (fun x f => ptA W k f x) (D.getD k 0) := by
 unfold pnL
 induction fs generalizing D with
 | nil => rfl
 | cons f r ih => rw [List.foldl_cons, List.foldl_cons, ih (by rw [pn1_len]; exact hk), pn1_at hk]
theorem ocV_iff {W H : Nat} (wl : 1 ≤ W ∧ W ≤ 16) (hl : 1 ≤ H ∧ H ≤ 16) (f : Sf) (r : List Sf) {k : Nat} (hk : k < W * H) : gridOf (ocV W H f r) (k / W * 16 + k % W) = true ↔ (hasB (sfRect f) (k % W : Nat) (k / W : Nat) = true ∧ ¬ cvr W k r) := by
 have h1 := plc_row hk
 have h2 := Nat.mod_lt k (plc_pos hk)
 rw [ocV_in wl hl f r (k % W) (k / W) (by omega) (by omega)]
 constructor
 ·rintro ⟨⟨a, _, _⟩, b⟩
  exact ⟨a, fun ⟨f, hf, ho, hh⟩ => b ⟨f, hf, ho, hh, h2, h1⟩⟩
 ·rintro ⟨a, b⟩
  exact ⟨⟨a, h2, h1⟩, fun ⟨f, hf, ho, hh, _⟩ => b ⟨f, hf, ho, hh⟩⟩
theorem list_getD {A B : List Int} (hl : A.length = B.length) (h : ∀ k, k < A.length → A.getD k 0 = B.getD k 0) : A = B := by
 refine List.ext_getElem hl fun k h1 h2 => ?_
 have := h k h1
 rwa [List.getD_eq_getElem?_getD, List.getD_eq_getElem?_getD, List.getElem?_eq_getElem h1, List.getElem?_eq_getElem h2] at this
end Go.Proofs.YtdgagooldlnpeaaGreat
