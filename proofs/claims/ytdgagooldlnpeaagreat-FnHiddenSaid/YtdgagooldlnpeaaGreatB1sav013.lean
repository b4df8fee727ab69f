/- Texts of mine in one file: PlH. No statement is proved here. -/
import Derived.Test.YtdgagooldlnpeaaGreatMA
import Derived.Test.YtdgagooldlnpeaaGreatMC
import Derived.Test.YtdgagooldlnpeaaGreatMAv013
import Derived.Test.YtdgagooldlnpeaaGreatCombIv013
import Derived.Test.YtdgagooldlnpeaaGreatB1nav013
import Derived.Test.YtdgagooldlnpeaaGreatMB
import Derived.Test.YtdgagooldlnpeaaGreatSnS
import Derived.Test.YtdgagooldlnpeaaGreatProg
import Derived.WalkKit
import Derived.ProofKit
import Derived.OpenShut
import Derived.WalkLawsBesides
import Derived.WalkSpells
import Derived.ShutString
import Derived.ChangeOld
import Derived.Below
import Derived.Lib.Hide
import Derived.BigQuiet
import Derived.Deep.QuietTactic
import Derived.Maps.AppendAt
import Derived.Deep.OwnRows
import Derived.Handy
import Derived.Deep.Draws
import Derived.OwnWalk
import Derived.Deep.AppendLies
import Derived.Deep.LoopGhost
import Derived.Deep.Onto
import Derived.Deep.MidRow
import Derived.Deep.WholeRow
import Derived.Laws.BitsAllLaws
import Derived.Lib.QuoteBits
import Derived.Deep.RegionHeld3
import Derived.Deep.DeepCutAuto
import Derived.Test.YtdgagooldlnpeaaGreatShelf
import Derived.Laws.CopyOwn
import Derived.Deep.RegionLaw
import Derived.Great.BuildSlice
import Derived.Shelf.RegionOpenPlain
import Derived.Lib.SliceRun
import Derived.Deep.RegionWith
import Derived.Laws.AppendOwn
namespace Go.Proofs.YtdgagooldlnpeaaGreat
open Go.RowKit
abbrev Pl := Sf × List Rc
def repPl : Rep Pl where
 R := fun w p vs bs => ∃ u d b2, vs = u :: sfCells p.1 d ∧ w.ownsRow 0 113 4 u p.2.length (rcsCells p.2) ∧ repInts.R w p.1.data [d] b2 ∧ bs = u.ownBlock.toList ++ b2
 ex := by
  rintro w p vs bs ⟨u, d, b2, rfl, h, h2, rfl⟩ b hb
  rcases List.mem_append.1 hb with hb | hb
  ·exact (own_ltB h b hb).2
  ·exact repInts.ex h2 b hb
 keep := by
  rintro w w' p vs bs ⟨u, d, b2, rfl, h, h2, rfl⟩ hk
  exact ⟨u, d, b2, rfl, own_keepB h fun b hb => hk b (List.mem_append.2 (.inl hb)), repInts.keep h2 fun b hb => hk b (List.mem_append.2 (.inr hb)), rfl⟩
def repPls : Rep (List Pl) := repSl repPl 137 12
theorem repPls_form {w : World} {v : Value} {L : List Pl} {bs : List Nat} (h : repPls.R w L [v] bs) : (∃ A c, v = .slice A L.length c) ∧ L.length ≤ maxLen := by
 obtain ⟨v', xs, bss, e, hr, hs, ho, _⟩ := h
 obtain rfl : v = v' := by simpa using e
 rcases ho.2 with ⟨rfl, h0⟩ | ⟨g, cap, cur, rfl, _, _, hn, hc, _⟩
 ·exact ⟨⟨none, 0, by rw [h0]⟩, by rw [h0]; exact Nat.zero_le _⟩
 ·exact ⟨⟨_, _, rfl⟩, by omega⟩
theorem rowsPl_one {w : World} : ∀ {L : List Pl} {xs : List (List Value)} {bss : List (List Nat)}, rowsR repPl w L xs bss → ∀ u ∈ xs.flatten, u.oneCell' = true
  | [], [], [], _, u, hu => by simp at hu
  | f :: L, x :: xs, b :: bss, h, u, hu => by
    rw [List.flatten_cons, List.mem_append] at hu
    rcases hu with hu | hu
    · obtain ⟨r, d, b2, rfl, ho, hd, _⟩ := h.1
      obtain ⟨⟨A, c, rfl⟩, _⟩ := ints_form hd
      obtain ⟨A2, c2, rfl⟩ := own_shape ho
      simp only [sfCells, List.mem_cons, List.not_mem_nil, or_false] at hu
      rcases hu with rfl | rfl | rfl | rfl | rfl | rfl | rfl | rfl | rfl | rfl | rfl | rfl <;> rfl
    · exact rowsPl_one h.2 u hu
theorem info2_pl : ∃ i0, Tryz.prog.info? 137 = some i0 ∧ i0.zero = some (.agg #[.slice none 0 0, .int .i64 0, .int .i64 0, .int .i64 0, .int .i64 0, .int .i64 0, .int .i64 0, .int .i64 0, .bool false, .int .i64 0, .int .i64 0, .slice none 0 0]) ∧ i0.size = 12 ∧ i0.bytes ≤ 1000 := by
  have h : (Tryz.prog.info? 137).map (fun i => (i.zero, i.size, decide (i.bytes ≤ 1000))) = some (some (.agg #[.slice none 0 0, .int .i64 0, .int .i64 0, .int .i64 0, .int .i64 0, .int .i64 0, .int .i64 0, .int .i64 0, .bool false, .int .i64 0, .int .i64 0, .slice none 0 0]), 12, true) := by kernel_rfl
  cases e : Tryz.prog.info? 137 with
  | none => rw [e] at h; simp at h
  | some i =>
    rw [e] at h
    simp only [Option.map_some, Option.some.injEq, Prod.mk.injEq, decide_eq_true_eq] at h
    exact ⟨i, rfl, h.1, h.2.1, h.2.2⟩
structure C12 (w : World) (g o : Nat) (f : Sf) (u d : Value) : Prop where
 c0 : w.cell? ⟨g, o, none⟩ = some u
 c1 : w.cell? ⟨g, o + 1, none⟩ = some (.int .i64 f.id)
 c2 : w.cell? ⟨g, o + 2, none⟩ = some (.int .i64 f.x)
 c3 : w.cell? ⟨g, o + 3, none⟩ = some (.int .i64 f.y)
 c4 : w.cell? ⟨g, o + 4, none⟩ = some (.int .i64 f.w)
 c5 : w.cell? ⟨g, o + 5, none⟩ = some (.int .i64 f.h)
 c6 : w.cell? ⟨g, o + 6, none⟩ = some (.int .i64 f.alpha)
 c7 : w.cell? ⟨g, o + 7, none⟩ = some (.int .i64 f.orient)
 c8 : w.cell? ⟨g, o + 8, none⟩ = some (.bool f.vis)
 c9 : w.cell? ⟨g, o + 9, none⟩ = some (.int .i64 f.bw)
 c10 : w.cell? ⟨g, o + 10, none⟩ = some (.int .i64 f.bh)
 c11 : w.cell? ⟨g, o + 11, none⟩ = some d
theorem c12_of {w : World} {g o : Nat} {f : Sf} {u d : Value} (h : ∀ j x, (u :: sfCells f d)[j]? = some x → w.cell? ⟨g, o + j, none⟩ = some x) : C12 w g o f u d :=
 ⟨h 0 _ rfl, h 1 _ rfl, h 2 _ rfl, h 3 _ rfl, h 4 _ rfl, h 5 _ rfl, h 6 _ rfl, h 7 _ rfl, h 8 _ rfl, h 9 _ rfl, h 10 _ rfl, h 11 _ rfl⟩
theorem C12.lt {w : World} {g o : Nat} {f : Sf} {u d : Value} (h : C12 w g o f u d) : g < w.heap.size := World.block_lt_of_cell? w _ h.c0
theorem C12.kept {w w' : World} {g o : Nat} {f : Sf} {u d : Value} (h : C12 w g o f u d) (e : w'.heap[g]? = w.heap[g]?) : C12 w' g o f u d :=
 ⟨(World.cell?_of_block e).trans h.c0, (World.cell?_of_block e).trans h.c1, (World.cell?_of_block e).trans h.c2, (World.cell?_of_block e).trans h.c3, (World.cell?_of_block e).trans h.c4, (World.cell?_of_block e).trans h.c5, (World.cell?_of_block e).trans h.c6, (World.cell?_of_block e).trans h.c7, (World.cell?_of_block e).trans h.c8, (World.cell?_of_block e).trans h.c9, (World.cell?_of_block e).trans h.c10, (World.cell?_of_block e).trans h.c11⟩
theorem C12.call {w w' : World} {g o : Nat} {f : Sf} {u d : Value} (h : C12 w g o f u d) (hb : Below w.heap.size w w') : C12 w' g o f u d := h.kept (hb.block g h.lt)
structure PlE (w : World) (p : Pl) (u d : Value) : Prop where
 r : w.ownsRow 0 113 4 u p.2.length (rcsCells p.2)
 d : RdI w d p.1.data
theorem PlE.call {w w' : World} {p : Pl} {u d : Value} (h : PlE w p u d) (hb : Below w.heap.size w w') : PlE w' p u d := ⟨own_call2 h.r hb, h.d.call hb⟩
def RdP (w : World) (v : Value) (M : List Pl) : Prop :=
 M.length ≤ maxLen ∧ ∃ A c, v = .slice A M.length c ∧ ∀ k p, M[k]? = some p → ∃ g o u d, A = some ⟨g, o, none⟩ ∧ C12 w g (o + k * 12) p.1 u d ∧ PlE w p u d
theorem RdP.form {w : World} {v : Value} {M : List Pl} (h : RdP w v M) : ∃ A c, v = .slice A M.length c := by
 obtain ⟨_, A, c, rfl, _⟩ := h; exact ⟨A, c, rfl⟩
theorem RdP.call {w w' : World} {v : Value} {M : List Pl} (h : RdP w v M) (hb : Below w.heap.size w w') : RdP w' v M := by
 obtain ⟨hm, A, c, rfl, hp⟩ := h
 refine ⟨hm, A, c, rfl, fun k p hk => ?_⟩
 obtain ⟨g, o, u, d, e, h1, h2⟩ := hp k p hk
 exact ⟨g, o, u, d, e, h1.call hb, h2.call hb⟩
theorem RdP.at_ {w : World} {A : Option Addr} {n c k : Nat} {M : List Pl} (h : RdP w (.slice A n c) M) (hk : k < M.length) : ∃ g o p u d, A = some ⟨g, o, none⟩ ∧ M[k]? = some p ∧ C12 w g (o + k * 12) p.1 u d ∧ PlE w p u d := by
 obtain ⟨_, A', c', he, hp⟩ := h
 injection he with e1 e2 e3
 subst e1
 obtain ⟨g, o, u, d, e, h1, h2⟩ := hp k _ (List.getElem?_eq_getElem hk)
 exact ⟨g, o, _, u, d, e, List.getElem?_eq_getElem hk, h1, h2⟩
theorem RdP.nil (w : World) (A : Option Addr) (c : Nat) : RdP w (.slice A 0 c) [] := ⟨Nat.zero_le _, A, c, rfl, fun k p hk => by simp at hk⟩
structure HalfP (B : Nat) (w : World) (M : List Pl) (v : Value) (bs : List Nat) : Prop where
 ex : ∃ xs bss, rowsR repPl w M xs bss ∧ (∀ x ∈ xs, x.length = 12) ∧ w.ownsRow B 137 12 v M.length xs.flatten ∧ bs = bss.flatten
 ne : ∀ b ∈ bs, b ∉ v.ownBlock.toList
theorem HalfP.of_own {B : Nat} {w : World} {M : List Pl} {v : Value} {bs : List Nat} (h : repPls.Own B w M [v] bs) : ∃ bs', HalfP B w M v bs' ∧ (∀ b ∈ bs', B ≤ b) := by
 obtain ⟨v', xs, bss, e, hr, hls, how, rfl⟩ := h.r
 obtain rfl : v = v' := by simpa using e
 have hnd := h.nd
 rw [List.nodup_append] at hnd
 exact ⟨bss.flatten, ⟨⟨xs, bss, hr, hls, own_rebase how fun b hb => h.lo b (List.mem_append.2 (.inl hb)), rfl⟩, fun b hb e => hnd.2.2 b e b hb rfl⟩, fun b hb => h.lo b (List.mem_append.2 (.inr hb))⟩
theorem HalfP.r {B : Nat} {w : World} {M : List Pl} {v : Value} {bs : List Nat} (h : HalfP B w M v bs) : repPls.R w M [v] (v.ownBlock.toList ++ bs) := by
 obtain ⟨xs, bss, hr, hls, how, rfl⟩ := h.ex
 exact ⟨v, xs, bss, rfl, hr, hls, own_rebase how fun _ _ => Nat.zero_le _, rfl⟩
theorem HalfP.lo {B : Nat} {w : World} {M : List Pl} {v : Value} {bs : List Nat} (h : HalfP B w M v bs) : ∀ q, v.ownBlock = some q → B ≤ q := fun q hq => by
 obtain ⟨xs, bss, hr, hls, how, rfl⟩ := h.ex
 exact (own_ltB how q (by rw [hq]; simp)).1
theorem HalfP.form {B : Nat} {w : World} {M : List Pl} {v : Value} {bs : List Nat} (h : HalfP B w M v bs) : ∃ A c, v = .slice A M.length c := (repPls_form h.r).1
theorem HalfP.chg {B : Nat} {w w' : World} {M : List Pl} {v : Value} {bs cs : List Nat} (h : HalfP B w M v bs) (hc : Chg w w' cs) (h1 : ∀ q, v.ownBlock = some q → q ∉ cs) (h2 : ∀ b ∈ bs, b ∉ cs) : HalfP B w' M v bs := by
 obtain ⟨xs, bss, hr, hls, how, rfl⟩ := h.ex
 exact ⟨⟨xs, bss, rowsR_keep hr fun b hb => hc.block b (rowsR_ex hr b hb) (h2 b hb), hls, own_chgN how hc fun b hb => h1 b (by simpa using hb), rfl⟩, h.ne⟩
theorem HalfP.call {B : Nat} {w w' : World} {M : List Pl} {v : Value} {bs : List Nat} (h : HalfP B w M v bs) (hb : Below w.heap.size w w') : HalfP B w' M v bs := h.chg (Chg.of_below [] hb) (fun _ _ => by simp) (fun _ _ => by simp)
theorem HalfP.nil (B : Nat) (w : World) : HalfP B w [] (.slice none 0 0) [] := ⟨⟨[], [], trivial, by simp, ⟨rfl, .inl ⟨rfl, rfl⟩⟩, rfl⟩, by simp⟩
theorem HalfP.lt {B : Nat} {w : World} {M : List Pl} {v : Value} {bs : List Nat} (h : HalfP B w M v bs) : ∀ b ∈ bs, b < w.heap.size := fun b hb => repPls.ex h.r b (List.mem_append.2 (.inr hb))
theorem HalfP.mono {B B' : Nat} {w : World} {M : List Pl} {v : Value} {bs : List Nat} (h : HalfP B w M v bs) (hB : B' ≤ B) : HalfP B' w M v bs := by
 obtain ⟨xs, bss, hr, hls, how, e⟩ := h.ex
 exact ⟨⟨xs, bss, hr, hls, how.mono hB, e⟩, h.ne⟩
theorem HalfP.at_ {B : Nat} {w : World} {M : List Pl} {A : Option Addr} {n c k : Nat} {bs : List Nat} (h : HalfP B w M (.slice A n c) bs) (hk : k < M.length) : ∃ g p u d, A = some ⟨g, 0, none⟩ ∧ M[k]? = some p ∧ C12 w g (k * 12) p.1 u d ∧ PlE w p u d ∧ (∀ q, u.ownBlock = some q → q ≠ g) ∧ (∀ q, d.ownBlock = some q → q ≠ g) := by
 obtain ⟨xs, bss, hr, hls, how, rfl⟩ := h.ex
 have hkf : M[k]? = some (M[k]'hk) := List.getElem?_eq_getElem hk
 obtain ⟨x, b, hx, hb, hR⟩ := rowsR_at hr k _ hkf
 obtain ⟨u, d, b2, rfl, ho, hd, rfl⟩ := hR
 have hne := h.ne
 rcases how.2 with ⟨he, h0⟩ | ⟨g, cap, cur, he, _⟩
 ·omega
 ·injection he with e1 e2 e3
  subst e1 e2 e3
  refine ⟨g, M[k], u, d, rfl, hkf, c12_of fun j y hy => ?_, ⟨ho, repInts_rd hd⟩, fun q hq e => ?_, fun q hq e => ?_⟩
  ·have hj : j < 12 := (List.getElem?_eq_some_iff.1 hy).1
   exact own_cellI how (by rw [flat_at hls k j hx hj]; exact hy)
  ·exact hne q (flat_mem hb (List.mem_append.2 (.inl (by rw [hq]; simp)))) (by rw [e]; simp [Value.ownBlock])
  ·obtain ⟨v', e2, _, rfl⟩ := hd
   obtain rfl : d = v' := by simpa using e2
   exact hne q (flat_mem hb (List.mem_append.2 (.inr (by rw [hq]; simp)))) (by rw [e]; simp [Value.ownBlock])
theorem HalfP.drop {B : Nat} {w : World} {M : List Pl} {g n c : Nat} {bs : List Nat} (h : HalfP B w M (.slice (some ⟨g, 0, none⟩) n c) bs) (j m c' : Nat) (hm : m = (M.drop j).length) : RdP w (.slice (some ⟨g, j * 12, none⟩) m c') (M.drop j) := by
 have hl := (repPls_form h.r).2
 refine ⟨by rw [List.length_drop]; omega, _, c', by rw [hm], fun k p hk => ?_⟩
 rw [List.getElem?_drop] at hk
 obtain ⟨g', p', u, d, e, h1, h2, h3, _⟩ := h.at_ (List.getElem?_eq_some_iff.1 hk).1
 obtain rfl : p' = p := Option.some.inj (h1.symm.trans hk)
 injection e with e
 injection e with e _ _
 subst e
 exact ⟨g, j * 12, u, d, rfl, by rw [← Nat.add_mul]; exact h2, h3⟩
theorem HalfP.put0 {B : Nat} {w : World} {M : List Pl} {g c n k : Nat} {bs : List Nat} {f : Sf} {L L' : List Rc} {u : Value} (h : HalfP B w M (.slice (some ⟨g, 0, none⟩) n c) bs) (hn : n = M.length) (hf : M[k]? = some (f, L)) (hu : w.ownsRow 0 113 4 u L'.length (rcsCells L')) (hg : g ∉ u.ownBlock.toList) :
  ∃ bs', HalfP B (w.setCell ⟨g, k * 12 + 0, none⟩ u) (M.set k (f, L')) (.slice (some ⟨g, 0, none⟩) n c) bs' ∧ w.grownBy (w.setCell ⟨g, k * 12 + 0, none⟩ u) (some g) ∧ ∀ b ∈ bs', b ∈ bs ∨ b ∈ u.ownBlock.toList := by
 obtain ⟨xs, bss, hr, hls, how, rfl⟩ := h.ex
 have hB := fun b hb => (own_ltB how b hb).1
 have hU : SlU repPl 137 12 w M g c n xs bss := ⟨hr, hls, by rw [hn]; rw [hn] at how; exact own_rebase how fun _ _ => Nat.zero_le _, hn⟩
 have hk : k < n := by rw [hn]; exact (List.getElem?_eq_some_iff.1 hf).1
 obtain ⟨p0, x, b, hf0, hx, hb, hxl, hR, _⟩ := hU.at_ hk
 obtain rfl : (f, L) = p0 := Option.some.inj (hf.symm.trans hf0)
 obtain ⟨r, d, b2, rfl, ho, hdd, rfl⟩ := hR
 have hkx := (List.getElem?_eq_some_iff.1 hx).1
 have hS := (SetK.zero hU hx).put hkx 0 (by omega) u (show _ = u :: sfCells f d from rfl)
 have hch := Chg.of_grown hS.gr
 have hng : ∀ q ∈ bss.flatten, q ≠ g := fun q hq e => h.ne q hq (by rw [e]; simp [Value.ownBlock])
 have hU2 := SlU.upd (a' := (f, L')) (b' := u.ownBlock.toList ++ b2) hU hk hS.ow hS.ls ⟨u, d, b2, rfl, own_chgN hu hch fun q hq e => hg (by rw [← show q = g by simpa using e]; exact hq), Rep.chg hdd hch fun q hq e => hng q (flat_mem hb (List.mem_append.2 (.inr hq))) (by simpa using e), rfl⟩ (fun i dd _ hdd2 q hq => hch.block q (rowsR_ex hr q (flat_mem hdd2 hq)) fun e => hng q (flat_mem hdd2 hq) (by simpa using e))
 have hmem : ∀ z ∈ (bss.set k (u.ownBlock.toList ++ b2)).flatten, z ∈ bss.flatten ∨ z ∈ u.ownBlock.toList := fun z hz => by
  obtain ⟨dd, hd, hm⟩ := List.mem_flatten.1 hz
  rcases List.mem_or_eq_of_mem_set hd with hd | rfl
  ·exact .inl (List.mem_flatten.2 ⟨dd, hd, hm⟩)
  ·rcases List.mem_append.1 hm with hm | hm
   ·exact .inr hm
   ·exact .inl (flat_mem hb (List.mem_append.2 (.inr hm)))
 refine ⟨_, ⟨⟨_, _, hU2.rr, hU2.ls, ?_, rfl⟩, fun z hz e => ?_⟩, hS.gr, hmem⟩
 ·rw [List.length_set, ← hn]
  exact own_rebase hU2.ow fun b hb => hB b hb
 ·have e2 : z = g := by simpa [Value.ownBlock] using e
  rcases hmem z hz with h1 | h1
  ·exact hng z h1 e2
  ·exact hg (e2 ▸ h1)
end Go.Proofs.YtdgagooldlnpeaaGreat
