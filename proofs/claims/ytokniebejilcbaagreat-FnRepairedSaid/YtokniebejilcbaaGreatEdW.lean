/- DoEdit of the model: what it keeps in memory, and its walk. No statement is proved here. -/
import Derived.Test.YtokniebejilcbaaGreatMA
import Derived.Test.YtokniebejilcbaaGreatMC
import Derived.Test.YtokniebejilcbaaGreatMB
import Derived.Test.YtokniebejilcbaaGreatSnS
import Derived.Test.YtokniebejilcbaaGreatSnD
import Derived.Test.YtokniebejilcbaaGreatEdH
import Derived.Test.YtokniebejilcbaaGreatProg
import Derived.WalkKit
import Derived.ProofKit
import Derived.OpenShut
import Derived.WalkLawsBesides
import Derived.WalkSpells
import Derived.ShutString
import Derived.ChangeOld
import Derived.Below
import Derived.Lib.Hide
import Derived.BigQuiet
import Derived.Deep.QuietTactic
import Derived.Maps.AppendAt
import Derived.Deep.OwnRows
import Derived.Handy
import Derived.Deep.Draws
import Derived.OwnWalk
import Derived.Deep.AppendLies
import Derived.Deep.LoopGhost
import Derived.Deep.Onto
import Derived.Deep.MidRow
import Derived.Deep.WholeRow
import Derived.Laws.BitsAllLaws
import Derived.Lib.QuoteBits
import Derived.Deep.RegionHeld3
import Derived.Deep.DeepCutAuto
import Derived.Test.YtokniebejilcbaaGreatShelf
import Derived.Laws.CopyOwn
import Derived.Deep.RegionLaw
import Derived.Great.BuildSlice
import Derived.Shelf.RegionOpenPlain
import Derived.Lib.SliceRun
import Derived.Deep.RegionWith
import Derived.Laws.AppendOwn
namespace Go.Proofs.YtokniebejilcbaaGreat
open Go.RowKit
structure EdB (w : World) (s : Sn) (v : Value) (bs : List Nat) (e : Ed) (d : Value) (W : World) : Prop where
 a : SnA w.heap.size s v bs W
 x : BkAt W (w.heap.size + 1) 94 #[.int .i64 e.kind, .int .i64 e.id, .int .i64 e.a, .int .i64 e.b, .int .i64 e.bw, .int .i64 e.bh, d]
 rd : RdI W d e.data
 r : BkAt W (w.heap.size + 1 + 1) 34 #[.int .i64 0, .int .i64 0, .int .i64 0, .slice none 0 0]
 bw : Below w.heap.size w W
theorem EdB.call {w : World} {s : Sn} {v : Value} {bs : List Nat} {e : Ed} {d : Value} {W W' : World} (h : EdB w s v bs e d W) (hb : Below W.heap.size W W') : EdB w s v bs e d W' := ⟨h.a.call hb, h.x.call hb, h.rd.call hb, h.r.call hb, belI_call h.bw hb⟩
theorem EdB.set {w : World} {s : Sn} {v : Value} {bs : List Nat} {e : Ed} {d : Value} {W W' : World} {row : Option Nat} (h : EdB w s v bs e d W) (ho : (∀ b ∈ bs, b < w.heap.size) ∧ ∀ q, d.ownBlock = some q → q < w.heap.size) (hg : W.grownBy W' row) (hk : ∀ k, row = some k → w.heap.size + 3 ≤ k) : EdB w s v bs e d W' :=
 ⟨⟨h.a.at_.grown hg (fun e => by have := hk _ e.symm; omega), Rep.chg h.a.r (Chg.of_grown hg) fun b hb e => by have := hk b (by simpa using e); have := ho.1 b hb; omega⟩, h.x.grown hg (fun e => by have := hk _ e.symm; omega), h.rd.grown hg (fun q hq e => by have := hk _ e.symm; have := ho.2 q hq; omega), h.r.grown hg (fun e => by have := hk _ e.symm; omega), h.bw.grown hg h.bw.size (fun k e => by have := hk k e; omega)⟩
structure EdW (w : World) (s : Sn) (v : Value) (bs : List Nat) (e : Ed) (d : Value) (bo : Nat) (u : Value) (bu : List Nat) (W : World) : Prop where
 o : EdB w s v bs e d W
 b : BkAt W bo 34 #[.int .i64 s.w, .int .i64 s.h, .int .i64 s.back, u]
 h : HalfU (w.heap.size + 3) W s.fs u bu
structure EdO (w : World) (bs : List Nat) (d : Value) (bo : Nat) (u : Value) (bu : List Nat) : Prop where
 ob : (∀ b ∈ bs, b < w.heap.size) ∧ ∀ q, d.ownBlock = some q → q < w.heap.size
 lo : w.heap.size + 3 ≤ bo
 ub : ∀ q, u.ownBlock = some q → q < bo ∧ w.heap.size + 3 ≤ q
 bb : ∀ b ∈ bu, b < bo ∧ w.heap.size + 3 ≤ b
theorem EdW.call {w : World} {s : Sn} {v : Value} {bs : List Nat} {e : Ed} {d : Value} {bo : Nat} {u : Value} {bu : List Nat} {W W' : World} (h : EdW w s v bs e d bo u bu W) (hb : Below W.heap.size W W') : EdW w s v bs e d bo u bu W' := ⟨h.o.call hb, h.b.call hb, h.h.call hb⟩
theorem EdW.set {w : World} {s : Sn} {v : Value} {bs : List Nat} {e : Ed} {d : Value} {bo : Nat} {u : Value} {bu : List Nat} {W W' : World} {row : Option Nat} (h : EdW w s v bs e d bo u bu W) (ho : EdO w bs d bo u bu) (hg : W.grownBy W' row) (hk : ∀ k, row = some k → bo < k) : EdW w s v bs e d bo u bu W' :=
 ⟨h.o.set ho.ob hg (fun k e => by have := hk k e; have := ho.lo; omega), h.b.grown hg (fun e => by have := hk _ e.symm; omega), h.h.chg (Chg.of_grown hg) (fun q hq e => by have := hk q (by simpa using e); have := (ho.ub q hq).1; omega) (fun b hb e => by have := hk b (by simpa using e); have := (ho.bb b hb).1; omega)⟩
structure EdX (w : World) (s : Sn) (v : Value) (bs : List Nat) (e : Ed) (d : Value) (bo : Nat) (u : Value) (bu : List Nat) (g i : Nat) (f : Sf) (d1 : Value) (b1 : List Nat) (W : World) : Prop where
 o : EdW w s v bs e d bo u bu W
 c : C11 W g (i * 11) f d1
 r : repSf.R W f (sfCells f d1) b1
theorem EdX.call {w : World} {s : Sn} {v : Value} {bs : List Nat} {e : Ed} {d : Value} {bo : Nat} {u : Value} {bu : List Nat} {g i : Nat} {f : Sf} {d1 : Value} {b1 : List Nat} {W W' : World} (h : EdX w s v bs e d bo u bu g i f d1 b1 W) (hb : Below W.heap.size W W') : EdX w s v bs e d bo u bu g i f d1 b1 W' := ⟨h.o.call hb, h.c.call hb, Rep.call h.r hb⟩
theorem C11.kept {W W' : World} {g o : Nat} {f : Sf} {d : Value} (h : C11 W g o f d) (hg : ∀ q, q = g → q < W.heap.size → W'.heap[q]? = W.heap[q]?) : C11 W' g o f d := by
 have hc : ∀ o u, W.cell? ⟨g, o, none⟩ = some u → W'.cell? ⟨g, o, none⟩ = some u := fun o u hu => by
  have hl := World.block_lt_of_cell? W _ hu
  rw [← hu]
  exact World.cell?_of_block (hg g rfl hl)
 exact ⟨hc _ _ h.c0, hc _ _ h.c1, hc _ _ h.c2, hc _ _ h.c3, hc _ _ h.c4, hc _ _ h.c5, hc _ _ h.c6, hc _ _ h.c7, hc _ _ h.c8, hc _ _ h.c9, hc _ _ h.c10⟩
theorem EdX.set {w : World} {s : Sn} {v : Value} {bs : List Nat} {e : Ed} {d : Value} {bo : Nat} {u : Value} {bu : List Nat} {g i : Nat} {f : Sf} {d1 : Value} {b1 : List Nat} {W W' : World} {row : Option Nat} (h : EdX w s v bs e d bo u bu g i f d1 b1 W) (ho : EdO w bs d bo u bu) (hgb : g < bo ∧ ∀ b ∈ b1, b < bo) (hg : W.grownBy W' row) (hk : ∀ k, row = some k → bo < k) : EdX w s v bs e d bo u bu g i f d1 b1 W' :=
 ⟨h.o.set ho hg hk, h.c.kept fun q e hl => hg.block q hl fun e2 => by have := hk q e2.symm; omega, Rep.chg h.r (Chg.of_grown hg) fun b hb e => by have := hk b (by simpa using e); have := hgb.2 b hb; omega⟩
theorem HalfU.at_ {B : Nat} {W : World} {M : List Sf} {A : Option Addr} {n c k : Nat} {bs : List Nat} (h : HalfU B W M (.slice A n c) bs) (hk : k < M.length) : ∃ g f d b, A = some ⟨g, 0, none⟩ ∧ M[k]? = some f ∧ C11 W g (k * 11) f d ∧ repSf.R W f (sfCells f d) b ∧ (∀ q ∈ b, q ∈ bs) := by
 obtain ⟨xs, bss, hr, hls, how, rfl⟩ := h.ex
 have hR : repSfs.R W M [.slice A n c] ((Value.slice A n c).ownBlock.toList ++ bss.flatten) := ⟨_, xs, bss, rfl, hr, hls, own_rebase how fun _ _ => Nat.zero_le _, rfl⟩
 have hL := List.getElem?_eq_getElem hk
 obtain ⟨x, b, hx, hb, hRk⟩ := rowsR_at hr k _ hL
 have hR2 := hRk
 obtain ⟨d, rfl, hd⟩ := hR2
 rcases how.2 with ⟨_, h0⟩ | ⟨g, cap, cur, he, _⟩
 ·omega
 ·injection he with e1 e2 e3
  subst e1 e2 e3
  exact ⟨g, _, d, b, rfl, hL, c11_of fun j z hz => own_cellI how (by rw [flat_at hls k j hx (by have := (List.getElem?_eq_some_iff.1 hz).1; simpa [sfCells] using this)]; exact hz), hRk, fun q hq => flat_mem hb hq⟩
theorem er_ne {L : List Sf} {i kk : Nat} {f : Sf} (h : L[i]? = some f) (hne : i ≠ kk) : (L.take (i + 1)).eraseIdx kk = (L.take i).eraseIdx kk ++ [f] := by
 have hi := (List.getElem?_eq_some_iff.1 h).1
 have hl : (L.take i).length = i := by rw [List.length_take]; omega
 rw [take_snoc h]
 by_cases hk : kk < i
 ·rw [List.eraseIdx_append_of_lt_length (by omega)]
 ·rw [List.eraseIdx_append_of_length_le (by omega), List.eraseIdx_of_length_le (l := L.take i) (by omega), List.eraseIdx_of_length_le (l := [f]) (by simp; omega)]
theorem er_eq {L : List Sf} {kk : Nat} {f : Sf} (h : L[kk]? = some f) : (L.take (kk + 1)).eraseIdx kk = (L.take kk).eraseIdx kk := by
 have hi := (List.getElem?_eq_some_iff.1 h).1
 have hl : (L.take kk).length = kk := by rw [List.length_take]; omega
 rw [take_snoc h, List.eraseIdx_append_of_length_le (by omega), List.eraseIdx_of_length_le (l := L.take kk) (by omega), hl]
 simp
theorem er_len (L : List Sf) (i kk : Nat) : ((L.take i).eraseIdx kk).length ≤ L.length := by
 have h1 := List.length_eraseIdx_le (l := L.take i) (i := kk)
 rw [List.length_take] at h1
 omega
def EdAnsS (s : Sn) (e : Ed) (w : World) (e' : Ending) (w' : World) : Prop := ∃ u bs, e' = .returned (.tuple #[.agg #[.int .i64 (doE s e).1.w, .int .i64 (doE s e).1.h, .int .i64 (doE s e).1.back, u], .bool (doE s e).2]) ∧ repSfs.Own w.heap.size w' (doE s e).1.fs [u] bs ∧ Below w.heap.size w w'
end Go.Proofs.YtokniebejilcbaaGreat
