/- DoEdit of the model: what its walk needs. No statement is proved here. -/
import Derived.Test.YtokniebejilcbaaGreatMA
import Derived.Test.YtokniebejilcbaaGreatMC
import Derived.Test.YtokniebejilcbaaGreatMB
import Derived.Test.YtokniebejilcbaaGreatSnS
import Derived.Test.YtokniebejilcbaaGreatSnD
import Derived.Test.YtokniebejilcbaaGreatEdH
import Derived.Test.YtokniebejilcbaaGreatEdW
import Derived.Test.YtokniebejilcbaaGreatProg
import Derived.WalkKit
import Derived.ProofKit
import Derived.OpenShut
import Derived.WalkLawsBesides
import Derived.WalkSpells
import Derived.ShutString
import Derived.ChangeOld
import Derived.Below
import Derived.Lib.Hide
import Derived.BigQuiet
import Derived.Deep.QuietTactic
import Derived.Maps.AppendAt
import Derived.Deep.OwnRows
import Derived.Handy
import Derived.Deep.Draws
import Derived.OwnWalk
import Derived.Deep.AppendLies
import Derived.Deep.LoopGhost
import Derived.Deep.Onto
import Derived.Deep.MidRow
import Derived.Deep.WholeRow
import Derived.Laws.BitsAllLaws
import Derived.Lib.QuoteBits
import Derived.Deep.RegionHeld3
import Derived.Deep.DeepCutAuto
import Derived.Test.YtokniebejilcbaaGreatShelf
import Derived.Laws.CopyOwn
import Derived.Deep.RegionLaw
import Derived.Great.BuildSlice
import Derived.Shelf.RegionOpenPlain
import Derived.Lib.SliceRun
import Derived.Deep.RegionWith
import Derived.Laws.AppendOwn
import Derived.Deep.CutBlock
namespace Go.Proofs.YtokniebejilcbaaGreat
open Go.RowKit
theorem edRet {w W : World} {s T : Sn} {g : Bool} {e : Ed} {a : Act} {u : Value} {bu : List Nat} (hde : doE s e = (T, g)) (hbw : Below w.heap.size w W) (hO : repSfs.Own (w.heap.size + 3) W T.fs [u] bu)
  (hr : (results Tryz.f64 a.tmps).run Tryz.prog ((((W.setCell ⟨w.heap.size + 1 + 1, 0, none⟩ (.int .i64 T.w)).setCell ⟨w.heap.size + 1 + 1, 1, none⟩ (.int .i64 T.h)).setCell ⟨w.heap.size + 1 + 1, 2, none⟩ (.int .i64 T.back)).setCell ⟨w.heap.size + 1 + 1, 3, none⟩ u) = .ok (.tuple #[.agg #[.int .i64 T.w, .int .i64 T.h, .int .i64 T.back, u], .bool g]) ((((W.setCell ⟨w.heap.size + 1 + 1, 0, none⟩ (.int .i64 T.w)).setCell ⟨w.heap.size + 1 + 1, 1, none⟩ (.int .i64 T.h)).setCell ⟨w.heap.size + 1 + 1, 2, none⟩ (.int .i64 T.back)).setCell ⟨w.heap.size + 1 + 1, 3, none⟩ u)) (hdf : a.defers = [] := by rfl) :
  bodyPost Tryz.prog Tryz.f64 (EdAnsS s e w) .ret a ((((W.setCell ⟨w.heap.size + 1 + 1, 0, none⟩ (.int .i64 T.w)).setCell ⟨w.heap.size + 1 + 1, 1, none⟩ (.int .i64 T.h)).setCell ⟨w.heap.size + 1 + 1, 2, none⟩ (.int .i64 T.back)).setCell ⟨w.heap.size + 1 + 1, 3, none⟩ u) := by
 have hCh := (((Chg.setB W (w.heap.size + 1 + 1) 0 (.int .i64 T.w) [w.heap.size + 1 + 1] (by simp)).trans (Chg.setB _ (w.heap.size + 1 + 1) 1 (.int .i64 T.h) _ (by simp))).trans (Chg.setB _ (w.heap.size + 1 + 1) 2 (.int .i64 T.back) _ (by simp))).trans (Chg.setB _ (w.heap.size + 1 + 1) 3 u _ (by simp))
 refine bodyPost_ret hr hdf ?_
 unfold EdAnsS
 rw [hde]
 exact ⟨u, bu, rfl, (Rep.Own.chg hO hCh (fun b hb e => by have h1 := hO.lo b hb; have h2 : b = w.heap.size + 1 + 1 := (by simpa using e); omega)).mono (by omega), hCh.below hbw hbw.size (fun b hb => by have : b = w.heap.size + 1 + 1 := (by simpa using hb); omega)⟩
theorem sf_form {W : World} {f : Sf} {d : Value} {b : List Nat} (h : repSf.R W f (sfCells f d) b) : ∃ A c, d = .slice A f.data.length c := by
 obtain ⟨d', e1, hd⟩ := h
 obtain rfl : d = d' := by simpa [sfCells] using e1
 exact (repInts_rd hd).form
def rsL (q : Int) (L : List Sf) (i : Nat) : List Sf := if q < 0 then [] else (L.take i).eraseIdx q.toNat
theorem rs_zero (q : Int) (L : List Sf) : rsL q L 0 = [] := by unfold rsL; split <;> simp
theorem rs_neg {q : Int} (h : q < 0) (L : List Sf) (i j : Nat) : rsL q L i = rsL q L j := by unfold rsL; rw [if_pos h, if_pos h]
theorem rs_ne {q : Int} {L : List Sf} {i : Nat} {f : Sf} (h0 : 0 ≤ q) (h : L[i]? = some f) (hne : (i : Int) ≠ q) : rsL q L (i + 1) = rsL q L i ++ [f] := by
 unfold rsL; rw [if_neg (by omega), if_neg (by omega)]; exact er_ne h (by omega)
theorem rs_eq {q : Int} {L : List Sf} {i : Nat} {f : Sf} (h : L[i]? = some f) (he : (i : Int) = q) : rsL q L (i + 1) = rsL q L i := by
 unfold rsL; rw [if_neg (by omega), if_neg (by omega), ← he, Int.toNat_natCast]; exact er_eq h
theorem rsl_len (q : Int) (L : List Sf) (i : Nat) : (rsL q L i).length ≤ L.length := by
 unfold rsL; split
 ·exact Nat.zero_le _
 ·exact er_len L i _
theorem rs_all {q : Int} (h : 0 ≤ q) (L : List Sf) : rsL q L L.length = L.eraseIdx q.toNat := by unfold rsL; rw [if_neg (by omega), List.take_length]
theorem ed_fin {w V : World} {s : Sn} {v d : Value} {bs : List Nat} {e : Ed} {bo : Nat} {x y z : Int} {u u5 : Value} {b5 : List Nat} {M : List Sf} (ho : (∀ b ∈ bs, b < w.heap.size) ∧ ∀ q, d.ownBlock = some q → q < w.heap.size) (hB : EdB w s v bs e d V) (hb : BkAt V bo 34 #[.int .i64 x, .int .i64 y, .int .i64 z, u]) (hH : HalfU (w.heap.size + 3) V M u5 b5) (hlo : w.heap.size + 3 ≤ bo) (h1 : ∀ p, u5.ownBlock = some p → p ≠ bo) (h2 : ∀ q ∈ b5, q ≠ bo) :
  EdB w s v bs e d (V.setCell ⟨bo, 3, none⟩ u5) ∧ BkAt (V.setCell ⟨bo, 3, none⟩ u5) bo 34 #[.int .i64 x, .int .i64 y, .int .i64 z, u5] ∧ HalfU (w.heap.size + 3) (V.setCell ⟨bo, 3, none⟩ u5) M u5 b5 :=
 ⟨hB.set ho (grown_setB _ bo 3 _) (fun k hk => by have := Option.some.inj hk; omega), hb.put 3 _ rfl, hH.chg (Chg.of_grown (grown_setB _ bo 3 _)) (fun p hp e => h1 p hp (by simpa using e)) (fun q hq e => h2 q hq (by simpa using e))⟩
theorem HalfU.frozen {B : Nat} {W : World} {M : List Sf} {g n c : Nat} {bs : List Nat} (h : HalfU B W M (.slice (some ⟨g, 0, none⟩) n c) bs) (j : Nat) : W.frozen? ⟨g, j, none⟩ = false := by
 obtain ⟨A, c', e⟩ := h.form
 injection e with e1 e2 e3
 subst e2
 obtain ⟨xs, bss, hr, hls, how, _⟩ := h.ex
 exact how.frozenAt j
theorem HalfU.im3 {B : Nat} {W : World} {M : List Sf} {g n c k : Nat} {bs : List Nat} (h : HalfU B W M (.slice (some ⟨g, 0, none⟩) n c) bs) (hk : k < M.length) : ∃ f d, M[k]? = some f ∧ W.cell? ⟨g, k * 11 + 8, none⟩ = some (.int .i64 f.bw) ∧ W.cell? ⟨g, k * 11 + 8 + 1, none⟩ = some (.int .i64 f.bh) ∧ W.cell? ⟨g, k * 11 + 8 + 2, none⟩ = some d := by
 obtain ⟨g', f, d, b, hA, hf, hC, _, _⟩ := h.at_ hk
 injection hA with hA
 injection hA with hA
 subst hA
 exact ⟨f, d, hf, hC.c8, hC.c9, hC.c10⟩
theorem ed_put1 {w V : World} {s : Sn} {v d : Value} {bs bu : List Nat} {e : Ed} {bo g n c k j : Nat} {cs : Array Value} {M : List Sf} {f f' : Sf} {val : Value} (ho : (∀ b ∈ bs, b < w.heap.size) ∧ ∀ q, d.ownBlock = some q → q < w.heap.size) (hB : EdB w s v bs e d V) (hb : BkAt V bo 34 cs) (hH : HalfU (w.heap.size + 3) V M (.slice (some ⟨g, 0, none⟩) n c) bu) (hn : n = M.length) (hf : M[k]? = some f) (hj : j < 11) (hv : ∀ d, (sfCells f d).set j val = sfCells f' d) (hd : f'.data = f.data) (hg : w.heap.size + 3 ≤ g) (hbg : bo ≠ g) :
  EdB w s v bs e d (V.setCell ⟨g, k * 11 + j, none⟩ val) ∧ BkAt (V.setCell ⟨g, k * 11 + j, none⟩ val) bo 34 cs ∧ HalfU (w.heap.size + 3) (V.setCell ⟨g, k * 11 + j, none⟩ val) (M.set k f') (.slice (some ⟨g, 0, none⟩) n c) bu := by
 obtain ⟨h1, h2⟩ := hH.put1 hn hf hj hv hd
 exact ⟨hB.set ho h2 (fun q hq => by have := Option.some.inj hq; omega), hb.grown h2 (fun e => hbg (Option.some.inj e)), h1⟩
structure EdY (w : World) (s : Sn) (v : Value) (bs : List Nat) (e : Ed) (d : Value) (br : Nat) (v2 : Value) (g i : Nat) (f : Sf) (d1 : Value) (b1 : List Nat) (W : World) : Prop where
 o : EdB w s v bs e d W
 r : BkAt W br 34 #[.int .i64 0, .int .i64 0, .int .i64 0, v2]
 c : C11 W g (i * 11) f d1
 rf : repSf.R W f (sfCells f d1) b1
theorem EdY.call {w : World} {s : Sn} {v : Value} {bs : List Nat} {e : Ed} {d : Value} {br : Nat} {v2 : Value} {g i : Nat} {f : Sf} {d1 : Value} {b1 : List Nat} {W W' : World} (h : EdY w s v bs e d br v2 g i f d1 b1 W) (hb : Below W.heap.size W W') : EdY w s v bs e d br v2 g i f d1 b1 W' := ⟨h.o.call hb, h.r.call hb, h.c.call hb, Rep.call h.rf hb⟩
theorem EdY.set {w : World} {s : Sn} {v : Value} {bs : List Nat} {e : Ed} {d : Value} {br : Nat} {v2 : Value} {g i : Nat} {f : Sf} {d1 : Value} {b1 : List Nat} {W W' : World} {row : Option Nat} (h : EdY w s v bs e d br v2 g i f d1 b1 W) (ho : (∀ b ∈ bs, b < w.heap.size) ∧ ∀ q, d.ownBlock = some q → q < w.heap.size) (hg : W.grownBy W' row) (hk : ∀ k, row = some k → w.heap.size + 3 ≤ k ∧ k ≠ br ∧ k ≠ g ∧ k ∉ b1) : EdY w s v bs e d br v2 g i f d1 b1 W' :=
 ⟨h.o.set ho hg (fun k e => (hk k e).1), h.r.grown hg (fun e => (hk _ e.symm).2.1 rfl), h.c.kept fun q e hl => hg.block q hl fun e2 => (hk q e2.symm).2.2.1 e, Rep.chg h.rf (Chg.of_grown hg) fun b hb e => (hk b (by simpa using e)).2.2.2 hb⟩
theorem edNew_rep {W : World} {e : Ed} {A : Option Addr} {c B : Nat} (h : W.ownsRow B 3 1 (.slice A e.data.length c) e.data.length (intCells e.data)) : repInts.R W e.data [.slice A e.data.length c] (Value.slice A e.data.length c).ownBlock.toList := ⟨_, rfl, own_rebase h (fun _ _ => Nat.zero_le _), rfl⟩
end Go.Proofs.YtokniebejilcbaaGreat
