/- Surfaces, scenes and edits as data, what makes them valid, and how they lie in memory. No statement is proved here. -/
import Derived.Test.YtfolphadhmgbiaaMA
import Derived.Test.YtfolphadhmgbiaaImR
import Derived.Test.YtfolphadhmgbiaaRep
import Derived.Test.YtfolphadhmgbiaaVar
import Derived.Test.YtfolphadhmgbiaaImO
import Derived.Test.YtfolphadhmgbiaaProg
import Derived.WalkKit
import Derived.ProofKit
import Derived.OpenShut
import Derived.WalkLawsBesides
import Derived.WalkSpells
import Derived.ShutString
import Derived.ChangeOld
import Derived.Below
import Derived.Lib.Hide
import Derived.BigQuiet
import Derived.Deep.QuietTactic
import Derived.Maps.AppendAt
import Derived.Deep.OwnRows
import Derived.Handy
import Derived.Deep.Draws
import Derived.OwnWalk
import Derived.Deep.AppendLies
import Derived.Deep.LoopGhost
import Derived.Deep.Onto
import Derived.Deep.MidRow
import Derived.Deep.WholeRow
import Derived.Laws.BitsAllLaws
import Derived.Lib.QuoteBits
namespace Go.Proofs.Ytfolphadhmgbiaa
open Go.RowKit
/-- A surface. -/
structure Sf where
  id : Int
  x : Int
  y : Int
  w : Int
  h : Int
  alpha : Int
  orient : Int
  vis : Bool
  bw : Int
  bh : Int
  data : List Int
/-- The zero value. -/
def sfZero : Sf := ⟨0, 0, 0, 0, 0, 0, 0, false, 0, 0, []⟩
def sfOk (f : Sf) : Prop := (1 ≤ f.id ∧ f.id ≤ 99) ∧ (-32 ≤ f.x ∧ f.x ≤ 32) ∧ (-32 ≤ f.y ∧ f.y ≤ 32) ∧ ((f.w = 0 ∧ f.h = 0) ∨ szOk f.w f.h) ∧ (0 ≤ f.alpha ∧ f.alpha ≤ 255) ∧ orOk f.orient ∧ imOk f.bw f.bh f.data
noncomputable def sfB (f : Sf) : Bool := @decide (sfOk f) (Classical.propDecidable _)
theorem sfB_yes {f : Sf} (h : sfOk f) : sfB f = true := by unfold sfB; simp [h]
theorem sfB_no {f : Sf} (h : ¬ sfOk f) : sfB f = false := by unfold sfB; simp [h]
/-- A scene. -/
structure Sn where
  w : Int
  h : Int
  back : Int
  fs : List Sf
/-- An opaque pixel. -/
def opq (p : Int) : Prop := pixOk p ∧ p / 16777216 = 255
noncomputable def opqB (p : Int) : Bool := @decide (opq p) (Classical.propDecidable _)
theorem opqB_yes {p : Int} (h : opq p) : opqB p = true := by unfold opqB; simp [h]
theorem opqB_no {p : Int} (h : ¬ opq p) : opqB p = false := by unfold opqB; simp [h]
/-- The place of the first surface with an Id, or -1. -/
def idxF : List Sf → Int → Int
  | [], _ => -1
  | f :: L, i => if f.id = i then 0 else if idxF L i < 0 then -1 else idxF L i + 1
theorem idxF_hit {L : List Sf} {i : Int} {k : Nat} {f : Sf} (hk : L[k]? = some f) (hf : f.id = i) (hn : ∀ (j : Nat) (g : Sf), j < k → L[j]? = some g → g.id ≠ i) : idxF L i = k := by
  induction L generalizing k with
  | nil => simp at hk
  | cons g L ih =>
    cases k with
    | zero =>
      obtain rfl : g = f := by simpa using hk
      simp [idxF, hf]
    | succ k =>
      have h0 := hn 0 g (by omega) rfl
      have h1 := ih (by simpa using hk) fun j e hj he => hn (j + 1) e (by omega) (by simpa using he)
      unfold idxF
      rw [if_neg h0, h1, if_neg (by omega)]
      push_cast
      rfl
theorem idxF_miss {L : List Sf} {i : Int} (hn : ∀ (j : Nat) (g : Sf), L[j]? = some g → g.id ≠ i) : idxF L i = -1 := by
  induction L with
  | nil => rfl
  | cons g L ih =>
    unfold idxF
    rw [if_neg (hn 0 g rfl), ih fun j e he => hn (j + 1) e (by simpa using he), if_pos (by omega)]
def snOk (s : Sn) : Prop := szOk s.w s.h ∧ opq s.back ∧ s.fs.length ≤ 6 ∧ ∀ (k : Nat) (f : Sf), s.fs[k]? = some f → sfOk f ∧ idxF s.fs f.id = k
noncomputable def snB (s : Sn) : Bool := @decide (snOk s) (Classical.propDecidable _)
theorem snB_yes {s : Sn} (h : snOk s) : snB s = true := by unfold snB; simp [h]
theorem snB_no {s : Sn} (h : ¬ snOk s) : snB s = false := by unfold snB; simp [h]
/-- The cells of a surface, whose pixels are the slice d. -/
def sfCells (f : Sf) (d : Value) : List Value := [.int .i64 f.id, .int .i64 f.x, .int .i64 f.y, .int .i64 f.w, .int .i64 f.h, .int .i64 f.alpha, .int .i64 f.orient, .bool f.vis, .int .i64 f.bw, .int .i64 f.bh, d]
def repSf : Rep Sf where
  R := fun w f vs bs => ∃ d, vs = sfCells f d ∧ repInts.R w f.data [d] bs
  ex := by rintro w f vs bs ⟨d, rfl, h⟩; exact repInts.ex h
  keep := by rintro w w' f vs bs ⟨d, rfl, h⟩ hk; exact ⟨d, rfl, repInts.keep h hk⟩
def wkSf : Wk Sf where
  R := fun w f vs => ∃ d, vs = sfCells f d ∧ Rd w d f.data.length (intCells f.data)
  call := by rintro w w' f vs ⟨d, rfl, h⟩ hb; exact ⟨d, rfl, h.call hb⟩
theorem rep_ints_own {B : Nat} {w : World} {L : List Int} {d : Value} {bs : List Nat} (h : repInts.Own B w L [d] bs) : w.ownsRow B 3 1 d L.length (intCells L) ∧ bs = d.ownBlock.toList := by
  obtain ⟨v, e, ho, rfl⟩ := h.r
  obtain rfl : d = v := by simpa using e
  exact ⟨own_rebase ho fun b hb => h.lo b hb, rfl⟩
def snCells (s : Sn) (v : Value) : List Value := [.int .i64 s.w, .int .i64 s.h, .int .i64 s.back, v]
end Go.Proofs.Ytfolphadhmgbiaa
