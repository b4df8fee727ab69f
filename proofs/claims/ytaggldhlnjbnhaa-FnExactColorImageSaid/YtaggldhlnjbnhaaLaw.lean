/- What the exact laws keep in memory besides images: a rectangle or a region that came in, a region in a variable; a variable that a statement in a free order makes. No statement is proved here. -/
import Derived.Test.YtaggldhlnjbnhaaRd
import Derived.Test.YtaggldhlnjbnhaaIntR
import Derived.Test.YtaggldhlnjbnhaaImR
import Derived.Test.YtaggldhlnjbnhaaRectC
import Derived.Test.YtaggldhlnjbnhaaPixM
import Derived.Test.YtaggldhlnjbnhaaImL
import Derived.Test.YtaggldhlnjbnhaaImV
import Derived.Test.YtaggldhlnjbnhaaBlk4
import Derived.Test.YtaggldhlnjbnhaaRectEq
import Derived.Test.YtaggldhlnjbnhaaProg
import Derived.WalkKit
import Derived.ProofKit
import Derived.OpenShut
import Derived.WalkLawsBesides
import Derived.WalkSpells
import Derived.ShutString
import Derived.ChangeOld
import Derived.Below
import Derived.Lib.Hide
import Derived.BigQuiet
import Derived.Deep.QuietTactic
import Derived.Maps.AppendAt
import Derived.Deep.OwnRows
import Derived.Handy
import Derived.Deep.Draws
import Derived.OwnWalk
import Derived.Deep.AppendLies
import Derived.Deep.LoopGhost
import Derived.Deep.Onto
import Derived.Deep.RegionHeld3
import Derived.Deep.DeepCutAuto
import Derived.Laws.BitsAllLaws
import Derived.Lib.QuoteBits
import Derived.Test.YtaggldhlnjbnhaaShelf
import Derived.Laws.CopyOwn
import Derived.Deep.RegionLaw
import Derived.Great.BuildSlice
import Derived.Deep.MidRow
import Derived.Deep.WholeRow
namespace Go.Proofs.Ytaggldhlnjbnhaa
open Go.RowKit
theorem ownA_ne {v : Value} {b : Nat} (h : ∀ g, v.ownBlock = some g → g ≠ b) : v.ownBlock = none ∨ v.ownBlock ≠ some b := by
  by_cases hv : v.ownBlock = none
  · exact .inl hv
  · exact .inr fun e => h b e rfl
theorem ImA.lt {b : Nat} {X Y : Int} {v : Value} {L : List Int} {W : World} (h : ImA b X Y v L W) : b < W.heap.size := h.at_.lt
theorem LcAt.callA {w w' : World} {g : Nat} {r : Rc} (h : LcAt w g r) (hb : Below w.heap.size w w') : LcAt w' g r := h.below hb h.lt
/-- A variable that was made and written in a free order, between the worlds W and V. -/
theorem ImV.made {W V : World} {b : Nat} {X Y : Int} {v : Value} {L : List Int} (hat : ImAt V b 28 X Y v) (hown : V.ownsRow W.heap.size 3 1 v L.length (intCells L)) (hb : W.heap.size ≤ b) (hn : ∀ k, v.ownBlock = some k → k ≠ b) :
    ImV W.heap.size V.heap.size b X Y v L V := ⟨hat, hown, hb, hat.lt, fun k hk => ⟨(hown.lt k hk).2, hn k hk⟩, Nat.le_refl _⟩
theorem lc_other {w w' : World} {g : Nat} {r : Rc} {row : Option Nat} (h : LcAt w g r) (hg : w.grownBy w' row) (hr : some g ≠ row) : LcAt w' g r := (hg.block g h.lt hr).trans h
theorem blk_call {w w' : World} {b : Nat} {o : Obj} (h : w.heap[b]? = some o) (hb : Below w.heap.size w w') : w'.heap[b]? = some o := (hb.block b (Array.getElem?_eq_some_iff.1 h).1).trans h
theorem markImI (B : Nat) (W H : Int) (v : Value) (L : List Int) (k0 : Nat) (ki : Int) (w : World) (hm : k0 + L.length ≤ 1000000000) (hk : ki = (k0 : Nat)) (hown : w.ownsRow B 3 1 v L.length (intCells L)) :
    Calls Try.prog 33 #[.agg #[.int .i64 W, .int .i64 H, v], .int .i64 ki] w fun ed w' => ed = .returned (.int .i64 ((k0 + L.length : Nat) : Int)) ∧ w'.ownsRow B 3 1 v L.length (intCells (marksI k0 L.length)) ∧ w.grownBy w' v.ownBlock := by
  subst hk
  exact markIm B W H v L k0 w hm hown
end Go.Proofs.Ytaggldhlnjbnhaa
