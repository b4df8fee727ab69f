/- What the exact laws keep in memory besides images: a slice of ints of the call's own. No statement is proved here. -/
import Derived.Test.YtaggldhlnjbnhaaRd
import Derived.Test.YtaggldhlnjbnhaaIntR
import Derived.Test.YtaggldhlnjbnhaaFrame
import Derived.Test.YtaggldhlnjbnhaaImR
import Derived.Test.YtaggldhlnjbnhaaPixM
import Derived.Test.YtaggldhlnjbnhaaImV
import Derived.Test.YtaggldhlnjbnhaaBlk4
import Derived.Test.YtaggldhlnjbnhaaRectEq
import Derived.Test.YtaggldhlnjbnhaaLaw
import Derived.Test.YtaggldhlnjbnhaaProg
import Derived.WalkKit
import Derived.ProofKit
import Derived.OpenShut
import Derived.WalkLawsBesides
import Derived.WalkSpells
import Derived.ShutString
import Derived.ChangeOld
import Derived.Below
import Derived.Lib.Hide
import Derived.BigQuiet
import Derived.Deep.QuietTactic
import Derived.Maps.AppendAt
import Derived.Deep.OwnRows
import Derived.Handy
import Derived.Deep.Draws
import Derived.OwnWalk
import Derived.Deep.AppendLies
import Derived.Deep.LoopGhost
import Derived.Deep.Onto
import Derived.Deep.RegionHeld3
import Derived.Deep.DeepCutAuto
import Derived.Laws.BitsAllLaws
import Derived.Lib.QuoteBits
import Derived.Test.YtaggldhlnjbnhaaShelf
import Derived.Laws.CopyOwn
import Derived.Deep.RegionLaw
import Derived.Great.BuildSlice
import Derived.Deep.MidRow
import Derived.Deep.WholeRow
namespace Go.Proofs.Ytaggldhlnjbnhaa
open Go.RowKit
/-- A slice of ints of the call's own, born between the sizes lo and hi of the memory. -/
structure IsV (lo hi : Nat) (v : Value) (L : List Int) (W : World) : Prop where
  own : W.ownsRow lo 3 1 v L.length (intCells L)
  hk : ∀ k, v.ownBlock = some k → k < hi
  hs : hi ≤ W.heap.size
theorem IsV.born {v : Value} {L : List Int} {W W' : World} (hown : W'.ownsRow W.heap.size 3 1 v L.length (intCells L)) : IsV W.heap.size W'.heap.size v L W' := ⟨hown, fun k hk => (hown.lt k hk).2, Nat.le_refl _⟩
theorem IsV.call {lo hi : Nat} {v : Value} {L : List Int} {W W' : World} (h : IsV lo hi v L W) (k : Below W.heap.size W W') : IsV lo hi v L W' := ⟨ownI_call h.own k, h.hk, Nat.le_trans h.hs k.size⟩
theorem IsV.rd {lo hi : Nat} {v : Value} {L : List Int} {W : World} (h : IsV lo hi v L W) : RdI W v L := RdI.of_own h.own
theorem IsV.row {lo hi : Nat} {v : Value} {L : List Int} {W : World} (h : IsV lo hi v L W) : ∀ k, v.ownBlock = some k → lo ≤ k ∧ k < hi := fun k hk => ⟨(h.own.lt k hk).1, h.hk k hk⟩
theorem IsV.other {lo hi : Nat} {v : Value} {L : List Int} {W W' : World} {row : Option Nat} (h : IsV lo hi v L W) (hg : W.grownBy W' row) (hr : ∀ k, row = some k → k < lo ∨ hi ≤ k) : IsV lo hi v L W' := by
  refine ⟨h.own.kept hg ?_, h.hk, Nat.le_trans h.hs hg.size⟩
  by_cases hv : v.ownBlock = none
  · exact .inl hv
  · obtain ⟨k, hk⟩ := Option.ne_none_iff_exists'.1 hv
    refine .inr fun e => ?_
    rw [hk] at e
    have h1 := hr k e.symm
    have h2 := h.row k hk
    omega
theorem IsV.mark {lo hi : Nat} {v : Value} {L M : List Int} {W W' : World} (h : IsV lo hi v L W) (hown : W'.ownsRow lo 3 1 v L.length (intCells M)) (hl : M.length = L.length) (hg : W.grownBy W' v.ownBlock) : IsV lo hi v M W' :=
  ⟨by rw [hl]; exact hown, h.hk, Nat.le_trans h.hs hg.size⟩
theorem belS_mark {w W W' : World} {lo hi : Nat} {v : Value} {L : List Int} (hw : Below w.heap.size w W) (h : IsV lo hi v L W) (hlo : w.heap.size ≤ lo) (hg : W.grownBy W' v.ownBlock) : Below w.heap.size w W' :=
  hw.grown hg hw.size (fun k hk => by have := (h.row k hk).1; omega)
theorem markISI (B : Nat) (v : Value) (L : List Int) (k0 : Nat) (ki : Int) (w : World) (hm : k0 + L.length ≤ 1000000000) (hk : ki = (k0 : Nat)) (hown : w.ownsRow B 3 1 v L.length (intCells L)) :
    Calls Try.prog 34 #[v, .int .i64 ki] w fun ed w' => ed = .returned (.int .i64 ((k0 + L.length : Nat) : Int)) ∧ w'.ownsRow B 3 1 v L.length (intCells (marksI k0 L.length)) ∧ w.grownBy w' v.ownBlock := by
  subst hk
  exact markIS B 3 v L k0 w hm hown
theorem eqIS_own (v u : Value) (L : List Int) (w : World) (hv : RdI w v L) (hu : RdI w u L) :
    Calls Try.prog 31 #[v, u] w fun e w' => e = .returned (.bool true) ∧ Below w.heap.size w w' :=
  (eqIS_same v u L w hv.rd hu.rd).mono fun e w' h => ⟨h.1, by obtain ⟨k, rfl⟩ := h.2; exact below_drewN (Below.refl _ _) k⟩
end Go.Proofs.Ytaggldhlnjbnhaa
