/- What the exact laws of images keep in memory: the argument's box, images in variables. No statement is proved here. -/
import Derived.Test.YtfolphadhmgbiaaMA
import Derived.Test.YtfolphadhmgbiaaImR
import Derived.Test.YtfolphadhmgbiaaProg
import Derived.WalkKit
import Derived.ProofKit
import Derived.OpenShut
import Derived.WalkLawsBesides
import Derived.WalkSpells
import Derived.ShutString
import Derived.ChangeOld
import Derived.Below
import Derived.Lib.Hide
import Derived.BigQuiet
import Derived.Deep.QuietTactic
import Derived.Maps.AppendAt
import Derived.Deep.OwnRows
import Derived.Handy
import Derived.Deep.Draws
import Derived.OwnWalk
import Derived.Deep.AppendLies
import Derived.Deep.LoopGhost
import Derived.Deep.Onto
import Derived.Deep.RegionHeld3
import Derived.Deep.DeepCutAuto
namespace Go.Proofs.Ytfolphadhmgbiaa
open Go.RowKit
theorem belI_drew (w : World) : Below w.heap.size w w.drew := (Below.refl _ _).drew
/-- An image in a variable of its own, born between the sizes lo and hi of the memory. -/
structure ImV (lo hi b : Nat) (X Y : Int) (v : Value) (L : List Int) (W : World) : Prop where
  at_ : ImAt W b 35 X Y v
  own : W.ownsRow lo 3 1 v L.length (intCells L)
  lb : lo ≤ b
  hb : b < hi
  hk : ∀ k, v.ownBlock = some k → k < hi ∧ k ≠ b
  hs : hi ≤ W.heap.size
theorem ImV.call {lo hi b : Nat} {X Y : Int} {v : Value} {L : List Int} {W W' : World} (h : ImV lo hi b X Y v L W) (k : Below W.heap.size W W') : ImV lo hi b X Y v L W' :=
  ⟨h.at_.call k, ownI_call h.own k, h.lb, h.hb, h.hk, Nat.le_trans h.hs k.size⟩
theorem ImV.rd {lo hi b : Nat} {X Y : Int} {v : Value} {L : List Int} {W : World} (h : ImV lo hi b X Y v L W) : RdI W v L := RdI.of_own h.own
theorem ImV.cells {lo hi b : Nat} {X Y : Int} {v : Value} {L : List Int} {W : World} (h : ImV lo hi b X Y v L W) :
    W.cell? ⟨b, 0, none⟩ = some (.int .i64 X) ∧ W.cell? ⟨b, 1, none⟩ = some (.int .i64 Y) ∧ W.cell? ⟨b, 2, none⟩ = some v := h.at_.cells
theorem ImV.row {lo hi b : Nat} {X Y : Int} {v : Value} {L : List Int} {W : World} (h : ImV lo hi b X Y v L W) : ∀ k, v.ownBlock = some k → lo ≤ k ∧ k < hi := fun k hk => ⟨(h.own.lt k hk).1, (h.hk k hk).1⟩
theorem ImV.other {lo hi b : Nat} {X Y : Int} {v : Value} {L : List Int} {W W' : World} {row : Option Nat} (h : ImV lo hi b X Y v L W) (hg : W.grownBy W' row) (hr : ∀ k, row = some k → k < lo ∨ hi ≤ k) : ImV lo hi b X Y v L W' := by
  refine ⟨h.at_.grown hg (fun e => ?_), h.own.kept hg ?_, h.lb, h.hb, h.hk, Nat.le_trans h.hs hg.size⟩
  · have := hr _ e.symm; have := h.lb; have := h.hb; omega
  · by_cases hv : v.ownBlock = none
    · exact .inl hv
    · obtain ⟨k, hk⟩ := Option.ne_none_iff_exists'.1 hv
      refine .inr fun e => ?_
      rw [hk] at e
      have h1 := hr k e.symm
      have h2 := h.row k hk
      omega
theorem ImV.mark {lo hi b : Nat} {X Y : Int} {v : Value} {L M : List Int} {W W' : World} (h : ImV lo hi b X Y v L W) (hown : W'.ownsRow lo 3 1 v L.length (intCells M)) (hl : M.length = L.length) (hg : W.grownBy W' v.ownBlock) : ImV lo hi b X Y v M W' :=
  ⟨h.at_.grown hg (fun e => (h.hk _ e.symm).2 rfl), by rw [hl]; exact hown, h.lb, h.hb, h.hk, Nat.le_trans h.hs hg.size⟩
theorem ImV.born {X Y : Int} {v : Value} {L : List Int} {W W' : World} (hk : Below W.heap.size W W') (hown : W'.ownsRow W.heap.size 3 1 v L.length (intCells L)) :
    ImV W.heap.size (W'.heap.size + 1) W'.heap.size X Y v L (W'.alloc (.cells #[.int .i64 X, .int .i64 Y, v] 35)) :=
  ⟨ImAt.new _ _ _ _ _, hown.alloc _, hk.size, Nat.lt_succ_self _, fun k hk => by have := hown.lt k hk; omega, by simp⟩
theorem belI_mark {w W W' : World} {lo hi b : Nat} {X Y : Int} {v : Value} {L : List Int} (hw : Below w.heap.size w W) (h : ImV lo hi b X Y v L W) (hlo : w.heap.size ≤ lo) (hg : W.grownBy W' v.ownBlock) : Below w.heap.size w W' :=
  hw.grown hg hw.size (fun k hk => by have := (h.row k hk).1; omega)
end Go.Proofs.Ytfolphadhmgbiaa
