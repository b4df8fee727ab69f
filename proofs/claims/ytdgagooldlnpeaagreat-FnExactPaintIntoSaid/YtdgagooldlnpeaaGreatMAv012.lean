/- Texts of mine in one file: ImV. No statement is proved here. -/
import Derived.Test.YtdgagooldlnpeaaGreatMA
import Derived.Test.YtdgagooldlnpeaaGreatProg
import Derived.WalkKit
import Derived.ProofKit
import Derived.OpenShut
import Derived.WalkLawsBesides
import Derived.WalkSpells
import Derived.ShutString
import Derived.ChangeOld
import Derived.Below
import Derived.Lib.Hide
import Derived.BigQuiet
import Derived.Deep.QuietTactic
import Derived.Maps.AppendAt
import Derived.Deep.OwnRows
import Derived.Handy
import Derived.Deep.Draws
import Derived.OwnWalk
import Derived.Deep.AppendLies
import Derived.Deep.LoopGhost
import Derived.Deep.Onto
import Derived.Deep.RegionHeld3
import Derived.Deep.DeepCutAuto
namespace Go.Proofs.YtdgagooldlnpeaaGreat
open Go.RowKit
structure ImV (lo hi b : Nat) (X Y : Int) (v : Value) (L : List Int) (W : World) : Prop where
 at_ : ImAt W b 55 X Y v
 own : W.ownsRow lo 3 1 v L.length (intCells L)
 lb : lo ≤ b
 hb : b < hi
 hk : ∀ k, v.ownBlock = some k → k < hi ∧ k ≠ b
 hs : hi ≤ W.heap.size
theorem ImV.call {lo hi b : Nat} {X Y : Int} {v : Value} {L : List Int} {W W' : World} (h : ImV lo hi b X Y v L W) (k : Below W.heap.size W W') : ImV lo hi b X Y v L W' :=
 ⟨h.at_.call k, ownI_call h.own k, h.lb, h.hb, h.hk, Nat.le_trans h.hs k.size⟩
theorem ImV.rd {lo hi b : Nat} {X Y : Int} {v : Value} {L : List Int} {W : World} (h : ImV lo hi b X Y v L W) : RdI W v L := RdI.of_own h.own
theorem ImV.cells {lo hi b : Nat} {X Y : Int} {v : Value} {L : List Int} {W : World} (h : ImV lo hi b X Y v L W) :
  W.cell? ⟨b, 0, none⟩ = some (.int .i64 X) ∧ W.cell? ⟨b, 1, none⟩ = some (.int .i64 Y) ∧ W.cell? ⟨b, 2, none⟩ = some v := h.at_.cells
theorem ImV.row {lo hi b : Nat} {X Y : Int} {v : Value} {L : List Int} {W : World} (h : ImV lo hi b X Y v L W) : ∀ k, v.ownBlock = some k → lo ≤ k ∧ k < hi := fun k hk => ⟨(h.own.lt k hk).1, (h.hk k hk).1⟩
theorem ImV.born {X Y : Int} {v : Value} {L : List Int} {W W' : World} (hk : Below W.heap.size W W') (hown : W'.ownsRow W.heap.size 3 1 v L.length (intCells L)) :
  ImV W.heap.size (W'.heap.size + 1) W'.heap.size X Y v L (W'.alloc (.cells #[.int .i64 X, .int .i64 Y, v] 55)) :=
 ⟨ImAt.new _ _ _ _ _, hown.alloc _, hk.size, Nat.lt_succ_self _, fun k hk => by have := hown.lt k hk; omega, by simp⟩
end Go.Proofs.YtdgagooldlnpeaaGreat
