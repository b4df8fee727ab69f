/- What CopyRegion keeps in memory, of the program and of its model. No statement is proved here. -/
import Derived.Test.YtflehkbalnikiaaIntR
import Derived.Test.YtflehkbalnikiaaImR
import Derived.Test.YtflehkbalnikiaaPixM
import Derived.Test.YtflehkbalnikiaaMA
import Derived.Test.YtflehkbalnikiaaImL
import Derived.Test.YtflehkbalnikiaaRds
import Derived.Test.YtflehkbalnikiaaImV
import Derived.Test.YtflehkbalnikiaaProg
import Derived.WalkKit
import Derived.ProofKit
import Derived.OpenShut
import Derived.WalkLawsBesides
import Derived.WalkSpells
import Derived.ShutString
import Derived.ChangeOld
import Derived.Below
import Derived.Lib.Hide
import Derived.BigQuiet
import Derived.Deep.QuietTactic
import Derived.Maps.AppendAt
import Derived.Deep.OwnRows
import Derived.Handy
import Derived.Deep.Draws
import Derived.OwnWalk
import Derived.Deep.AppendLies
import Derived.Deep.LoopGhost
import Derived.Deep.Onto
import Derived.Laws.BitsAllLaws
import Derived.Lib.QuoteBits
import Derived.Test.YtflehkbalnikiaaShelf
import Derived.Laws.CopyOwn
import Derived.Deep.RegionLaw
import Derived.Deep.RegionHeld3
import Derived.Deep.DeepCutAuto
import Derived.Great.BuildSlice
import Derived.Deep.MidRow
import Derived.Deep.WholeRow
import Derived.Laws.AppendOwn
namespace Go.Proofs.Ytflehkbalnikiaa
open Go.RowKit
/-- The result is written whole into its variable. -/
theorem ans_set {w W : World} {lo b n : Nat} {X Y : Int} {A : Option Addr} {c : Nat} {L : List Int} (h : W.ownsRow lo 3 1 (.slice A n c) n (intCells L)) (hn : L.length = n) (hb1 : w.heap.size ≤ b) (hb2 : b < lo) (K : Below w.heap.size w W) :
    ImAns X Y L w (.returned (.agg #[.int .i64 X, .int .i64 Y, .slice A n c])) (((W.setCell ⟨b, 0, none⟩ (.int .i64 X)).setCell ⟨b, 1, none⟩ (.int .i64 Y)).setCell ⟨b, 2, none⟩ (.slice A n c)) := by
  subst hn
  have hlt := fun g hg => (h.lt g hg).1
  exact ⟨_, rfl, ownI_far (ownI_far (ownI_far (h.mono (by omega)) (fun g hg => by have := hlt g hg; dsimp only; omega) _) (fun g hg => by have := hlt g hg; dsimp only; omega) _) (fun g hg => by have := hlt g hg; dsimp only; omega) _, ((K.setCell hb1 _).setCell hb1 _).setCell hb1 _⟩
theorem cell_grown {W V : World} {g o : Nat} {v : Value} {row : Option Nat} (h : W.cell? ⟨g, o, none⟩ = some v) (hg : W.grownBy V row) (hr : some g ≠ row) : V.cell? ⟨g, o, none⟩ = some v :=
  (World.cell?_of_block (hg.block g (World.block_lt_of_cell? W _ h) hr)).trans h
theorem grown_setI (w : World) (g o : Nat) (v : Value) : w.grownBy (w.setCell ⟨g, o, none⟩ v) (some g) :=
  ⟨rfl, rfl, rfl, by simp, fun k _ hk => Below.heap_setCell w ⟨g, o, none⟩ v k (fun e => hk (by rw [e]))⟩
theorem rd_block {w : World} {u : Value} {F : List Int} (h : RdI w u F) (h0 : 0 < F.length) : ∃ g c, u = .slice (some ⟨g, 0, none⟩) F.length c ∧ g < w.heap.size ∧ F.length ≤ c := by
  rcases h with ⟨_, rfl⟩ | ⟨g, c, rfl, hm, hlc, hc⟩
  · simp at h0
  · exact ⟨g, c, rfl, World.block_lt_of_cell? w _ (hc 0 _ (List.getElem?_eq_getElem h0)), hlc⟩
end Go.Proofs.Ytflehkbalnikiaa
