/- Slices of rectangles: their cells, what a slice reads. No statement is proved here. -/
import Derived.Test.YtmffbjicjpgimaaBlk4
import Derived.Test.YtmffbjicjpgimaaProg
import Derived.WalkKit
import Derived.ProofKit
import Derived.OpenShut
import Derived.WalkLawsBesides
import Derived.WalkSpells
import Derived.ShutString
import Derived.ChangeOld
import Derived.Below
import Derived.Lib.Hide
import Derived.BigQuiet
import Derived.Deep.QuietTactic
import Derived.Maps.AppendAt
import Derived.Deep.Draws
namespace Go.Proofs.Ytmffbjicjpgimaa
open Go.RowKit
theorem RcAt.cells4 {w : World} {g : Nat} {x y u v : Int} (h : RcAt w g ⟨x, y, u, v⟩) :
    w.cell? ⟨g, 0, none⟩ = some (.int .i64 x) ∧ w.cell? ⟨g, 1, none⟩ = some (.int .i64 y) ∧ w.cell? ⟨g, 2, none⟩ = some (.int .i64 u) ∧ w.cell? ⟨g, 3, none⟩ = some (.int .i64 v) := h.cells
end Go.Proofs.Ytmffbjicjpgimaa
