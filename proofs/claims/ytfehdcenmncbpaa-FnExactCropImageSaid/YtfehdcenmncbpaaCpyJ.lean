/- The contract of the program's CopyRegion. No statement is proved here. -/
import Derived.Test.YtfehdcenmncbpaaRd
import Derived.Test.YtfehdcenmncbpaaIntR
import Derived.Test.YtfehdcenmncbpaaImR
import Derived.Test.YtfehdcenmncbpaaPixM
import Derived.Test.YtfehdcenmncbpaaImV
import Derived.Test.YtfehdcenmncbpaaHasC
import Derived.Test.YtfehdcenmncbpaaProg
import Derived.WalkKit
import Derived.ProofKit
import Derived.OpenShut
import Derived.WalkLawsBesides
import Derived.WalkSpells
import Derived.ShutString
import Derived.ChangeOld
import Derived.Below
import Derived.Lib.Hide
import Derived.BigQuiet
import Derived.Deep.QuietTactic
import Derived.Maps.AppendAt
import Derived.Deep.OwnRows
import Derived.Handy
import Derived.Deep.Draws
import Derived.OwnWalk
import Derived.Deep.AppendLies
import Derived.Deep.LoopGhost
import Derived.Deep.Onto
import Derived.Laws.BitsAllLaws
import Derived.Lib.QuoteBits
import Derived.Test.YtfehdcenmncbpaaShelf
import Derived.Laws.CopyOwn
import Derived.Deep.RegionLaw
import Derived.Deep.RegionHeld3
import Derived.Deep.DeepCutAuto
import Derived.Great.BuildSlice
import Derived.Deep.MidRow
import Derived.Deep.WholeRow
import Derived.Laws.AppendOwn
namespace Go.Proofs.Ytfehdcenmncbpaa
open Go.RowKit
/-- The cells of a stretch of an image's pixels. -/
theorem span_cells {w W : World} {gu cu off n : Nat} {row : Option Nat} {F : List Int} (h : RdI w (.slice (some ⟨gu, 0, none⟩) F.length cu) F) (hg : w.grownBy W row) (hr : some gu ≠ row) (hf : off + n ≤ F.length) :
    ∀ j v, (intCells (tabI n (fun i => F.getD (off + i) 0)))[j]? = some v → W.cell? ((⟨gu, off, none⟩ : Addr).add j) = some v := by
  intro j v hv
  rw [intCells_get] at hv
  obtain ⟨x, hx, rfl⟩ := Option.map_eq_some_iff.1 hv
  have hj : j < n := by have := (List.getElem?_eq_some_iff.1 hx).1; rwa [tabI_length] at this
  rw [tabI_get n _ j hj] at hx
  injection hx with hx
  obtain ⟨g', x', e, hx', hc⟩ := h.at_ (k := off + j) (by omega)
  injection e with e
  injection e with e
  subst e
  have he : (⟨gu, off, none⟩ : Addr).add j = ⟨gu, off + j, none⟩ := by unfold Addr.add; split <;> simp_all
  rw [he, ← hx, List.getD_eq_getElem?_getD, hx']
  exact (World.cell?_of_block (hg.block gu (World.block_lt_of_cell? w _ hc) hr)).trans hc
end Go.Proofs.Ytfehdcenmncbpaa
