/- Texts of mine in one file: PlH. No statement is proved here. -/
import Derived.Test.YtdgagooldlnpeaaGreatMA
import Derived.Test.YtdgagooldlnpeaaGreatB1sav013
import Derived.Test.YtdgagooldlnpeaaGreatMB
import Derived.Test.YtdgagooldlnpeaaGreatProg
import Derived.WalkKit
import Derived.ProofKit
import Derived.OpenShut
import Derived.WalkLawsBesides
import Derived.WalkSpells
import Derived.ShutString
import Derived.ChangeOld
import Derived.Below
import Derived.Lib.Hide
import Derived.BigQuiet
import Derived.Deep.QuietTactic
import Derived.Maps.AppendAt
import Derived.Deep.OwnRows
import Derived.Handy
import Derived.Deep.Draws
import Derived.OwnWalk
import Derived.Deep.AppendLies
import Derived.Deep.LoopGhost
import Derived.Deep.Onto
import Derived.Deep.MidRow
import Derived.Deep.WholeRow
import Derived.Laws.BitsAllLaws
import Derived.Lib.QuoteBits
import Derived.Deep.RegionHeld3
import Derived.Deep.DeepCutAuto
import Derived.Test.YtdgagooldlnpeaaGreatShelf
import Derived.Laws.CopyOwn
import Derived.Deep.RegionLaw
import Derived.Great.BuildSlice
import Derived.Shelf.RegionOpenPlain
import Derived.Lib.SliceRun
import Derived.Deep.RegionWith
import Derived.Laws.AppendOwn
namespace Go.Proofs.YtdgagooldlnpeaaGreat
open Go.RowKit
theorem PlE.rd {w : World} {p : Pl} {u d : Value} (h : PlE w p u d) : RdR w u p.2 := RdR.of_own h.r
theorem HalfP.rd {B : Nat} {w : World} {M : List Pl} {v : Value} {bs : List Nat} (h : HalfP B w M v bs) : RdP w v M := by
 obtain ⟨⟨A, c, rfl⟩, hm⟩ := repPls_form h.r
 refine ⟨hm, A, c, rfl, fun k p hk => ?_⟩
 obtain ⟨g, p', u, d, e, h1, h2, h3, _⟩ := h.at_ (List.getElem?_eq_some_iff.1 hk).1
 obtain rfl : p' = p := Option.some.inj (h1.symm.trans hk)
 exact ⟨g, 0, u, d, e, by rw [Nat.zero_add]; exact h2, h3⟩
end Go.Proofs.YtdgagooldlnpeaaGreat
