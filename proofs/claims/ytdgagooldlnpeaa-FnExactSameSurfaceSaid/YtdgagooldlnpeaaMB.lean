/- Texts of mine in one file: Lk, SnM. No statement is proved here. -/
import Derived.Test.YtdgagooldlnpeaaMA
import Derived.Test.YtdgagooldlnpeaaProg
import Derived.WalkKit
import Derived.ProofKit
import Derived.OpenShut
import Derived.WalkLawsBesides
import Derived.WalkSpells
import Derived.ShutString
import Derived.ChangeOld
import Derived.Below
import Derived.Lib.Hide
import Derived.BigQuiet
import Derived.Deep.QuietTactic
import Derived.Maps.AppendAt
import Derived.Deep.OwnRows
import Derived.Handy
import Derived.Deep.Draws
import Derived.OwnWalk
import Derived.Deep.AppendLies
import Derived.Deep.LoopGhost
import Derived.Deep.Onto
import Derived.Deep.MidRow
import Derived.Deep.WholeRow
import Derived.Laws.BitsAllLaws
import Derived.Lib.QuoteBits
import Derived.Deep.RegionHeld3
import Derived.Deep.DeepCutAuto
import Derived.Test.YtdgagooldlnpeaaShelf
import Derived.Laws.CopyOwn
import Derived.Deep.RegionLaw
import Derived.Great.BuildSlice
namespace Go.Proofs.Ytdgagooldlnpeaa
open Go.RowKit
theorem ints_form {w : World} {L : List Int} {d : Value} {bs : List Nat} (h : repInts.R w L [d] bs) : (∃ A c, d = .slice A L.length c) ∧ RdI w d L := ⟨(repInts_rd h).form, repInts_rd h⟩
theorem ints_own {w w0 : World} {L : List Int} {d : Value} (h : w.ownsRow w0.heap.size 3 1 d L.length (intCells L)) : repInts.Own w0.heap.size w L [d] d.ownBlock.toList := repInts_own h
theorem r_sf {w : World} {f : Sf} {d : Value} {bs : List Nat} (h : repSf.R w f [.int .i64 f.id, .int .i64 f.x, .int .i64 f.y, .int .i64 f.w, .int .i64 f.h, .int .i64 f.alpha, .int .i64 f.orient, .bool f.vis, .int .i64 f.bw, .int .i64 f.bh, d] bs) : repInts.R w f.data [d] bs := by
 obtain ⟨d', e, h⟩ := h
 have e2 : d = d' := by simpa [sfCells] using e
 subst e2
 exact h
end Go.Proofs.Ytdgagooldlnpeaa
namespace Go.Proofs.Ytdgagooldlnpeaa
open Go.RowKit
def wkSn : Wk Sn where
 R := fun w s vs => ∃ v, vs = snCells s v ∧ wkSfs.R w s.fs [v]
 call := by rintro w w' f vs ⟨d, rfl, h⟩ hb; exact ⟨d, rfl, wkSfs.call h hb⟩
def wkEds : Wk (List Ed) := wkSl wkEd 7
section
variable {α : Type} {M L : List α} {k : Nat}
end
end Go.Proofs.Ytdgagooldlnpeaa
