/- Texts of mine in one file: PnP. No statement is proved here. -/
import Derived.Test.YtdgagooldlnpeaaGreatMA
import Derived.Test.YtdgagooldlnpeaaGreatMC
import Derived.Test.YtdgagooldlnpeaaGreatB2sa
import Derived.Test.YtdgagooldlnpeaaGreatMB
import Derived.Test.YtdgagooldlnpeaaGreatPnI
import Derived.Test.YtdgagooldlnpeaaGreatSfP
import Derived.Test.YtdgagooldlnpeaaGreatSnS
import Derived.Test.YtdgagooldlnpeaaGreatProg
import Derived.WalkKit
import Derived.ProofKit
import Derived.OpenShut
import Derived.WalkLawsBesides
import Derived.WalkSpells
import Derived.ShutString
import Derived.ChangeOld
import Derived.Below
import Derived.Lib.Hide
import Derived.BigQuiet
import Derived.Deep.QuietTactic
import Derived.Maps.AppendAt
import Derived.Deep.OwnRows
import Derived.Handy
import Derived.Deep.Draws
import Derived.OwnWalk
import Derived.Deep.AppendLies
import Derived.Deep.LoopGhost
import Derived.Deep.Onto
import Derived.Deep.MidRow
import Derived.Deep.WholeRow
import Derived.Laws.BitsAllLaws
import Derived.Lib.QuoteBits
import Derived.Deep.RegionHeld3
import Derived.Deep.DeepCutAuto
import Derived.Test.YtdgagooldlnpeaaGreatShelf
import Derived.Laws.CopyOwn
import Derived.Deep.RegionLaw
import Derived.Great.BuildSlice
import Derived.Laws.AppendOwn
import Derived.ChangeKeysEq
import Derived.Deep.RegionWith
import Derived.Shelf.RegionOpenPlain
import Derived.Lib.SliceRun
import Derived.Deep.DeepAppendRoom
namespace Go.Proofs.YtdgagooldlnpeaaGreat
open Go.RowKit
structure PnZ (w : World) (s : Sn) (v : Value) (bs : List Nat) (V : World) : Prop where
 a : SnA w.heap.size s v bs V
 r : ImAt V (w.heap.size + 1) 55 0 0 (.slice none 0 0)
 bw : Below w.heap.size w V
theorem PnZ.call {w : World} {s : Sn} {v : Value} {bs : List Nat} {V V' : World} (h : PnZ w s v bs V) (hb : Below V.heap.size V V') : PnZ w s v bs V' := ⟨h.a.call hb, h.r.call hb, belI_call h.bw hb⟩
theorem PnZ.born {w : World} {s : Sn} {v : Value} {bs : List Nat} (h : repSfs.R w s.fs [v] bs) : PnZ w s v bs ((w.alloc (.cells #[.int .i64 s.w, .int .i64 s.h, .int .i64 s.back, v] 34)).alloc (.cells #[.int .i64 0, .int .i64 0, .slice none 0 0] 55)) :=
 ⟨(SnA.born h).call (belI_box _ _), ImAt.newAt (by simp) _ _ _ _, belI_call (belI_box _ _) (belI_box _ _)⟩
end Go.Proofs.YtdgagooldlnpeaaGreat
