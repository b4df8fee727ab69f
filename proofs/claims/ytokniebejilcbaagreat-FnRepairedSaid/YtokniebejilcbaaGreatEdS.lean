/- The contract of DoEdit of the model. No statement is proved here. -/
import Derived.Test.YtokniebejilcbaaGreatMA
import Derived.Test.YtokniebejilcbaaGreatMC
import Derived.Test.YtokniebejilcbaaGreatMB
import Derived.Test.YtokniebejilcbaaGreatEdW
import Derived.Test.YtokniebejilcbaaGreatEdSa
import Derived.Test.YtokniebejilcbaaGreatEdSb
import Derived.Test.YtokniebejilcbaaGreatEdSc
import Derived.Test.YtokniebejilcbaaGreatProg
import Derived.WalkKit
import Derived.ProofKit
import Derived.OpenShut
import Derived.WalkLawsBesides
import Derived.WalkSpells
import Derived.ShutString
import Derived.ChangeOld
import Derived.Below
import Derived.Lib.Hide
import Derived.BigQuiet
import Derived.Deep.QuietTactic
import Derived.Maps.AppendAt
import Derived.Deep.OwnRows
import Derived.Handy
import Derived.Deep.Draws
import Derived.OwnWalk
import Derived.Deep.AppendLies
import Derived.Deep.LoopGhost
import Derived.Deep.Onto
import Derived.Deep.MidRow
import Derived.Deep.WholeRow
import Derived.Laws.BitsAllLaws
import Derived.Lib.QuoteBits
import Derived.Deep.RegionHeld3
import Derived.Deep.DeepCutAuto
import Derived.Test.YtokniebejilcbaaGreatShelf
import Derived.Laws.CopyOwn
import Derived.Deep.RegionLaw
import Derived.Great.BuildSlice
import Derived.Shelf.RegionOpenPlain
import Derived.Lib.SliceRun
import Derived.Deep.RegionWith
import Derived.Laws.AppendOwn
import Derived.Deep.CutBlock
namespace Go.Proofs.YtokniebejilcbaaGreat
open Go.RowKit
theorem doeS (s : Sn) (e : Ed) (v d : Value) (bs bd : List Nat) (w : World) (hm : sizFs s.fs ≤ 1048576) (hme : e.data.length ≤ 1048576) (h : repSfs.R w s.fs [v] bs) (hd : repInts.R w e.data [d] bd) :
  Calls Tryz.prog 64 #[.agg #[.int .i64 s.w, .int .i64 s.h, .int .i64 s.back, v], .agg #[.int .i64 e.kind, .int .i64 e.id, .int .i64 e.a, .int .i64 e.b, .int .i64 e.bw, .int .i64 e.bh, d]] w (EdAnsS s e w) := by
 by_cases ha : (e.kind = 0 ∨ e.kind = 1 ∨ e.kind = 2 ∨ e.kind = 6 ∨ e.kind = 10)
 ·exact doeS_a s e v d bs bd w ha hm hme h hd
 ·by_cases hb : (e.kind = 3 ∨ e.kind = 4 ∨ e.kind = 5 ∨ e.kind = 8)
  ·exact doeS_b s e v d bs bd w hb hm hme h hd
  ·exact doeS_c s e v d bs bd w (fun hc => hc.elim ha hb) hm hme h hd
end Go.Proofs.YtokniebejilcbaaGreat
