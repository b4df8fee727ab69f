/- PictureOf's contracts in the uniform form. No statement is proved here. -/
import Derived.Test.YtflehkbalnikiaaImR
import Derived.Test.YtflehkbalnikiaaRep
import Derived.Test.YtflehkbalnikiaaVar
import Derived.Test.YtflehkbalnikiaaPixM
import Derived.Test.YtflehkbalnikiaaSfM
import Derived.Test.YtflehkbalnikiaaMA
import Derived.Test.YtflehkbalnikiaaImN
import Derived.Test.YtflehkbalnikiaaLk
import Derived.Test.YtflehkbalnikiaaSfP
import Derived.Test.YtflehkbalnikiaaProg
import Derived.WalkKit
import Derived.ProofKit
import Derived.OpenShut
import Derived.WalkLawsBesides
import Derived.WalkSpells
import Derived.ShutString
import Derived.ChangeOld
import Derived.Below
import Derived.Lib.Hide
import Derived.BigQuiet
import Derived.Deep.QuietTactic
import Derived.Maps.AppendAt
import Derived.Deep.OwnRows
import Derived.Handy
import Derived.Deep.Draws
import Derived.OwnWalk
import Derived.Deep.AppendLies
import Derived.Deep.LoopGhost
import Derived.Deep.Onto
import Derived.Deep.MidRow
import Derived.Deep.WholeRow
import Derived.Laws.BitsAllLaws
import Derived.Lib.QuoteBits
import Derived.Deep.RegionHeld3
import Derived.Deep.DeepCutAuto
import Derived.Test.YtflehkbalnikiaaShelf
import Derived.Laws.CopyOwn
import Derived.Deep.RegionLaw
import Derived.Great.BuildSlice
import Derived.Laws.AppendOwn
import Derived.ChangeKeysEq
namespace Go.Proofs.Ytflehkbalnikiaa
open Go.RowKit
def ImK (I : Im) (w : World) (e : Ending) (w' : World) : Prop := ∃ u bs, e = .returned (.agg #[.int .i64 I.w, .int .i64 I.h, u]) ∧ repIm.Own w.heap.size w' I [.int .i64 I.w, .int .i64 I.h, u] bs ∧ Below w.heap.size w w'
theorem imK {I : Im} {w : World} {e : Ending} {w' : World} (h : AnsIm I w e w') : ImK I w e w' := by
  obtain ⟨u, he, ho, hb⟩ := h
  have h := ints_own ho
  exact ⟨u, _, he, ⟨⟨u, rfl, h.r⟩, h.nd, h.lo⟩, hb⟩
theorem picS' (f : Sf) (d : Value) (w : World) (hv : RdI w d f.data) : Calls Try.prog 30 #[.agg #[.int .i64 f.id, .int .i64 f.x, .int .i64 f.y, .int .i64 f.w, .int .i64 f.h, .int .i64 f.alpha, .int .i64 f.orient, .bool f.vis, .int .i64 f.bw, .int .i64 f.bh, d]] w (ImK (sfPic f) w) := (picS f d w hv).mono fun _ _ h => imK h
theorem picI' (f : Sf) (d : Value) (w : World) (hv : RdI w d f.data) : Calls Try.prog 31 #[.agg #[.int .i64 f.id, .int .i64 f.x, .int .i64 f.y, .int .i64 f.w, .int .i64 f.h, .int .i64 f.alpha, .int .i64 f.orient, .bool f.vis, .int .i64 f.bw, .int .i64 f.bh, d]] w (ImK (sfPic f) w) := (picI f d w hv).mono fun _ _ h => imK h
end Go.Proofs.Ytflehkbalnikiaa
