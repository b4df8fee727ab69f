/- The contracts of NewImage, of the program and of its model. No statement is proved here. -/
import Derived.Test.YtflehkbalnikiaaPixM
import Derived.Test.YtflehkbalnikiaaImL
import Derived.Test.YtflehkbalnikiaaProg
import Derived.WalkKit
import Derived.ProofKit
import Derived.OpenShut
import Derived.WalkLawsBesides
import Derived.WalkSpells
import Derived.ShutString
import Derived.ChangeOld
import Derived.Below
import Derived.Lib.Hide
import Derived.BigQuiet
import Derived.Deep.QuietTactic
import Derived.Maps.AppendAt
import Derived.Deep.OwnRows
import Derived.Handy
import Derived.Deep.Draws
import Derived.OwnWalk
import Derived.Deep.AppendLies
import Derived.Deep.LoopGhost
import Derived.Deep.Onto
import Derived.Laws.BitsAllLaws
import Derived.Lib.QuoteBits
import Derived.Test.YtflehkbalnikiaaShelf
import Derived.Laws.CopyOwn
import Derived.Deep.RegionLaw
import Derived.Deep.RegionHeld3
import Derived.Deep.DeepCutAuto
import Derived.Great.BuildSlice
namespace Go.Proofs.Ytflehkbalnikiaa
open Go.RowKit
/-- An image: its numbers and its pixels. -/
structure Im where
  w : Int
  h : Int
  d : List Int
def zeroIm : Im := ⟨0, 0, []⟩
/-- What answers the image I. -/
def AnsIm (I : Im) (w : World) (e : Ending) (w' : World) : Prop := ImAns I.w I.h I.d w e w'
theorem zeroIm_ans {w w' : World} (hb : Below w.heap.size w w') : AnsIm zeroIm w (.returned (.agg #[.int .i64 0, .int .i64 0, .slice none 0 0])) w' :=
  ⟨_, rfl, World.ownsRow_nil _ _ _ _, hb⟩
end Go.Proofs.Ytflehkbalnikiaa
