/- The pixels of an image with a rectangle filled; a slice of one rectangle is built. No statement is proved here. -/
import Derived.Test.YtfehdcenmncbpaaRd
import Derived.Test.YtfehdcenmncbpaaIntR
import Derived.Test.YtfehdcenmncbpaaImR
import Derived.Test.YtfehdcenmncbpaaRectC
import Derived.Test.YtfehdcenmncbpaaPixM
import Derived.Test.YtfehdcenmncbpaaImV
import Derived.Test.YtfehdcenmncbpaaBlk4
import Derived.Test.YtfehdcenmncbpaaHasC
import Derived.Test.YtfehdcenmncbpaaRectEq
import Derived.Test.YtfehdcenmncbpaaRds
import Derived.Test.YtfehdcenmncbpaaProg
import Derived.WalkKit
import Derived.ProofKit
import Derived.OpenShut
import Derived.WalkLawsBesides
import Derived.WalkSpells
import Derived.ShutString
import Derived.ChangeOld
import Derived.Below
import Derived.Lib.Hide
import Derived.BigQuiet
import Derived.Deep.QuietTactic
import Derived.Maps.AppendAt
import Derived.Deep.OwnRows
import Derived.Handy
import Derived.Deep.Draws
import Derived.OwnWalk
import Derived.Deep.AppendLies
import Derived.Deep.LoopGhost
import Derived.Deep.Onto
import Derived.Laws.BitsAllLaws
import Derived.Lib.QuoteBits
import Derived.Test.YtfehdcenmncbpaaShelf
import Derived.Laws.CopyOwn
import Derived.Deep.RegionLaw
import Derived.Deep.RegionHeld3
import Derived.Deep.DeepCutAuto
import Derived.Great.BuildSlice
import Derived.Deep.MidRow
import Derived.Deep.WholeRow
import Derived.Laws.AppendOwn
namespace Go.Proofs.Ytfehdcenmncbpaa
open Go.RowKit
/-- The variables of FillRect: the image, the rectangle. -/
structure FlA (w : World) (X Y : Int) (v : Value) (r : Rc) (W : World) : Prop where
  a : ImAt W w.heap.size 46 X Y v
  b : RcAt W (w.heap.size + 1) r
  bw : Below w.heap.size w W
theorem FlA.call {w : World} {X Y : Int} {v : Value} {r : Rc} {W W' : World} (h : FlA w X Y v r W) (k : Below W.heap.size W W') : FlA w X Y v r W' :=
  ⟨h.a.call k, h.b.below k h.b.lt, belI_call h.bw k⟩
theorem FlA.grown {w : World} {X Y : Int} {v : Value} {r : Rc} {W W' : World} {g : Nat} (h : FlA w X Y v r W) (hg : W.grownBy W' (some g)) (hk : w.heap.size + 2 ≤ g) : FlA w X Y v r W' :=
  ⟨h.a.grown hg (by simp; omega), (hg.block _ h.b.lt (by simp; omega)).trans h.b, h.bw.grown hg h.bw.size (fun k hk => by injection hk with hk; omega)⟩
theorem FlA.born (w : World) (X Y : Int) (v : Value) (r : Rc) :
    FlA w X Y v r (((w.alloc (.cells #[.int .i64 X, .int .i64 Y, v] 46)).alloc (.cells #[.int .i64 r.x, .int .i64 r.y, .int .i64 r.w, .int .i64 r.h] 65)).alloc (.cells #[.int .i64 0, .int .i64 0, .slice none 0 0] 46)) :=
  ⟨((ImAt.new w _ _ _ _).alloc _).alloc _, (RcAt.newAt (w := w.alloc (.cells #[.int .i64 X, .int .i64 Y, v] 46)) (by simp) r).alloc _, belI_call (belI_call (belI_box _ _) (belI_box _ _)) (belI_box _ _)⟩
theorem fl_res (w : World) (X Y : Int) (v : Value) (r : Rc) :
    ImAt (((w.alloc (.cells #[.int .i64 X, .int .i64 Y, v] 46)).alloc (.cells #[.int .i64 r.x, .int .i64 r.y, .int .i64 r.w, .int .i64 r.h] 65)).alloc (.cells #[.int .i64 0, .int .i64 0, .slice none 0 0] 46)) (w.heap.size + 2) 46 0 0 (.slice none 0 0) :=
  ImAt.newAt (w := (w.alloc (.cells #[.int .i64 X, .int .i64 Y, v] 46)).alloc (.cells #[.int .i64 r.x, .int .i64 r.y, .int .i64 r.w, .int .i64 r.h] 65)) (by simp) _ _ _ _
end Go.Proofs.Ytfehdcenmncbpaa
