/- The contracts of impl.rightOf, impl.bottomOf, impl.Intersect. No statement is proved here. -/
import Derived.Test.YtfehdcenmncbpaaRectC
import Derived.Test.YtfehdcenmncbpaaBlk4
import Derived.Test.YtfehdcenmncbpaaProg
import Derived.WalkKit
import Derived.ProofKit
import Derived.OpenShut
import Derived.WalkLawsBesides
import Derived.WalkSpells
import Derived.ShutString
import Derived.ChangeOld
import Derived.Below
import Derived.Lib.Hide
import Derived.Deep.RegionHeld3
import Derived.Deep.DeepCutAuto
namespace Go.Proofs.Ytfehdcenmncbpaa
open Go.RowKit
theorem bcell {W w1 : World} (hb : Below W.heap.size W w1) : (∀ b o, b < W.heap.size → w1.cell? ⟨b, o, none⟩ = W.cell? ⟨b, o, none⟩) ∧ (∀ b o, b < W.heap.size → w1.frozen? ⟨b, o, none⟩ = W.frozen? ⟨b, o, none⟩) :=
  ⟨fun b o h => hb.cell (p := ⟨b, o, none⟩) h, fun b o h => hb.frozen (p := ⟨b, o, none⟩) h⟩
theorem rightOf_any (r : Rc) (hr : r.ok) (w : World) :
    Calls Try.prog 98 #[.agg #[.int .i64 r.x, .int .i64 r.y, .int .i64 r.w, .int .i64 r.h]] w fun e w' => e = .returned (.int .i64 (r.x + r.w)) ∧ w.alloc (.cells #[.int .i64 r.x, .int .i64 r.y, .int .i64 r.w, .int .i64 r.h] 65) = w' := by
  obtain ⟨h1, h2, h3, h4, h5, h6, h7, h8⟩ := hr
  go_enter Try.func98, Try.ntmps98
  go_wp2
  go_ret
  exact ⟨rfl, rfl⟩
theorem bottomOf_any (r : Rc) (hr : r.ok) (w : World) :
    Calls Try.prog 87 #[.agg #[.int .i64 r.x, .int .i64 r.y, .int .i64 r.w, .int .i64 r.h]] w fun e w' => e = .returned (.int .i64 (r.y + r.h)) ∧ w.alloc (.cells #[.int .i64 r.x, .int .i64 r.y, .int .i64 r.w, .int .i64 r.h] 65) = w' := by
  obtain ⟨h1, h2, h3, h4, h5, h6, h7, h8⟩ := hr
  go_enter Try.func87, Try.ntmps87
  go_wp2
  go_ret
  exact ⟨rfl, rfl⟩
end Go.Proofs.Ytfehdcenmncbpaa
