/- The contract of ChainOk of the program. No statement is proved here. -/
import Derived.Test.YtnndifemkichmaaMA
import Derived.Test.YtnndifemkichmaaMB
import Derived.Test.YtnndifemkichmaaChM
import Derived.Test.YtnndifemkichmaaIsE
import Derived.Test.YtnndifemkichmaaSlE
import Derived.Test.YtnndifemkichmaaChL
import Derived.Test.YtnndifemkichmaaChO
import Derived.Test.YtnndifemkichmaaProg
import Derived.WalkKit
import Derived.ProofKit
import Derived.OpenShut
import Derived.WalkLawsBesides
import Derived.WalkSpells
import Derived.ShutString
import Derived.ChangeOld
import Derived.Below
import Derived.Lib.Hide
import Derived.BigQuiet
import Derived.Deep.QuietTactic
import Derived.Maps.AppendAt
import Derived.Deep.OwnRows
import Derived.Handy
import Derived.Deep.Draws
import Derived.OwnWalk
import Derived.Deep.AppendLies
import Derived.Deep.LoopGhost
import Derived.Deep.Onto
import Derived.Deep.MidRow
import Derived.Deep.WholeRow
import Derived.Laws.BitsAllLaws
import Derived.Lib.QuoteBits
import Derived.Deep.RegionHeld3
import Derived.Deep.DeepCutAuto
import Derived.Test.YtnndifemkichmaaShelf
import Derived.Laws.CopyOwn
import Derived.Deep.RegionLaw
import Derived.Great.BuildSlice
import Derived.Laws.AppendOwn
namespace Go.Proofs.Ytnndifemkichmaa
open Go.RowKit
structure CnA (w : World) (f : Ch) (a b e d : Value) (bs : List Nat) (W : World) : Prop where
 at_ : BkAt W w.heap.size 38 #[a, b, e, .int .i64 f.s.w, .int .i64 f.s.h, .int .i64 f.s.back, d]
 r : repCh.R W f [a, b, e, .int .i64 f.s.w, .int .i64 f.s.h, .int .i64 f.s.back, d] bs
 bw : Below w.heap.size w W
section
variable {w : World} {f : Ch} {a b e d : Value} {bs : List Nat} {W W' : World}
theorem CnA.call (h : CnA w f a b e d bs W) (hb : Below W.heap.size W W') : CnA w f a b e d bs W' := ⟨h.at_.call hb, Rep.call h.r hb, belI_call h.bw hb⟩
theorem CnA.born (h : repCh.R w f [a, b, e, .int .i64 f.s.w, .int .i64 f.s.h, .int .i64 f.s.back, d] bs) : CnA w f a b e d bs (w.alloc (.cells #[a, b, e, .int .i64 f.s.w, .int .i64 f.s.h, .int .i64 f.s.back, d] 38)) :=
 ⟨BkAt.new _ _ _, Rep.call h (belI_box _ _), belI_box _ _⟩
theorem CnA.cells (h : CnA w f a b e d bs W) : W.cell? ⟨w.heap.size, 0, none⟩ = some a ∧ W.cell? ⟨w.heap.size, 1, none⟩ = some b ∧ W.cell? ⟨w.heap.size, 2, none⟩ = some e ∧ W.cell? ⟨w.heap.size, 3, none⟩ = some (.int .i64 f.s.w) ∧ W.cell? ⟨w.heap.size, 4, none⟩ = some (.int .i64 f.s.h) ∧ W.cell? ⟨w.heap.size, 5, none⟩ = some (.int .i64 f.s.back) ∧ W.cell? ⟨w.heap.size, 6, none⟩ = some d :=
 ⟨h.at_.cell 0 rfl, h.at_.cell 1 rfl, h.at_.cell 2 rfl, h.at_.cell 3 rfl, h.at_.cell 4 rfl, h.at_.cell 5 rfl, h.at_.cell 6 rfl⟩
theorem CnA.i (h : CnA w f a b e d bs W) : ∃ b1, repIms.R W f.ims [a] b1 := by obtain ⟨b1, b2, b3, b4, h1, h2, h3, h4, _⟩ := r_cn h.r; exact ⟨_, h1⟩
theorem CnA.g (h : CnA w f a b e d bs W) : RdI W b f.ages := by obtain ⟨b1, b2, b3, b4, h1, h2, h3, h4, _⟩ := r_cn h.r; exact repInts_rd h2
theorem CnA.r' (h : CnA w f a b e d bs W) : ∃ b3, repRgs.R W f.rgs [e] b3 := by obtain ⟨b1, b2, b3, b4, h1, h2, h3, h4, _⟩ := r_cn h.r; exact ⟨_, h3⟩
end
def CnOkAns (f : Ch) (w : World) (e : Ending) (w' : World) : Prop := e = .returned (.bool (cnB f)) ∧ Below w.heap.size w w'
end Go.Proofs.Ytnndifemkichmaa
