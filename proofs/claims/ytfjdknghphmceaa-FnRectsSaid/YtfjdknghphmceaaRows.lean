/-
  No cell of these rows narrows 'for every input' (looked for: loops, veiled, ifaces, maps, wideKeys, modest, calm, conditions, laid).
  DERIVED. THE GIVEN ROWS OF THIS SEAT. 7 by the template 'for every input the law returns true; each argument reads behind the call as it read before'; 0 by the template 'total and deterministic' (their statements: YtfjdknghphmceaaTotals.lean).
  GIVEN WITH THE SEED: the statements are not yours to turn. If you find one false, say at which input.
  Laid BY PROGRAM, IN A SANDBOX (cutbox-rows.mjs): the forced cells as the released guide's own fill.sh prints them over the translation 94e78ffce5011cf2… (all of the seat's roots in one cut). By AI agents, Wed Nov 11 2026. No macro, syntax, notation, axiom, sorry.
-/
import Derived.Test.YtfjdknghphmceaaChecked
import GoSem.Claim
import GoSem.ClaimJoined
import GoSem.ClaimMapViews
import Derived.JoinedTies
import Derived.KernelRfl
namespace Go.Proofs.Ytfjdknghphmceaa
/- THE CELL 'sum', in the pinned program and in every row, IS THE sha256 OF THE DUMP (.gsa) THAT YtfjdknghphmceaaProg.lean LOADS. Nothing in Lean hashes anything: it is a label: what it is worth is what the hold of that sum in a sandbox is worth. -/
noncomputable def Try.pinned : Pinned := { name := "ytfjdknghphmceaa", sum := "94e78ffce5011cf22bdb21f3cf1ee772e1bd66b14e0b38e7e13bd9bb608f1906", checked := Try.checked }
namespace Rows
def none {H : Type} : Left H := { results := [], args := [] }

/-- 'laws.FnExactRectOk': WHATEVER THE INPUT: true; the input reads as it did. -/
def fnExactRectOkSpec : ChangeSpec := { name := "fnExactRectOk", fn := fun _ => fun
  | [d] => { results := [.lit (.bool true)], args := [d] }
  | _ => none }
def fnExactRectOkRow : OpenClaim := { program := "ytfjdknghphmceaa", sum := "94e78ffce5011cf22bdb21f3cf1ee772e1bd66b14e0b38e7e13bd9bb608f1906", func := "loop.example/g03313/laws.FnExactRectOk", spec := "fnExactRectOk", apart := false }
def FnExactRectOkSaid : Prop := fnExactRectOkRow.holds Try.pinned (OpenSpec.ofChange fnExactRectOkSpec)

/-- ITS FALSE NEIGHBOUR: 'it returns false'. Refute it at one input. -/
def fnExactRectOkWrong : ChangeSpec := { name := "fnExactRectOk", fn := fun _ => fun
  | [d] => { results := [.lit (.bool false)], args := [d] }
  | _ => none }
def FnExactRectOkWrongFalsely : Prop := fnExactRectOkRow.holds Try.pinned (OpenSpec.ofChange fnExactRectOkWrong)

/-- 'laws.FnExactHasPoint': WHATEVER THE INPUT: true; the input reads as it did. -/
def fnExactHasPointSpec : ChangeSpec := { name := "fnExactHasPoint", fn := fun _ => fun
  | [d1, d2, d3] => { results := [.lit (.bool true)], args := [d1, d2, d3] }
  | _ => none }
def fnExactHasPointRow : OpenClaim := { program := "ytfjdknghphmceaa", sum := "94e78ffce5011cf22bdb21f3cf1ee772e1bd66b14e0b38e7e13bd9bb608f1906", func := "loop.example/g03313/laws.FnExactHasPoint", spec := "fnExactHasPoint", apart := false }
def FnExactHasPointSaid : Prop := fnExactHasPointRow.holds Try.pinned (OpenSpec.ofChange fnExactHasPointSpec)

/-- ITS FALSE NEIGHBOUR: 'it returns false'. Refute it at one input. -/
def fnExactHasPointWrong : ChangeSpec := { name := "fnExactHasPoint", fn := fun _ => fun
  | [d1, d2, d3] => { results := [.lit (.bool false)], args := [d1, d2, d3] }
  | _ => none }
def FnExactHasPointWrongFalsely : Prop := fnExactHasPointRow.holds Try.pinned (OpenSpec.ofChange fnExactHasPointWrong)

/-- 'laws.FnExactIntersect': WHATEVER THE INPUT: true; the input reads as it did. -/
def fnExactIntersectSpec : ChangeSpec := { name := "fnExactIntersect", fn := fun _ => fun
  | [d1, d2] => { results := [.lit (.bool true)], args := [d1, d2] }
  | _ => none }
def fnExactIntersectRow : OpenClaim := { program := "ytfjdknghphmceaa", sum := "94e78ffce5011cf22bdb21f3cf1ee772e1bd66b14e0b38e7e13bd9bb608f1906", func := "loop.example/g03313/laws.FnExactIntersect", spec := "fnExactIntersect", apart := false }
def FnExactIntersectSaid : Prop := fnExactIntersectRow.holds Try.pinned (OpenSpec.ofChange fnExactIntersectSpec)

/-- ITS FALSE NEIGHBOUR: 'it returns false'. Refute it at one input. -/
def fnExactIntersectWrong : ChangeSpec := { name := "fnExactIntersect", fn := fun _ => fun
  | [d1, d2] => { results := [.lit (.bool false)], args := [d1, d2] }
  | _ => none }
def FnExactIntersectWrongFalsely : Prop := fnExactIntersectRow.holds Try.pinned (OpenSpec.ofChange fnExactIntersectWrong)

/-- 'laws.FnExactBounds': WHATEVER THE INPUT: true; the input reads as it did. -/
def fnExactBoundsSpec : ChangeSpec := { name := "fnExactBounds", fn := fun _ => fun
  | [d1, d2] => { results := [.lit (.bool true)], args := [d1, d2] }
  | _ => none }
def fnExactBoundsRow : OpenClaim := { program := "ytfjdknghphmceaa", sum := "94e78ffce5011cf22bdb21f3cf1ee772e1bd66b14e0b38e7e13bd9bb608f1906", func := "loop.example/g03313/laws.FnExactBounds", spec := "fnExactBounds", apart := false }
def FnExactBoundsSaid : Prop := fnExactBoundsRow.holds Try.pinned (OpenSpec.ofChange fnExactBoundsSpec)

/-- ITS FALSE NEIGHBOUR: 'it returns false'. Refute it at one input. -/
def fnExactBoundsWrong : ChangeSpec := { name := "fnExactBounds", fn := fun _ => fun
  | [d1, d2] => { results := [.lit (.bool false)], args := [d1, d2] }
  | _ => none }
def FnExactBoundsWrongFalsely : Prop := fnExactBoundsRow.holds Try.pinned (OpenSpec.ofChange fnExactBoundsWrong)

/-- 'laws.FnExactMoved': WHATEVER THE INPUT: true; the input reads as it did. -/
def fnExactMovedSpec : ChangeSpec := { name := "fnExactMoved", fn := fun _ => fun
  | [d1, d2, d3] => { results := [.lit (.bool true)], args := [d1, d2, d3] }
  | _ => none }
def fnExactMovedRow : OpenClaim := { program := "ytfjdknghphmceaa", sum := "94e78ffce5011cf22bdb21f3cf1ee772e1bd66b14e0b38e7e13bd9bb608f1906", func := "loop.example/g03313/laws.FnExactMoved", spec := "fnExactMoved", apart := false }
def FnExactMovedSaid : Prop := fnExactMovedRow.holds Try.pinned (OpenSpec.ofChange fnExactMovedSpec)

/-- ITS FALSE NEIGHBOUR: 'it returns false'. Refute it at one input. -/
def fnExactMovedWrong : ChangeSpec := { name := "fnExactMoved", fn := fun _ => fun
  | [d1, d2, d3] => { results := [.lit (.bool false)], args := [d1, d2, d3] }
  | _ => none }
def FnExactMovedWrongFalsely : Prop := fnExactMovedRow.holds Try.pinned (OpenSpec.ofChange fnExactMovedWrong)

/-- 'laws.FnExactCovers': WHATEVER THE INPUT: true; the input reads as it did. -/
def fnExactCoversSpec : ChangeSpec := { name := "fnExactCovers", fn := fun _ => fun
  | [d1, d2] => { results := [.lit (.bool true)], args := [d1, d2] }
  | _ => none }
def fnExactCoversRow : OpenClaim := { program := "ytfjdknghphmceaa", sum := "94e78ffce5011cf22bdb21f3cf1ee772e1bd66b14e0b38e7e13bd9bb608f1906", func := "loop.example/g03313/laws.FnExactCovers", spec := "fnExactCovers", apart := false }
def FnExactCoversSaid : Prop := fnExactCoversRow.holds Try.pinned (OpenSpec.ofChange fnExactCoversSpec)

/-- ITS FALSE NEIGHBOUR: 'it returns false'. Refute it at one input. -/
def fnExactCoversWrong : ChangeSpec := { name := "fnExactCovers", fn := fun _ => fun
  | [d1, d2] => { results := [.lit (.bool false)], args := [d1, d2] }
  | _ => none }
def FnExactCoversWrongFalsely : Prop := fnExactCoversRow.holds Try.pinned (OpenSpec.ofChange fnExactCoversWrong)

/-- 'laws.FnRects': WHATEVER THE INPUT: true; the input reads as it did. -/
def fnRectsSpec : ChangeSpec := { name := "fnRects", fn := fun _ => fun
  | [d] => { results := [.lit (.bool true)], args := [d] }
  | _ => none }
def fnRectsRow : OpenClaim := { program := "ytfjdknghphmceaa", sum := "94e78ffce5011cf22bdb21f3cf1ee772e1bd66b14e0b38e7e13bd9bb608f1906", func := "loop.example/g03313/laws.FnRects", spec := "fnRects", apart := false }
def FnRectsSaid : Prop := fnRectsRow.holds Try.pinned (OpenSpec.ofChange fnRectsSpec)

/-- ITS FALSE NEIGHBOUR: 'it returns false'. Refute it at one input. -/
def fnRectsWrong : ChangeSpec := { name := "fnRects", fn := fun _ => fun
  | [d] => { results := [.lit (.bool false)], args := [d] }
  | _ => none }
def FnRectsWrongFalsely : Prop := fnRectsRow.holds Try.pinned (OpenSpec.ofChange fnRectsWrong)

/- THE SECOND FORM. 'bulk': how many values and letters a reading holds, each counted each time it is reached (what is shared counts as often as it is met; a slice's spare places count too). A statement '..UptoSaid' is the law's where the arguments, and the package variables that the reading takes, are together of bulk at most 1048576: NARROWER than '..Said'. Prove '..Said' where nothing that the law and all that it calls make is longer than what came in: it says more and counts as full. Else prove '..UptoSaid'. A law counts once. -/
mutual
def uptoBulk {H : Type} : DataW H → Nat
  | .lit (.string bytes) => bytes.length + 1
  | .lit _ => 1
  | .nil => 1
  | .ptr d => uptoBulk d + 1
  | .slice elems spare => uptoBulkAll elems + uptoBulkAll spare + 1
  | .agg parts => uptoBulkAll parts + 1
  | .iface _ d => uptoBulk d + 1
  | .map entries => uptoBulkEntries entries + 1
  | .held _ => 1
def uptoBulkAll {H : Type} : List (DataW H) → Nat
  | [] => 0
  | d :: r => uptoBulk d + uptoBulkAll r
def uptoBulkEntries {H : Type} : List (Lit × DataW H) → Nat
  | [] => 0
  | x :: r => uptoBulkEntry x + uptoBulkEntries r
def uptoBulkEntry {H : Type} : Lit × DataW H → Nat
  | (.string bytes, d) => bytes.length + uptoBulk d + 1
  | (_, d) => uptoBulk d + 1
 end
def uptoSmall : (H : Type) → List (DataW H) → Bool := fun _ ds => decide (uptoBulkAll ds ≤ 1048576)
def OpenSpec.upto (s : _root_.Go.ChangeSpec) : _root_.Go.OpenSpec := { _root_.Go.OpenSpec.ofChange s with cond := some uptoSmall }

/-- 'laws.FnExactRectOk', WHERE WHAT IT READS IS OF BULK AT MOST 1048576: true; the input reads as it did. -/
def fnExactRectOkUptoRow : OpenClaim := { program := "ytfjdknghphmceaa", sum := "94e78ffce5011cf22bdb21f3cf1ee772e1bd66b14e0b38e7e13bd9bb608f1906", func := "loop.example/g03313/laws.FnExactRectOk", spec := "fnExactRectOk", apart := false, narrowed := true }
def FnExactRectOkUptoSaid : Prop := fnExactRectOkUptoRow.holds Try.pinned (OpenSpec.upto fnExactRectOkSpec)

/-- 'laws.FnExactHasPoint', WHERE WHAT IT READS IS OF BULK AT MOST 1048576: true; the input reads as it did. -/
def fnExactHasPointUptoRow : OpenClaim := { program := "ytfjdknghphmceaa", sum := "94e78ffce5011cf22bdb21f3cf1ee772e1bd66b14e0b38e7e13bd9bb608f1906", func := "loop.example/g03313/laws.FnExactHasPoint", spec := "fnExactHasPoint", apart := false, narrowed := true }
def FnExactHasPointUptoSaid : Prop := fnExactHasPointUptoRow.holds Try.pinned (OpenSpec.upto fnExactHasPointSpec)

/-- 'laws.FnExactIntersect', WHERE WHAT IT READS IS OF BULK AT MOST 1048576: true; the input reads as it did. -/
def fnExactIntersectUptoRow : OpenClaim := { program := "ytfjdknghphmceaa", sum := "94e78ffce5011cf22bdb21f3cf1ee772e1bd66b14e0b38e7e13bd9bb608f1906", func := "loop.example/g03313/laws.FnExactIntersect", spec := "fnExactIntersect", apart := false, narrowed := true }
def FnExactIntersectUptoSaid : Prop := fnExactIntersectUptoRow.holds Try.pinned (OpenSpec.upto fnExactIntersectSpec)

/-- 'laws.FnExactBounds', WHERE WHAT IT READS IS OF BULK AT MOST 1048576: true; the input reads as it did. -/
def fnExactBoundsUptoRow : OpenClaim := { program := "ytfjdknghphmceaa", sum := "94e78ffce5011cf22bdb21f3cf1ee772e1bd66b14e0b38e7e13bd9bb608f1906", func := "loop.example/g03313/laws.FnExactBounds", spec := "fnExactBounds", apart := false, narrowed := true }
def FnExactBoundsUptoSaid : Prop := fnExactBoundsUptoRow.holds Try.pinned (OpenSpec.upto fnExactBoundsSpec)

/-- 'laws.FnExactMoved', WHERE WHAT IT READS IS OF BULK AT MOST 1048576: true; the input reads as it did. -/
def fnExactMovedUptoRow : OpenClaim := { program := "ytfjdknghphmceaa", sum := "94e78ffce5011cf22bdb21f3cf1ee772e1bd66b14e0b38e7e13bd9bb608f1906", func := "loop.example/g03313/laws.FnExactMoved", spec := "fnExactMoved", apart := false, narrowed := true }
def FnExactMovedUptoSaid : Prop := fnExactMovedUptoRow.holds Try.pinned (OpenSpec.upto fnExactMovedSpec)

/-- 'laws.FnExactCovers', WHERE WHAT IT READS IS OF BULK AT MOST 1048576: true; the input reads as it did. -/
def fnExactCoversUptoRow : OpenClaim := { program := "ytfjdknghphmceaa", sum := "94e78ffce5011cf22bdb21f3cf1ee772e1bd66b14e0b38e7e13bd9bb608f1906", func := "loop.example/g03313/laws.FnExactCovers", spec := "fnExactCovers", apart := false, narrowed := true }
def FnExactCoversUptoSaid : Prop := fnExactCoversUptoRow.holds Try.pinned (OpenSpec.upto fnExactCoversSpec)

/-- 'laws.FnRects', WHERE WHAT IT READS IS OF BULK AT MOST 1048576: true; the input reads as it did. -/
def fnRectsUptoRow : OpenClaim := { program := "ytfjdknghphmceaa", sum := "94e78ffce5011cf22bdb21f3cf1ee772e1bd66b14e0b38e7e13bd9bb608f1906", func := "loop.example/g03313/laws.FnRects", spec := "fnRects", apart := false, narrowed := true }
def FnRectsUptoSaid : Prop := fnRectsUptoRow.holds Try.pinned (OpenSpec.upto fnRectsSpec)

end Rows
end Go.Proofs.Ytfjdknghphmceaa
