/-
  No cell of these rows narrows 'for every input' (looked for: loops, veiled, ifaces, maps, wideKeys, modest, calm, conditions, laid).
  DERIVED. THE GIVEN ROWS OF THIS SEAT. 7 by the template 'for every input the law returns true; each argument reads behind the call as it read before'; 0 by the template 'total and deterministic' (their statements: YtmffbjicjpgimaaTotals.lean).
  GIVEN WITH THE SEED: the statements are not yours to turn. If you find one false, say at which input.
  Laid BY PROGRAM, IN A SANDBOX (cutbox-rows.mjs): the forced cells as the released guide's own fill.sh prints them over the translation 798e9a10af3f375f… (all of the seat's roots in one cut). By AI agents, Wed Nov 11 2026. No macro, syntax, notation, axiom, sorry.
-/
import Derived.Test.YtmffbjicjpgimaaChecked
import GoSem.Claim
import GoSem.ClaimJoined
import GoSem.ClaimMapViews
import Derived.JoinedTies
import Derived.KernelRfl
namespace Go.Proofs.Ytmffbjicjpgimaa
/- THE CELL 'sum', in the pinned program and in every row, IS THE sha256 OF THE DUMP (.gsa) THAT YtmffbjicjpgimaaProg.lean LOADS. Nothing in Lean hashes anything: it is a label: what it is worth is what the hold of that sum in a sandbox is worth. -/
noncomputable def Try.pinned : Pinned := { name := "ytmffbjicjpgimaa", sum := "798e9a10af3f375f738a686b8e0425b0aa2909d48caadfbca8793a7be86003a9", checked := Try.checked }
namespace Rows
def none {H : Type} : Left H := { results := [], args := [] }

/-- 'laws.FnOrientGroup': WHATEVER THE INPUT: true; the input reads as it did. -/
def fnOrientGroupSpec : ChangeSpec := { name := "fnOrientGroup", fn := fun _ => fun
  | [d] => { results := [.lit (.bool true)], args := [d] }
  | _ => none }
def fnOrientGroupRow : OpenClaim := { program := "ytmffbjicjpgimaa", sum := "798e9a10af3f375f738a686b8e0425b0aa2909d48caadfbca8793a7be86003a9", func := "loop.example/g03313/laws.FnOrientGroup", spec := "fnOrientGroup", unfollowed := true, recurses := true, apart := false }
def FnOrientGroupSaid : Prop := fnOrientGroupRow.holds Try.pinned (OpenSpec.ofChange fnOrientGroupSpec)

/-- ITS FALSE NEIGHBOUR: 'it returns false'. Refute it at one input. -/
def fnOrientGroupWrong : ChangeSpec := { name := "fnOrientGroup", fn := fun _ => fun
  | [d] => { results := [.lit (.bool false)], args := [d] }
  | _ => none }
def FnOrientGroupWrongFalsely : Prop := fnOrientGroupRow.holds Try.pinned (OpenSpec.ofChange fnOrientGroupWrong)

/-- 'laws.FnOrientClosed': WHATEVER THE INPUT: true; the input reads as it did. -/
def fnOrientClosedSpec : ChangeSpec := { name := "fnOrientClosed", fn := fun _ => fun
  | [d] => { results := [.lit (.bool true)], args := [d] }
  | _ => none }
def fnOrientClosedRow : OpenClaim := { program := "ytmffbjicjpgimaa", sum := "798e9a10af3f375f738a686b8e0425b0aa2909d48caadfbca8793a7be86003a9", func := "loop.example/g03313/laws.FnOrientClosed", spec := "fnOrientClosed", apart := false }
def FnOrientClosedSaid : Prop := fnOrientClosedRow.holds Try.pinned (OpenSpec.ofChange fnOrientClosedSpec)

/-- ITS FALSE NEIGHBOUR: 'it returns false'. Refute it at one input. -/
def fnOrientClosedWrong : ChangeSpec := { name := "fnOrientClosed", fn := fun _ => fun
  | [d] => { results := [.lit (.bool false)], args := [d] }
  | _ => none }
def FnOrientClosedWrongFalsely : Prop := fnOrientClosedRow.holds Try.pinned (OpenSpec.ofChange fnOrientClosedWrong)

/-- 'laws.FnExactOrientPoint': WHATEVER THE INPUT: true; the input reads as it did. -/
def fnExactOrientPointSpec : ChangeSpec := { name := "fnExactOrientPoint", fn := fun _ => fun
  | [d1, d2, d3, d4, d5] => { results := [.lit (.bool true)], args := [d1, d2, d3, d4, d5] }
  | _ => none }
def fnExactOrientPointRow : OpenClaim := { program := "ytmffbjicjpgimaa", sum := "798e9a10af3f375f738a686b8e0425b0aa2909d48caadfbca8793a7be86003a9", func := "loop.example/g03313/laws.FnExactOrientPoint", spec := "fnExactOrientPoint", unfollowed := true, recurses := true, apart := false }
def FnExactOrientPointSaid : Prop := fnExactOrientPointRow.holds Try.pinned (OpenSpec.ofChange fnExactOrientPointSpec)

/-- ITS FALSE NEIGHBOUR: 'it returns false'. Refute it at one input. -/
def fnExactOrientPointWrong : ChangeSpec := { name := "fnExactOrientPoint", fn := fun _ => fun
  | [d1, d2, d3, d4, d5] => { results := [.lit (.bool false)], args := [d1, d2, d3, d4, d5] }
  | _ => none }
def FnExactOrientPointWrongFalsely : Prop := fnExactOrientPointRow.holds Try.pinned (OpenSpec.ofChange fnExactOrientPointWrong)

/-- 'laws.FnExactOrientSize': WHATEVER THE INPUT: true; the input reads as it did. -/
def fnExactOrientSizeSpec : ChangeSpec := { name := "fnExactOrientSize", fn := fun _ => fun
  | [d1, d2, d3] => { results := [.lit (.bool true)], args := [d1, d2, d3] }
  | _ => none }
def fnExactOrientSizeRow : OpenClaim := { program := "ytmffbjicjpgimaa", sum := "798e9a10af3f375f738a686b8e0425b0aa2909d48caadfbca8793a7be86003a9", func := "loop.example/g03313/laws.FnExactOrientSize", spec := "fnExactOrientSize", unfollowed := true, recurses := true, apart := false }
def FnExactOrientSizeSaid : Prop := fnExactOrientSizeRow.holds Try.pinned (OpenSpec.ofChange fnExactOrientSizeSpec)

/-- ITS FALSE NEIGHBOUR: 'it returns false'. Refute it at one input. -/
def fnExactOrientSizeWrong : ChangeSpec := { name := "fnExactOrientSize", fn := fun _ => fun
  | [d1, d2, d3] => { results := [.lit (.bool false)], args := [d1, d2, d3] }
  | _ => none }
def FnExactOrientSizeWrongFalsely : Prop := fnExactOrientSizeRow.holds Try.pinned (OpenSpec.ofChange fnExactOrientSizeWrong)

/-- 'laws.FnExactOriented': WHATEVER THE INPUT: true; the input reads as it did. -/
def fnExactOrientedSpec : ChangeSpec := { name := "fnExactOriented", fn := fun _ => fun
  | [d1, d2] => { results := [.lit (.bool true)], args := [d1, d2] }
  | _ => none }
def fnExactOrientedRow : OpenClaim := { program := "ytmffbjicjpgimaa", sum := "798e9a10af3f375f738a686b8e0425b0aa2909d48caadfbca8793a7be86003a9", func := "loop.example/g03313/laws.FnExactOriented", spec := "fnExactOriented", unfollowed := true, recurses := true, apart := false }
def FnExactOrientedSaid : Prop := fnExactOrientedRow.holds Try.pinned (OpenSpec.ofChange fnExactOrientedSpec)

/-- ITS FALSE NEIGHBOUR: 'it returns false'. Refute it at one input. -/
def fnExactOrientedWrong : ChangeSpec := { name := "fnExactOriented", fn := fun _ => fun
  | [d1, d2] => { results := [.lit (.bool false)], args := [d1, d2] }
  | _ => none }
def FnExactOrientedWrongFalsely : Prop := fnExactOrientedRow.holds Try.pinned (OpenSpec.ofChange fnExactOrientedWrong)

/-- 'laws.FnExactThenOrient': WHATEVER THE INPUT: true; the input reads as it did. -/
def fnExactThenOrientSpec : ChangeSpec := { name := "fnExactThenOrient", fn := fun _ => fun
  | [d1, d2] => { results := [.lit (.bool true)], args := [d1, d2] }
  | _ => none }
def fnExactThenOrientRow : OpenClaim := { program := "ytmffbjicjpgimaa", sum := "798e9a10af3f375f738a686b8e0425b0aa2909d48caadfbca8793a7be86003a9", func := "loop.example/g03313/laws.FnExactThenOrient", spec := "fnExactThenOrient", apart := false }
def FnExactThenOrientSaid : Prop := fnExactThenOrientRow.holds Try.pinned (OpenSpec.ofChange fnExactThenOrientSpec)

/-- ITS FALSE NEIGHBOUR: 'it returns false'. Refute it at one input. -/
def fnExactThenOrientWrong : ChangeSpec := { name := "fnExactThenOrient", fn := fun _ => fun
  | [d1, d2] => { results := [.lit (.bool false)], args := [d1, d2] }
  | _ => none }
def FnExactThenOrientWrongFalsely : Prop := fnExactThenOrientRow.holds Try.pinned (OpenSpec.ofChange fnExactThenOrientWrong)

/-- 'laws.FnExactUndoOrient': WHATEVER THE INPUT: true; the input reads as it did. -/
def fnExactUndoOrientSpec : ChangeSpec := { name := "fnExactUndoOrient", fn := fun _ => fun
  | [d] => { results := [.lit (.bool true)], args := [d] }
  | _ => none }
def fnExactUndoOrientRow : OpenClaim := { program := "ytmffbjicjpgimaa", sum := "798e9a10af3f375f738a686b8e0425b0aa2909d48caadfbca8793a7be86003a9", func := "loop.example/g03313/laws.FnExactUndoOrient", spec := "fnExactUndoOrient", apart := false }
def FnExactUndoOrientSaid : Prop := fnExactUndoOrientRow.holds Try.pinned (OpenSpec.ofChange fnExactUndoOrientSpec)

/-- ITS FALSE NEIGHBOUR: 'it returns false'. Refute it at one input. -/
def fnExactUndoOrientWrong : ChangeSpec := { name := "fnExactUndoOrient", fn := fun _ => fun
  | [d] => { results := [.lit (.bool false)], args := [d] }
  | _ => none }
def FnExactUndoOrientWrongFalsely : Prop := fnExactUndoOrientRow.holds Try.pinned (OpenSpec.ofChange fnExactUndoOrientWrong)

/- THE SECOND FORM. 'bulk': how many values and letters a reading holds, each counted each time it is reached (what is shared counts as often as it is met; a slice's spare places count too). A statement '..UptoSaid' is the law's where the arguments, and the package variables that the reading takes, are together of bulk at most 1048576: NARROWER than '..Said'. Prove '..Said' where nothing that the law and all that it calls make is longer than what came in: it says more and counts as full. Else prove '..UptoSaid'. A law counts once. -/
mutual
def uptoBulk {H : Type} : DataW H → Nat
  | .lit (.string bytes) => bytes.length + 1
  | .lit _ => 1
  | .nil => 1
  | .ptr d => uptoBulk d + 1
  | .slice elems spare => uptoBulkAll elems + uptoBulkAll spare + 1
  | .agg parts => uptoBulkAll parts + 1
  | .iface _ d => uptoBulk d + 1
  | .map entries => uptoBulkEntries entries + 1
  | .held _ => 1
def uptoBulkAll {H : Type} : List (DataW H) → Nat
  | [] => 0
  | d :: r => uptoBulk d + uptoBulkAll r
def uptoBulkEntries {H : Type} : List (Lit × DataW H) → Nat
  | [] => 0
  | x :: r => uptoBulkEntry x + uptoBulkEntries r
def uptoBulkEntry {H : Type} : Lit × DataW H → Nat
  | (.string bytes, d) => bytes.length + uptoBulk d + 1
  | (_, d) => uptoBulk d + 1
 end
def uptoSmall : (H : Type) → List (DataW H) → Bool := fun _ ds => decide (uptoBulkAll ds ≤ 1048576)
def OpenSpec.upto (s : _root_.Go.ChangeSpec) : _root_.Go.OpenSpec := { _root_.Go.OpenSpec.ofChange s with cond := some uptoSmall }

/-- 'laws.FnOrientGroup', WHERE WHAT IT READS IS OF BULK AT MOST 1048576: true; the input reads as it did. -/
def fnOrientGroupUptoRow : OpenClaim := { program := "ytmffbjicjpgimaa", sum := "798e9a10af3f375f738a686b8e0425b0aa2909d48caadfbca8793a7be86003a9", func := "loop.example/g03313/laws.FnOrientGroup", spec := "fnOrientGroup", unfollowed := true, recurses := true, apart := false, narrowed := true }
def FnOrientGroupUptoSaid : Prop := fnOrientGroupUptoRow.holds Try.pinned (OpenSpec.upto fnOrientGroupSpec)

/-- 'laws.FnOrientClosed', WHERE WHAT IT READS IS OF BULK AT MOST 1048576: true; the input reads as it did. -/
def fnOrientClosedUptoRow : OpenClaim := { program := "ytmffbjicjpgimaa", sum := "798e9a10af3f375f738a686b8e0425b0aa2909d48caadfbca8793a7be86003a9", func := "loop.example/g03313/laws.FnOrientClosed", spec := "fnOrientClosed", apart := false, narrowed := true }
def FnOrientClosedUptoSaid : Prop := fnOrientClosedUptoRow.holds Try.pinned (OpenSpec.upto fnOrientClosedSpec)

/-- 'laws.FnExactOrientPoint', WHERE WHAT IT READS IS OF BULK AT MOST 1048576: true; the input reads as it did. -/
def fnExactOrientPointUptoRow : OpenClaim := { program := "ytmffbjicjpgimaa", sum := "798e9a10af3f375f738a686b8e0425b0aa2909d48caadfbca8793a7be86003a9", func := "loop.example/g03313/laws.FnExactOrientPoint", spec := "fnExactOrientPoint", unfollowed := true, recurses := true, apart := false, narrowed := true }
def FnExactOrientPointUptoSaid : Prop := fnExactOrientPointUptoRow.holds Try.pinned (OpenSpec.upto fnExactOrientPointSpec)

/-- 'laws.FnExactOrientSize', WHERE WHAT IT READS IS OF BULK AT MOST 1048576: true; the input reads as it did. -/
def fnExactOrientSizeUptoRow : OpenClaim := { program := "ytmffbjicjpgimaa", sum := "798e9a10af3f375f738a686b8e0425b0aa2909d48caadfbca8793a7be86003a9", func := "loop.example/g03313/laws.FnExactOrientSize", spec := "fnExactOrientSize", unfollowed := true, recurses := true, apart := false, narrowed := true }
def FnExactOrientSizeUptoSaid : Prop := fnExactOrientSizeUptoRow.holds Try.pinned (OpenSpec.upto fnExactOrientSizeSpec)

/-- 'laws.FnExactOriented', WHERE WHAT IT READS IS OF BULK AT MOST 1048576: true; the input reads as it did. -/
def fnExactOrientedUptoRow : OpenClaim := { program := "ytmffbjicjpgimaa", sum := "798e9a10af3f375f738a686b8e0425b0aa2909d48caadfbca8793a7be86003a9", func := "loop.example/g03313/laws.FnExactOriented", spec := "fnExactOriented", unfollowed := true, recurses := true, apart := false, narrowed := true }
def FnExactOrientedUptoSaid : Prop := fnExactOrientedUptoRow.holds Try.pinned (OpenSpec.upto fnExactOrientedSpec)

/-- 'laws.FnExactThenOrient', WHERE WHAT IT READS IS OF BULK AT MOST 1048576: true; the input reads as it did. -/
def fnExactThenOrientUptoRow : OpenClaim := { program := "ytmffbjicjpgimaa", sum := "798e9a10af3f375f738a686b8e0425b0aa2909d48caadfbca8793a7be86003a9", func := "loop.example/g03313/laws.FnExactThenOrient", spec := "fnExactThenOrient", apart := false, narrowed := true }
def FnExactThenOrientUptoSaid : Prop := fnExactThenOrientUptoRow.holds Try.pinned (OpenSpec.upto fnExactThenOrientSpec)

/-- 'laws.FnExactUndoOrient', WHERE WHAT IT READS IS OF BULK AT MOST 1048576: true; the input reads as it did. -/
def fnExactUndoOrientUptoRow : OpenClaim := { program := "ytmffbjicjpgimaa", sum := "798e9a10af3f375f738a686b8e0425b0aa2909d48caadfbca8793a7be86003a9", func := "loop.example/g03313/laws.FnExactUndoOrient", spec := "fnExactUndoOrient", apart := false, narrowed := true }
def FnExactUndoOrientUptoSaid : Prop := fnExactUndoOrientUptoRow.holds Try.pinned (OpenSpec.upto fnExactUndoOrientSpec)

end Rows
end Go.Proofs.Ytmffbjicjpgimaa
