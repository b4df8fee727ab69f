/-
  No cell of these rows narrows 'for every input' (looked for: loops, veiled, ifaces, maps, wideKeys, modest, calm, conditions, laid).
  DERIVED. THE GIVEN ROWS OF THIS SEAT. 9 by the template 'for every input the law returns true; each argument reads behind the call as it read before'; 0 by the template 'total and deterministic' (their statements: YtmjndoedchiggaaTotals.lean).
  GIVEN WITH THE SEED: the statements are not yours to turn. If you find one false, say at which input.
  Laid BY PROGRAM, IN A SANDBOX (cutbox-rows.mjs): the forced cells as the released guide's own fill.sh prints them over the translation d5fda6aec74ea3f1… (all of the seat's roots in one cut). By AI agents, Wed Nov 11 2026. No macro, syntax, notation, axiom, sorry.
-/
import Derived.Test.YtmjndoedchiggaaChecked
import GoSem.Claim
import GoSem.ClaimJoined
import GoSem.ClaimMapViews
import Derived.JoinedTies
import Derived.KernelRfl
namespace Go.Proofs.Ytmjndoedchiggaa
/- THE CELL 'sum', in the pinned program and in every row, IS THE sha256 OF THE DUMP (.gsa) THAT YtmjndoedchiggaaProg.lean LOADS. Nothing in Lean hashes anything: it is a label: what it is worth is what the hold of that sum in a sandbox is worth. -/
noncomputable def Try.pinned : Pinned := { name := "ytmjndoedchiggaa", sum := "d5fda6aec74ea3f199a78f8c550564281834e68500a467f7a3dd7f00962793d9", checked := Try.checked }
namespace Rows
def none {H : Type} : Left H := { results := [], args := [] }

/-- 'laws.FnDifferences': WHATEVER THE INPUT: true; the input reads as it did. -/
def fnDifferencesSpec : ChangeSpec := { name := "fnDifferences", fn := fun _ => fun
  | [d] => { results := [.lit (.bool true)], args := [d] }
  | _ => none }
def fnDifferencesRow : OpenClaim := { program := "ytmjndoedchiggaa", sum := "d5fda6aec74ea3f199a78f8c550564281834e68500a467f7a3dd7f00962793d9", func := "loop.example/g03313/laws.FnDifferences", spec := "fnDifferences", apart := false }
def FnDifferencesSaid : Prop := fnDifferencesRow.holds Try.pinned (OpenSpec.ofChange fnDifferencesSpec)

/-- ITS FALSE NEIGHBOUR: 'it returns false'. Refute it at one input. -/
def fnDifferencesWrong : ChangeSpec := { name := "fnDifferences", fn := fun _ => fun
  | [d] => { results := [.lit (.bool false)], args := [d] }
  | _ => none }
def FnDifferencesWrongFalsely : Prop := fnDifferencesRow.holds Try.pinned (OpenSpec.ofChange fnDifferencesWrong)

/-- 'laws.FnExactFillRect': WHATEVER THE INPUT: true; the input reads as it did. -/
def fnExactFillRectSpec : ChangeSpec := { name := "fnExactFillRect", fn := fun _ => fun
  | [d1, d2, d3] => { results := [.lit (.bool true)], args := [d1, d2, d3] }
  | _ => none }
def fnExactFillRectRow : OpenClaim := { program := "ytmjndoedchiggaa", sum := "d5fda6aec74ea3f199a78f8c550564281834e68500a467f7a3dd7f00962793d9", func := "loop.example/g03313/laws.FnExactFillRect", spec := "fnExactFillRect", apart := false }
def FnExactFillRectSaid : Prop := fnExactFillRectRow.holds Try.pinned (OpenSpec.ofChange fnExactFillRectSpec)

/-- ITS FALSE NEIGHBOUR: 'it returns false'. Refute it at one input. -/
def fnExactFillRectWrong : ChangeSpec := { name := "fnExactFillRect", fn := fun _ => fun
  | [d1, d2, d3] => { results := [.lit (.bool false)], args := [d1, d2, d3] }
  | _ => none }
def FnExactFillRectWrongFalsely : Prop := fnExactFillRectRow.holds Try.pinned (OpenSpec.ofChange fnExactFillRectWrong)

/-- 'laws.FnExactCopyRegion': WHATEVER THE INPUT: true; the input reads as it did. -/
def fnExactCopyRegionSpec : ChangeSpec := { name := "fnExactCopyRegion", fn := fun _ => fun
  | [d1, d2, d3] => { results := [.lit (.bool true)], args := [d1, d2, d3] }
  | _ => none }
def fnExactCopyRegionRow : OpenClaim := { program := "ytmjndoedchiggaa", sum := "d5fda6aec74ea3f199a78f8c550564281834e68500a467f7a3dd7f00962793d9", func := "loop.example/g03313/laws.FnExactCopyRegion", spec := "fnExactCopyRegion", apart := false }
def FnExactCopyRegionSaid : Prop := fnExactCopyRegionRow.holds Try.pinned (OpenSpec.ofChange fnExactCopyRegionSpec)

/-- ITS FALSE NEIGHBOUR: 'it returns false'. Refute it at one input. -/
def fnExactCopyRegionWrong : ChangeSpec := { name := "fnExactCopyRegion", fn := fun _ => fun
  | [d1, d2, d3] => { results := [.lit (.bool false)], args := [d1, d2, d3] }
  | _ => none }
def FnExactCopyRegionWrongFalsely : Prop := fnExactCopyRegionRow.holds Try.pinned (OpenSpec.ofChange fnExactCopyRegionWrong)

/-- 'laws.FnExactDifferenceOf': WHATEVER THE INPUT: true; the input reads as it did. -/
def fnExactDifferenceOfSpec : ChangeSpec := { name := "fnExactDifferenceOf", fn := fun _ => fun
  | [d1, d2] => { results := [.lit (.bool true)], args := [d1, d2] }
  | _ => none }
def fnExactDifferenceOfRow : OpenClaim := { program := "ytmjndoedchiggaa", sum := "d5fda6aec74ea3f199a78f8c550564281834e68500a467f7a3dd7f00962793d9", func := "loop.example/g03313/laws.FnExactDifferenceOf", spec := "fnExactDifferenceOf", apart := false }
def FnExactDifferenceOfSaid : Prop := fnExactDifferenceOfRow.holds Try.pinned (OpenSpec.ofChange fnExactDifferenceOfSpec)

/-- ITS FALSE NEIGHBOUR: 'it returns false'. Refute it at one input. -/
def fnExactDifferenceOfWrong : ChangeSpec := { name := "fnExactDifferenceOf", fn := fun _ => fun
  | [d1, d2] => { results := [.lit (.bool false)], args := [d1, d2] }
  | _ => none }
def FnExactDifferenceOfWrongFalsely : Prop := fnExactDifferenceOfRow.holds Try.pinned (OpenSpec.ofChange fnExactDifferenceOfWrong)

/-- 'laws.FnOrientGroup': WHATEVER THE INPUT: true; the input reads as it did. -/
def fnOrientGroupSpec : ChangeSpec := { name := "fnOrientGroup", fn := fun _ => fun
  | [d] => { results := [.lit (.bool true)], args := [d] }
  | _ => none }
def fnOrientGroupRow : OpenClaim := { program := "ytmjndoedchiggaa", sum := "d5fda6aec74ea3f199a78f8c550564281834e68500a467f7a3dd7f00962793d9", func := "loop.example/g03313/laws.FnOrientGroup", spec := "fnOrientGroup", unfollowed := true, recurses := true, apart := false }
def FnOrientGroupSaid : Prop := fnOrientGroupRow.holds Try.pinned (OpenSpec.ofChange fnOrientGroupSpec)

/-- ITS FALSE NEIGHBOUR: 'it returns false'. Refute it at one input. -/
def fnOrientGroupWrong : ChangeSpec := { name := "fnOrientGroup", fn := fun _ => fun
  | [d] => { results := [.lit (.bool false)], args := [d] }
  | _ => none }
def FnOrientGroupWrongFalsely : Prop := fnOrientGroupRow.holds Try.pinned (OpenSpec.ofChange fnOrientGroupWrong)

/-- 'laws.FnExactOriented': WHATEVER THE INPUT: true; the input reads as it did. -/
def fnExactOrientedSpec : ChangeSpec := { name := "fnExactOriented", fn := fun _ => fun
  | [d1, d2] => { results := [.lit (.bool true)], args := [d1, d2] }
  | _ => none }
def fnExactOrientedRow : OpenClaim := { program := "ytmjndoedchiggaa", sum := "d5fda6aec74ea3f199a78f8c550564281834e68500a467f7a3dd7f00962793d9", func := "loop.example/g03313/laws.FnExactOriented", spec := "fnExactOriented", unfollowed := true, recurses := true, apart := false }
def FnExactOrientedSaid : Prop := fnExactOrientedRow.holds Try.pinned (OpenSpec.ofChange fnExactOrientedSpec)

/-- ITS FALSE NEIGHBOUR: 'it returns false'. Refute it at one input. -/
def fnExactOrientedWrong : ChangeSpec := { name := "fnExactOriented", fn := fun _ => fun
  | [d1, d2] => { results := [.lit (.bool false)], args := [d1, d2] }
  | _ => none }
def FnExactOrientedWrongFalsely : Prop := fnExactOrientedRow.holds Try.pinned (OpenSpec.ofChange fnExactOrientedWrong)

/-- 'laws.FnScaling': WHATEVER THE INPUT: true; the input reads as it did. -/
def fnScalingSpec : ChangeSpec := { name := "fnScaling", fn := fun _ => fun
  | [d] => { results := [.lit (.bool true)], args := [d] }
  | _ => none }
def fnScalingRow : OpenClaim := { program := "ytmjndoedchiggaa", sum := "d5fda6aec74ea3f199a78f8c550564281834e68500a467f7a3dd7f00962793d9", func := "loop.example/g03313/laws.FnScaling", spec := "fnScaling", unfollowed := true, recurses := true, apart := false }
def FnScalingSaid : Prop := fnScalingRow.holds Try.pinned (OpenSpec.ofChange fnScalingSpec)

/-- ITS FALSE NEIGHBOUR: 'it returns false'. Refute it at one input. -/
def fnScalingWrong : ChangeSpec := { name := "fnScaling", fn := fun _ => fun
  | [d] => { results := [.lit (.bool false)], args := [d] }
  | _ => none }
def FnScalingWrongFalsely : Prop := fnScalingRow.holds Try.pinned (OpenSpec.ofChange fnScalingWrong)

/-- 'laws.FnExactScaled': WHATEVER THE INPUT: true; the input reads as it did. -/
def fnExactScaledSpec : ChangeSpec := { name := "fnExactScaled", fn := fun _ => fun
  | [d1, d2, d3] => { results := [.lit (.bool true)], args := [d1, d2, d3] }
  | _ => none }
def fnExactScaledRow : OpenClaim := { program := "ytmjndoedchiggaa", sum := "d5fda6aec74ea3f199a78f8c550564281834e68500a467f7a3dd7f00962793d9", func := "loop.example/g03313/laws.FnExactScaled", spec := "fnExactScaled", unfollowed := true, recurses := true, apart := false }
def FnExactScaledSaid : Prop := fnExactScaledRow.holds Try.pinned (OpenSpec.ofChange fnExactScaledSpec)

/-- ITS FALSE NEIGHBOUR: 'it returns false'. Refute it at one input. -/
def fnExactScaledWrong : ChangeSpec := { name := "fnExactScaled", fn := fun _ => fun
  | [d1, d2, d3] => { results := [.lit (.bool false)], args := [d1, d2, d3] }
  | _ => none }
def FnExactScaledWrongFalsely : Prop := fnExactScaledRow.holds Try.pinned (OpenSpec.ofChange fnExactScaledWrong)

/-- 'laws.FnExactTileImage': WHATEVER THE INPUT: true; the input reads as it did. -/
def fnExactTileImageSpec : ChangeSpec := { name := "fnExactTileImage", fn := fun _ => fun
  | [d1, d2, d3] => { results := [.lit (.bool true)], args := [d1, d2, d3] }
  | _ => none }
def fnExactTileImageRow : OpenClaim := { program := "ytmjndoedchiggaa", sum := "d5fda6aec74ea3f199a78f8c550564281834e68500a467f7a3dd7f00962793d9", func := "loop.example/g03313/laws.FnExactTileImage", spec := "fnExactTileImage", unfollowed := true, recurses := true, apart := false }
def FnExactTileImageSaid : Prop := fnExactTileImageRow.holds Try.pinned (OpenSpec.ofChange fnExactTileImageSpec)

/-- ITS FALSE NEIGHBOUR: 'it returns false'. Refute it at one input. -/
def fnExactTileImageWrong : ChangeSpec := { name := "fnExactTileImage", fn := fun _ => fun
  | [d1, d2, d3] => { results := [.lit (.bool false)], args := [d1, d2, d3] }
  | _ => none }
def FnExactTileImageWrongFalsely : Prop := fnExactTileImageRow.holds Try.pinned (OpenSpec.ofChange fnExactTileImageWrong)

/- THE SECOND FORM. 'bulk': how many values and letters a reading holds, each counted each time it is reached (what is shared counts as often as it is met; a slice's spare places count too). A statement '..UptoSaid' is the law's where the arguments, and the package variables that the reading takes, are together of bulk at most 1048576: NARROWER than '..Said'. Prove '..Said' where nothing that the law and all that it calls make is longer than what came in: it says more and counts as full. Else prove '..UptoSaid'. A law counts once. -/
mutual
def uptoBulk {H : Type} : DataW H → Nat
  | .lit (.string bytes) => bytes.length + 1
  | .lit _ => 1
  | .nil => 1
  | .ptr d => uptoBulk d + 1
  | .slice elems spare => uptoBulkAll elems + uptoBulkAll spare + 1
  | .agg parts => uptoBulkAll parts + 1
  | .iface _ d => uptoBulk d + 1
  | .map entries => uptoBulkEntries entries + 1
  | .held _ => 1
def uptoBulkAll {H : Type} : List (DataW H) → Nat
  | [] => 0
  | d :: r => uptoBulk d + uptoBulkAll r
def uptoBulkEntries {H : Type} : List (Lit × DataW H) → Nat
  | [] => 0
  | x :: r => uptoBulkEntry x + uptoBulkEntries r
def uptoBulkEntry {H : Type} : Lit × DataW H → Nat
  | (.string bytes, d) => bytes.length + uptoBulk d + 1
  | (_, d) => uptoBulk d + 1
 end
def uptoSmall : (H : Type) → List (DataW H) → Bool := fun _ ds => decide (uptoBulkAll ds ≤ 1048576)
def OpenSpec.upto (s : _root_.Go.ChangeSpec) : _root_.Go.OpenSpec := { _root_.Go.OpenSpec.ofChange s with cond := some uptoSmall }

/-- 'laws.FnDifferences', WHERE WHAT IT READS IS OF BULK AT MOST 1048576: true; the input reads as it did. -/
def fnDifferencesUptoRow : OpenClaim := { program := "ytmjndoedchiggaa", sum := "d5fda6aec74ea3f199a78f8c550564281834e68500a467f7a3dd7f00962793d9", func := "loop.example/g03313/laws.FnDifferences", spec := "fnDifferences", apart := false, narrowed := true }
def FnDifferencesUptoSaid : Prop := fnDifferencesUptoRow.holds Try.pinned (OpenSpec.upto fnDifferencesSpec)

/-- 'laws.FnExactFillRect', WHERE WHAT IT READS IS OF BULK AT MOST 1048576: true; the input reads as it did. -/
def fnExactFillRectUptoRow : OpenClaim := { program := "ytmjndoedchiggaa", sum := "d5fda6aec74ea3f199a78f8c550564281834e68500a467f7a3dd7f00962793d9", func := "loop.example/g03313/laws.FnExactFillRect", spec := "fnExactFillRect", apart := false, narrowed := true }
def FnExactFillRectUptoSaid : Prop := fnExactFillRectUptoRow.holds Try.pinned (OpenSpec.upto fnExactFillRectSpec)

/-- 'laws.FnExactCopyRegion', WHERE WHAT IT READS IS OF BULK AT MOST 1048576: true; the input reads as it did. -/
def fnExactCopyRegionUptoRow : OpenClaim := { program := "ytmjndoedchiggaa", sum := "d5fda6aec74ea3f199a78f8c550564281834e68500a467f7a3dd7f00962793d9", func := "loop.example/g03313/laws.FnExactCopyRegion", spec := "fnExactCopyRegion", apart := false, narrowed := true }
def FnExactCopyRegionUptoSaid : Prop := fnExactCopyRegionUptoRow.holds Try.pinned (OpenSpec.upto fnExactCopyRegionSpec)

/-- 'laws.FnExactDifferenceOf', WHERE WHAT IT READS IS OF BULK AT MOST 1048576: true; the input reads as it did. -/
def fnExactDifferenceOfUptoRow : OpenClaim := { program := "ytmjndoedchiggaa", sum := "d5fda6aec74ea3f199a78f8c550564281834e68500a467f7a3dd7f00962793d9", func := "loop.example/g03313/laws.FnExactDifferenceOf", spec := "fnExactDifferenceOf", apart := false, narrowed := true }
def FnExactDifferenceOfUptoSaid : Prop := fnExactDifferenceOfUptoRow.holds Try.pinned (OpenSpec.upto fnExactDifferenceOfSpec)

/-- 'laws.FnOrientGroup', WHERE WHAT IT READS IS OF BULK AT MOST 1048576: true; the input reads as it did. -/
def fnOrientGroupUptoRow : OpenClaim := { program := "ytmjndoedchiggaa", sum := "d5fda6aec74ea3f199a78f8c550564281834e68500a467f7a3dd7f00962793d9", func := "loop.example/g03313/laws.FnOrientGroup", spec := "fnOrientGroup", unfollowed := true, recurses := true, apart := false, narrowed := true }
def FnOrientGroupUptoSaid : Prop := fnOrientGroupUptoRow.holds Try.pinned (OpenSpec.upto fnOrientGroupSpec)

/-- 'laws.FnExactOriented', WHERE WHAT IT READS IS OF BULK AT MOST 1048576: true; the input reads as it did. -/
def fnExactOrientedUptoRow : OpenClaim := { program := "ytmjndoedchiggaa", sum := "d5fda6aec74ea3f199a78f8c550564281834e68500a467f7a3dd7f00962793d9", func := "loop.example/g03313/laws.FnExactOriented", spec := "fnExactOriented", unfollowed := true, recurses := true, apart := false, narrowed := true }
def FnExactOrientedUptoSaid : Prop := fnExactOrientedUptoRow.holds Try.pinned (OpenSpec.upto fnExactOrientedSpec)

/-- 'laws.FnScaling', WHERE WHAT IT READS IS OF BULK AT MOST 1048576: true; the input reads as it did. -/
def fnScalingUptoRow : OpenClaim := { program := "ytmjndoedchiggaa", sum := "d5fda6aec74ea3f199a78f8c550564281834e68500a467f7a3dd7f00962793d9", func := "loop.example/g03313/laws.FnScaling", spec := "fnScaling", unfollowed := true, recurses := true, apart := false, narrowed := true }
def FnScalingUptoSaid : Prop := fnScalingUptoRow.holds Try.pinned (OpenSpec.upto fnScalingSpec)

/-- 'laws.FnExactScaled', WHERE WHAT IT READS IS OF BULK AT MOST 1048576: true; the input reads as it did. -/
def fnExactScaledUptoRow : OpenClaim := { program := "ytmjndoedchiggaa", sum := "d5fda6aec74ea3f199a78f8c550564281834e68500a467f7a3dd7f00962793d9", func := "loop.example/g03313/laws.FnExactScaled", spec := "fnExactScaled", unfollowed := true, recurses := true, apart := false, narrowed := true }
def FnExactScaledUptoSaid : Prop := fnExactScaledUptoRow.holds Try.pinned (OpenSpec.upto fnExactScaledSpec)

/-- 'laws.FnExactTileImage', WHERE WHAT IT READS IS OF BULK AT MOST 1048576: true; the input reads as it did. -/
def fnExactTileImageUptoRow : OpenClaim := { program := "ytmjndoedchiggaa", sum := "d5fda6aec74ea3f199a78f8c550564281834e68500a467f7a3dd7f00962793d9", func := "loop.example/g03313/laws.FnExactTileImage", spec := "fnExactTileImage", unfollowed := true, recurses := true, apart := false, narrowed := true }
def FnExactTileImageUptoSaid : Prop := fnExactTileImageUptoRow.holds Try.pinned (OpenSpec.upto fnExactTileImageSpec)

end Rows
end Go.Proofs.Ytmjndoedchiggaa
