/-
  No cell of these rows narrows 'for every input' (looked for: loops, veiled, ifaces, maps, wideKeys, modest, calm, conditions, laid).
  DERIVED. THE GIVEN ROWS OF THIS SEAT. 9 by the template 'for every input the law returns true; each argument reads behind the call as it read before'; 0 by the template 'total and deterministic' (their statements: YtnhalmfljefliaaTotals.lean).
  GIVEN WITH THE SEED: the statements are not yours to turn. If you find one false, say at which input.
  Laid BY PROGRAM, IN A SANDBOX (cutbox-rows.mjs): the forced cells as the released guide's own fill.sh prints them over the translation 392699388201c02a… (all of the seat's roots in one cut). By AI agents, Wed Nov 11 2026. No macro, syntax, notation, axiom, sorry.
-/
import Derived.Test.YtnhalmfljefliaaChecked
import GoSem.Claim
import GoSem.ClaimJoined
import GoSem.ClaimMapViews
import Derived.JoinedTies
import Derived.KernelRfl
namespace Go.Proofs.Ytnhalmfljefliaa
/- THE CELL 'sum', in the pinned program and in every row, IS THE sha256 OF THE DUMP (.gsa) THAT YtnhalmfljefliaaProg.lean LOADS. Nothing in Lean hashes anything: it is a label: what it is worth is what the hold of that sum in a sandbox is worth. -/
noncomputable def Try.pinned : Pinned := { name := "ytnhalmfljefliaa", sum := "392699388201c02a58b7c96cf1815693250b56aad4fcccf7229157e8eaa7c5f6", checked := Try.checked }
namespace Rows
def none {H : Type} : Left H := { results := [], args := [] }

/-- 'laws.FnDifferences': WHATEVER THE INPUT: true; the input reads as it did. -/
def fnDifferencesSpec : ChangeSpec := { name := "fnDifferences", fn := fun _ => fun
  | [d] => { results := [.lit (.bool true)], args := [d] }
  | _ => none }
def fnDifferencesRow : OpenClaim := { program := "ytnhalmfljefliaa", sum := "392699388201c02a58b7c96cf1815693250b56aad4fcccf7229157e8eaa7c5f6", func := "loop.example/g03313/laws.FnDifferences", spec := "fnDifferences", apart := false }
def FnDifferencesSaid : Prop := fnDifferencesRow.holds Try.pinned (OpenSpec.ofChange fnDifferencesSpec)

/-- ITS FALSE NEIGHBOUR: 'it returns false'. Refute it at one input. -/
def fnDifferencesWrong : ChangeSpec := { name := "fnDifferences", fn := fun _ => fun
  | [d] => { results := [.lit (.bool false)], args := [d] }
  | _ => none }
def FnDifferencesWrongFalsely : Prop := fnDifferencesRow.holds Try.pinned (OpenSpec.ofChange fnDifferencesWrong)

/-- 'laws.FnExactImageOk': WHATEVER THE INPUT: true; the input reads as it did. -/
def fnExactImageOkSpec : ChangeSpec := { name := "fnExactImageOk", fn := fun _ => fun
  | [d] => { results := [.lit (.bool true)], args := [d] }
  | _ => none }
def fnExactImageOkRow : OpenClaim := { program := "ytnhalmfljefliaa", sum := "392699388201c02a58b7c96cf1815693250b56aad4fcccf7229157e8eaa7c5f6", func := "loop.example/g03313/laws.FnExactImageOk", spec := "fnExactImageOk", apart := false }
def FnExactImageOkSaid : Prop := fnExactImageOkRow.holds Try.pinned (OpenSpec.ofChange fnExactImageOkSpec)

/-- ITS FALSE NEIGHBOUR: 'it returns false'. Refute it at one input. -/
def fnExactImageOkWrong : ChangeSpec := { name := "fnExactImageOk", fn := fun _ => fun
  | [d] => { results := [.lit (.bool false)], args := [d] }
  | _ => none }
def FnExactImageOkWrongFalsely : Prop := fnExactImageOkRow.holds Try.pinned (OpenSpec.ofChange fnExactImageOkWrong)

/-- 'laws.FnExactNewImage': WHATEVER THE INPUT: true; the input reads as it did. -/
def fnExactNewImageSpec : ChangeSpec := { name := "fnExactNewImage", fn := fun _ => fun
  | [d1, d2, d3] => { results := [.lit (.bool true)], args := [d1, d2, d3] }
  | _ => none }
def fnExactNewImageRow : OpenClaim := { program := "ytnhalmfljefliaa", sum := "392699388201c02a58b7c96cf1815693250b56aad4fcccf7229157e8eaa7c5f6", func := "loop.example/g03313/laws.FnExactNewImage", spec := "fnExactNewImage", apart := false }
def FnExactNewImageSaid : Prop := fnExactNewImageRow.holds Try.pinned (OpenSpec.ofChange fnExactNewImageSpec)

/-- ITS FALSE NEIGHBOUR: 'it returns false'. Refute it at one input. -/
def fnExactNewImageWrong : ChangeSpec := { name := "fnExactNewImage", fn := fun _ => fun
  | [d1, d2, d3] => { results := [.lit (.bool false)], args := [d1, d2, d3] }
  | _ => none }
def FnExactNewImageWrongFalsely : Prop := fnExactNewImageRow.holds Try.pinned (OpenSpec.ofChange fnExactNewImageWrong)

/-- 'laws.FnExactPixelOf': WHATEVER THE INPUT: true; the input reads as it did. -/
def fnExactPixelOfSpec : ChangeSpec := { name := "fnExactPixelOf", fn := fun _ => fun
  | [d1, d2, d3] => { results := [.lit (.bool true)], args := [d1, d2, d3] }
  | _ => none }
def fnExactPixelOfRow : OpenClaim := { program := "ytnhalmfljefliaa", sum := "392699388201c02a58b7c96cf1815693250b56aad4fcccf7229157e8eaa7c5f6", func := "loop.example/g03313/laws.FnExactPixelOf", spec := "fnExactPixelOf", apart := false }
def FnExactPixelOfSaid : Prop := fnExactPixelOfRow.holds Try.pinned (OpenSpec.ofChange fnExactPixelOfSpec)

/-- ITS FALSE NEIGHBOUR: 'it returns false'. Refute it at one input. -/
def fnExactPixelOfWrong : ChangeSpec := { name := "fnExactPixelOf", fn := fun _ => fun
  | [d1, d2, d3] => { results := [.lit (.bool false)], args := [d1, d2, d3] }
  | _ => none }
def FnExactPixelOfWrongFalsely : Prop := fnExactPixelOfRow.holds Try.pinned (OpenSpec.ofChange fnExactPixelOfWrong)

/-- 'laws.FnExactFillRect': WHATEVER THE INPUT: true; the input reads as it did. -/
def fnExactFillRectSpec : ChangeSpec := { name := "fnExactFillRect", fn := fun _ => fun
  | [d1, d2, d3] => { results := [.lit (.bool true)], args := [d1, d2, d3] }
  | _ => none }
def fnExactFillRectRow : OpenClaim := { program := "ytnhalmfljefliaa", sum := "392699388201c02a58b7c96cf1815693250b56aad4fcccf7229157e8eaa7c5f6", func := "loop.example/g03313/laws.FnExactFillRect", spec := "fnExactFillRect", apart := false }
def FnExactFillRectSaid : Prop := fnExactFillRectRow.holds Try.pinned (OpenSpec.ofChange fnExactFillRectSpec)

/-- ITS FALSE NEIGHBOUR: 'it returns false'. Refute it at one input. -/
def fnExactFillRectWrong : ChangeSpec := { name := "fnExactFillRect", fn := fun _ => fun
  | [d1, d2, d3] => { results := [.lit (.bool false)], args := [d1, d2, d3] }
  | _ => none }
def FnExactFillRectWrongFalsely : Prop := fnExactFillRectRow.holds Try.pinned (OpenSpec.ofChange fnExactFillRectWrong)

/-- 'laws.FnExactCropImage': WHATEVER THE INPUT: true; the input reads as it did. -/
def fnExactCropImageSpec : ChangeSpec := { name := "fnExactCropImage", fn := fun _ => fun
  | [d1, d2] => { results := [.lit (.bool true)], args := [d1, d2] }
  | _ => none }
def fnExactCropImageRow : OpenClaim := { program := "ytnhalmfljefliaa", sum := "392699388201c02a58b7c96cf1815693250b56aad4fcccf7229157e8eaa7c5f6", func := "loop.example/g03313/laws.FnExactCropImage", spec := "fnExactCropImage", apart := false }
def FnExactCropImageSaid : Prop := fnExactCropImageRow.holds Try.pinned (OpenSpec.ofChange fnExactCropImageSpec)

/-- ITS FALSE NEIGHBOUR: 'it returns false'. Refute it at one input. -/
def fnExactCropImageWrong : ChangeSpec := { name := "fnExactCropImage", fn := fun _ => fun
  | [d1, d2] => { results := [.lit (.bool false)], args := [d1, d2] }
  | _ => none }
def FnExactCropImageWrongFalsely : Prop := fnExactCropImageRow.holds Try.pinned (OpenSpec.ofChange fnExactCropImageWrong)

/-- 'laws.FnExactCopyRegion': WHATEVER THE INPUT: true; the input reads as it did. -/
def fnExactCopyRegionSpec : ChangeSpec := { name := "fnExactCopyRegion", fn := fun _ => fun
  | [d1, d2, d3] => { results := [.lit (.bool true)], args := [d1, d2, d3] }
  | _ => none }
def fnExactCopyRegionRow : OpenClaim := { program := "ytnhalmfljefliaa", sum := "392699388201c02a58b7c96cf1815693250b56aad4fcccf7229157e8eaa7c5f6", func := "loop.example/g03313/laws.FnExactCopyRegion", spec := "fnExactCopyRegion", apart := false }
def FnExactCopyRegionSaid : Prop := fnExactCopyRegionRow.holds Try.pinned (OpenSpec.ofChange fnExactCopyRegionSpec)

/-- ITS FALSE NEIGHBOUR: 'it returns false'. Refute it at one input. -/
def fnExactCopyRegionWrong : ChangeSpec := { name := "fnExactCopyRegion", fn := fun _ => fun
  | [d1, d2, d3] => { results := [.lit (.bool false)], args := [d1, d2, d3] }
  | _ => none }
def FnExactCopyRegionWrongFalsely : Prop := fnExactCopyRegionRow.holds Try.pinned (OpenSpec.ofChange fnExactCopyRegionWrong)

/-- 'laws.FnExactDifferenceOf': WHATEVER THE INPUT: true; the input reads as it did. -/
def fnExactDifferenceOfSpec : ChangeSpec := { name := "fnExactDifferenceOf", fn := fun _ => fun
  | [d1, d2] => { results := [.lit (.bool true)], args := [d1, d2] }
  | _ => none }
def fnExactDifferenceOfRow : OpenClaim := { program := "ytnhalmfljefliaa", sum := "392699388201c02a58b7c96cf1815693250b56aad4fcccf7229157e8eaa7c5f6", func := "loop.example/g03313/laws.FnExactDifferenceOf", spec := "fnExactDifferenceOf", apart := false }
def FnExactDifferenceOfSaid : Prop := fnExactDifferenceOfRow.holds Try.pinned (OpenSpec.ofChange fnExactDifferenceOfSpec)

/-- ITS FALSE NEIGHBOUR: 'it returns false'. Refute it at one input. -/
def fnExactDifferenceOfWrong : ChangeSpec := { name := "fnExactDifferenceOf", fn := fun _ => fun
  | [d1, d2] => { results := [.lit (.bool false)], args := [d1, d2] }
  | _ => none }
def FnExactDifferenceOfWrongFalsely : Prop := fnExactDifferenceOfRow.holds Try.pinned (OpenSpec.ofChange fnExactDifferenceOfWrong)

/-- 'laws.FnExactSameImage': WHATEVER THE INPUT: true; the input reads as it did. -/
def fnExactSameImageSpec : ChangeSpec := { name := "fnExactSameImage", fn := fun _ => fun
  | [d1, d2] => { results := [.lit (.bool true)], args := [d1, d2] }
  | _ => none }
def fnExactSameImageRow : OpenClaim := { program := "ytnhalmfljefliaa", sum := "392699388201c02a58b7c96cf1815693250b56aad4fcccf7229157e8eaa7c5f6", func := "loop.example/g03313/laws.FnExactSameImage", spec := "fnExactSameImage", apart := false }
def FnExactSameImageSaid : Prop := fnExactSameImageRow.holds Try.pinned (OpenSpec.ofChange fnExactSameImageSpec)

/-- ITS FALSE NEIGHBOUR: 'it returns false'. Refute it at one input. -/
def fnExactSameImageWrong : ChangeSpec := { name := "fnExactSameImage", fn := fun _ => fun
  | [d1, d2] => { results := [.lit (.bool false)], args := [d1, d2] }
  | _ => none }
def FnExactSameImageWrongFalsely : Prop := fnExactSameImageRow.holds Try.pinned (OpenSpec.ofChange fnExactSameImageWrong)

/- THE SECOND FORM. 'bulk': how many values and letters a reading holds, each counted each time it is reached (what is shared counts as often as it is met; a slice's spare places count too). A statement '..UptoSaid' is the law's where the arguments, and the package variables that the reading takes, are together of bulk at most 1048576: NARROWER than '..Said'. Prove '..Said' where nothing that the law and all that it calls make is longer than what came in: it says more and counts as full. Else prove '..UptoSaid'. A law counts once. -/
mutual
def uptoBulk {H : Type} : DataW H → Nat
  | .lit (.string bytes) => bytes.length + 1
  | .lit _ => 1
  | .nil => 1
  | .ptr d => uptoBulk d + 1
  | .slice elems spare => uptoBulkAll elems + uptoBulkAll spare + 1
  | .agg parts => uptoBulkAll parts + 1
  | .iface _ d => uptoBulk d + 1
  | .map entries => uptoBulkEntries entries + 1
  | .held _ => 1
def uptoBulkAll {H : Type} : List (DataW H) → Nat
  | [] => 0
  | d :: r => uptoBulk d + uptoBulkAll r
def uptoBulkEntries {H : Type} : List (Lit × DataW H) → Nat
  | [] => 0
  | x :: r => uptoBulkEntry x + uptoBulkEntries r
def uptoBulkEntry {H : Type} : Lit × DataW H → Nat
  | (.string bytes, d) => bytes.length + uptoBulk d + 1
  | (_, d) => uptoBulk d + 1
 end
def uptoSmall : (H : Type) → List (DataW H) → Bool := fun _ ds => decide (uptoBulkAll ds ≤ 1048576)
def OpenSpec.upto (s : _root_.Go.ChangeSpec) : _root_.Go.OpenSpec := { _root_.Go.OpenSpec.ofChange s with cond := some uptoSmall }

/-- 'laws.FnDifferences', WHERE WHAT IT READS IS OF BULK AT MOST 1048576: true; the input reads as it did. -/
def fnDifferencesUptoRow : OpenClaim := { program := "ytnhalmfljefliaa", sum := "392699388201c02a58b7c96cf1815693250b56aad4fcccf7229157e8eaa7c5f6", func := "loop.example/g03313/laws.FnDifferences", spec := "fnDifferences", apart := false, narrowed := true }
def FnDifferencesUptoSaid : Prop := fnDifferencesUptoRow.holds Try.pinned (OpenSpec.upto fnDifferencesSpec)

/-- 'laws.FnExactImageOk', WHERE WHAT IT READS IS OF BULK AT MOST 1048576: true; the input reads as it did. -/
def fnExactImageOkUptoRow : OpenClaim := { program := "ytnhalmfljefliaa", sum := "392699388201c02a58b7c96cf1815693250b56aad4fcccf7229157e8eaa7c5f6", func := "loop.example/g03313/laws.FnExactImageOk", spec := "fnExactImageOk", apart := false, narrowed := true }
def FnExactImageOkUptoSaid : Prop := fnExactImageOkUptoRow.holds Try.pinned (OpenSpec.upto fnExactImageOkSpec)

/-- 'laws.FnExactNewImage', WHERE WHAT IT READS IS OF BULK AT MOST 1048576: true; the input reads as it did. -/
def fnExactNewImageUptoRow : OpenClaim := { program := "ytnhalmfljefliaa", sum := "392699388201c02a58b7c96cf1815693250b56aad4fcccf7229157e8eaa7c5f6", func := "loop.example/g03313/laws.FnExactNewImage", spec := "fnExactNewImage", apart := false, narrowed := true }
def FnExactNewImageUptoSaid : Prop := fnExactNewImageUptoRow.holds Try.pinned (OpenSpec.upto fnExactNewImageSpec)

/-- 'laws.FnExactPixelOf', WHERE WHAT IT READS IS OF BULK AT MOST 1048576: true; the input reads as it did. -/
def fnExactPixelOfUptoRow : OpenClaim := { program := "ytnhalmfljefliaa", sum := "392699388201c02a58b7c96cf1815693250b56aad4fcccf7229157e8eaa7c5f6", func := "loop.example/g03313/laws.FnExactPixelOf", spec := "fnExactPixelOf", apart := false, narrowed := true }
def FnExactPixelOfUptoSaid : Prop := fnExactPixelOfUptoRow.holds Try.pinned (OpenSpec.upto fnExactPixelOfSpec)

/-- 'laws.FnExactFillRect', WHERE WHAT IT READS IS OF BULK AT MOST 1048576: true; the input reads as it did. -/
def fnExactFillRectUptoRow : OpenClaim := { program := "ytnhalmfljefliaa", sum := "392699388201c02a58b7c96cf1815693250b56aad4fcccf7229157e8eaa7c5f6", func := "loop.example/g03313/laws.FnExactFillRect", spec := "fnExactFillRect", apart := false, narrowed := true }
def FnExactFillRectUptoSaid : Prop := fnExactFillRectUptoRow.holds Try.pinned (OpenSpec.upto fnExactFillRectSpec)

/-- 'laws.FnExactCropImage', WHERE WHAT IT READS IS OF BULK AT MOST 1048576: true; the input reads as it did. -/
def fnExactCropImageUptoRow : OpenClaim := { program := "ytnhalmfljefliaa", sum := "392699388201c02a58b7c96cf1815693250b56aad4fcccf7229157e8eaa7c5f6", func := "loop.example/g03313/laws.FnExactCropImage", spec := "fnExactCropImage", apart := false, narrowed := true }
def FnExactCropImageUptoSaid : Prop := fnExactCropImageUptoRow.holds Try.pinned (OpenSpec.upto fnExactCropImageSpec)

/-- 'laws.FnExactCopyRegion', WHERE WHAT IT READS IS OF BULK AT MOST 1048576: true; the input reads as it did. -/
def fnExactCopyRegionUptoRow : OpenClaim := { program := "ytnhalmfljefliaa", sum := "392699388201c02a58b7c96cf1815693250b56aad4fcccf7229157e8eaa7c5f6", func := "loop.example/g03313/laws.FnExactCopyRegion", spec := "fnExactCopyRegion", apart := false, narrowed := true }
def FnExactCopyRegionUptoSaid : Prop := fnExactCopyRegionUptoRow.holds Try.pinned (OpenSpec.upto fnExactCopyRegionSpec)

/-- 'laws.FnExactDifferenceOf', WHERE WHAT IT READS IS OF BULK AT MOST 1048576: true; the input reads as it did. -/
def fnExactDifferenceOfUptoRow : OpenClaim := { program := "ytnhalmfljefliaa", sum := "392699388201c02a58b7c96cf1815693250b56aad4fcccf7229157e8eaa7c5f6", func := "loop.example/g03313/laws.FnExactDifferenceOf", spec := "fnExactDifferenceOf", apart := false, narrowed := true }
def FnExactDifferenceOfUptoSaid : Prop := fnExactDifferenceOfUptoRow.holds Try.pinned (OpenSpec.upto fnExactDifferenceOfSpec)

/-- 'laws.FnExactSameImage', WHERE WHAT IT READS IS OF BULK AT MOST 1048576: true; the input reads as it did. -/
def fnExactSameImageUptoRow : OpenClaim := { program := "ytnhalmfljefliaa", sum := "392699388201c02a58b7c96cf1815693250b56aad4fcccf7229157e8eaa7c5f6", func := "loop.example/g03313/laws.FnExactSameImage", spec := "fnExactSameImage", apart := false, narrowed := true }
def FnExactSameImageUptoSaid : Prop := fnExactSameImageUptoRow.holds Try.pinned (OpenSpec.upto fnExactSameImageSpec)

end Rows
end Go.Proofs.Ytnhalmfljefliaa
