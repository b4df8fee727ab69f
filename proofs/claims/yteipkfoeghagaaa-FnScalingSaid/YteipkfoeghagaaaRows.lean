/-
  No cell of these rows narrows 'for every input' (looked for: loops, veiled, ifaces, maps, wideKeys, modest, calm, conditions, laid).
  DERIVED. THE GIVEN ROWS OF THIS SEAT. 4 by the template 'for every input the law returns true; each argument reads behind the call as it read before'; 0 by the template 'total and deterministic' (their statements: YteipkfoeghagaaaTotals.lean).
  GIVEN WITH THE SEED: the statements are not yours to turn. If you find one false, say at which input.
  Laid BY PROGRAM, IN A SANDBOX (cutbox-rows.mjs): the forced cells as the released guide's own fill.sh prints them over the translation ea3641a3e00eb361… (all of the seat's roots in one cut). By AI agents, Wed Nov 11 2026. No macro, syntax, notation, axiom, sorry.
-/
import Derived.Test.YteipkfoeghagaaaChecked
import GoSem.Claim
import GoSem.ClaimJoined
import GoSem.ClaimMapViews
import Derived.JoinedTies
import Derived.KernelRfl
namespace Go.Proofs.Yteipkfoeghagaaa
/- THE CELL 'sum', in the pinned program and in every row, IS THE sha256 OF THE DUMP (.gsa) THAT YteipkfoeghagaaaProg.lean LOADS. Nothing in Lean hashes anything: it is a label: what it is worth is what the hold of that sum in a sandbox is worth. -/
noncomputable def Try.pinned : Pinned := { name := "yteipkfoeghagaaa", sum := "ea3641a3e00eb36152d33e1eba07f44852809981ab0efeeb6aa5520c6809fa0d", checked := Try.checked }
namespace Rows
def none {H : Type} : Left H := { results := [], args := [] }

/-- 'laws.FnScaling': WHATEVER THE INPUT: true; the input reads as it did. -/
def fnScalingSpec : ChangeSpec := { name := "fnScaling", fn := fun _ => fun
  | [d] => { results := [.lit (.bool true)], args := [d] }
  | _ => none }
def fnScalingRow : OpenClaim := { program := "yteipkfoeghagaaa", sum := "ea3641a3e00eb36152d33e1eba07f44852809981ab0efeeb6aa5520c6809fa0d", func := "loop.example/g03313/laws.FnScaling", spec := "fnScaling", unfollowed := true, recurses := true, apart := false }
def FnScalingSaid : Prop := fnScalingRow.holds Try.pinned (OpenSpec.ofChange fnScalingSpec)

/-- ITS FALSE NEIGHBOUR: 'it returns false'. Refute it at one input. -/
def fnScalingWrong : ChangeSpec := { name := "fnScaling", fn := fun _ => fun
  | [d] => { results := [.lit (.bool false)], args := [d] }
  | _ => none }
def FnScalingWrongFalsely : Prop := fnScalingRow.holds Try.pinned (OpenSpec.ofChange fnScalingWrong)

/-- 'laws.FnExactScalePoint': WHATEVER THE INPUT: true; the input reads as it did. -/
def fnExactScalePointSpec : ChangeSpec := { name := "fnExactScalePoint", fn := fun _ => fun
  | [d1, d2, d3] => { results := [.lit (.bool true)], args := [d1, d2, d3] }
  | _ => none }
def fnExactScalePointRow : OpenClaim := { program := "yteipkfoeghagaaa", sum := "ea3641a3e00eb36152d33e1eba07f44852809981ab0efeeb6aa5520c6809fa0d", func := "loop.example/g03313/laws.FnExactScalePoint", spec := "fnExactScalePoint", apart := false }
def FnExactScalePointSaid : Prop := fnExactScalePointRow.holds Try.pinned (OpenSpec.ofChange fnExactScalePointSpec)

/-- ITS FALSE NEIGHBOUR: 'it returns false'. Refute it at one input. -/
def fnExactScalePointWrong : ChangeSpec := { name := "fnExactScalePoint", fn := fun _ => fun
  | [d1, d2, d3] => { results := [.lit (.bool false)], args := [d1, d2, d3] }
  | _ => none }
def FnExactScalePointWrongFalsely : Prop := fnExactScalePointRow.holds Try.pinned (OpenSpec.ofChange fnExactScalePointWrong)

/-- 'laws.FnExactScaled': WHATEVER THE INPUT: true; the input reads as it did. -/
def fnExactScaledSpec : ChangeSpec := { name := "fnExactScaled", fn := fun _ => fun
  | [d1, d2, d3] => { results := [.lit (.bool true)], args := [d1, d2, d3] }
  | _ => none }
def fnExactScaledRow : OpenClaim := { program := "yteipkfoeghagaaa", sum := "ea3641a3e00eb36152d33e1eba07f44852809981ab0efeeb6aa5520c6809fa0d", func := "loop.example/g03313/laws.FnExactScaled", spec := "fnExactScaled", unfollowed := true, recurses := true, apart := false }
def FnExactScaledSaid : Prop := fnExactScaledRow.holds Try.pinned (OpenSpec.ofChange fnExactScaledSpec)

/-- ITS FALSE NEIGHBOUR: 'it returns false'. Refute it at one input. -/
def fnExactScaledWrong : ChangeSpec := { name := "fnExactScaled", fn := fun _ => fun
  | [d1, d2, d3] => { results := [.lit (.bool false)], args := [d1, d2, d3] }
  | _ => none }
def FnExactScaledWrongFalsely : Prop := fnExactScaledRow.holds Try.pinned (OpenSpec.ofChange fnExactScaledWrong)

/-- 'laws.FnExactTileImage': WHATEVER THE INPUT: true; the input reads as it did. -/
def fnExactTileImageSpec : ChangeSpec := { name := "fnExactTileImage", fn := fun _ => fun
  | [d1, d2, d3] => { results := [.lit (.bool true)], args := [d1, d2, d3] }
  | _ => none }
def fnExactTileImageRow : OpenClaim := { program := "yteipkfoeghagaaa", sum := "ea3641a3e00eb36152d33e1eba07f44852809981ab0efeeb6aa5520c6809fa0d", func := "loop.example/g03313/laws.FnExactTileImage", spec := "fnExactTileImage", unfollowed := true, recurses := true, apart := false }
def FnExactTileImageSaid : Prop := fnExactTileImageRow.holds Try.pinned (OpenSpec.ofChange fnExactTileImageSpec)

/-- ITS FALSE NEIGHBOUR: 'it returns false'. Refute it at one input. -/
def fnExactTileImageWrong : ChangeSpec := { name := "fnExactTileImage", fn := fun _ => fun
  | [d1, d2, d3] => { results := [.lit (.bool false)], args := [d1, d2, d3] }
  | _ => none }
def FnExactTileImageWrongFalsely : Prop := fnExactTileImageRow.holds Try.pinned (OpenSpec.ofChange fnExactTileImageWrong)

/- THE SECOND FORM. 'bulk': how many values and letters a reading holds, each counted each time it is reached (what is shared counts as often as it is met; a slice's spare places count too). A statement '..UptoSaid' is the law's where the arguments, and the package variables that the reading takes, are together of bulk at most 1048576: NARROWER than '..Said'. Prove '..Said' where nothing that the law and all that it calls make is longer than what came in: it says more and counts as full. Else prove '..UptoSaid'. A law counts once. -/
mutual
def uptoBulk {H : Type} : DataW H → Nat
  | .lit (.string bytes) => bytes.length + 1
  | .lit _ => 1
  | .nil => 1
  | .ptr d => uptoBulk d + 1
  | .slice elems spare => uptoBulkAll elems + uptoBulkAll spare + 1
  | .agg parts => uptoBulkAll parts + 1
  | .iface _ d => uptoBulk d + 1
  | .map entries => uptoBulkEntries entries + 1
  | .held _ => 1
def uptoBulkAll {H : Type} : List (DataW H) → Nat
  | [] => 0
  | d :: r => uptoBulk d + uptoBulkAll r
def uptoBulkEntries {H : Type} : List (Lit × DataW H) → Nat
  | [] => 0
  | x :: r => uptoBulkEntry x + uptoBulkEntries r
def uptoBulkEntry {H : Type} : Lit × DataW H → Nat
  | (.string bytes, d) => bytes.length + uptoBulk d + 1
  | (_, d) => uptoBulk d + 1
 end
def uptoSmall : (H : Type) → List (DataW H) → Bool := fun _ ds => decide (uptoBulkAll ds ≤ 1048576)
def OpenSpec.upto (s : _root_.Go.ChangeSpec) : _root_.Go.OpenSpec := { _root_.Go.OpenSpec.ofChange s with cond := some uptoSmall }

/-- 'laws.FnScaling', WHERE WHAT IT READS IS OF BULK AT MOST 1048576: true; the input reads as it did. -/
def fnScalingUptoRow : OpenClaim := { program := "yteipkfoeghagaaa", sum := "ea3641a3e00eb36152d33e1eba07f44852809981ab0efeeb6aa5520c6809fa0d", func := "loop.example/g03313/laws.FnScaling", spec := "fnScaling", unfollowed := true, recurses := true, apart := false, narrowed := true }
def FnScalingUptoSaid : Prop := fnScalingUptoRow.holds Try.pinned (OpenSpec.upto fnScalingSpec)

/-- 'laws.FnExactScalePoint', WHERE WHAT IT READS IS OF BULK AT MOST 1048576: true; the input reads as it did. -/
def fnExactScalePointUptoRow : OpenClaim := { program := "yteipkfoeghagaaa", sum := "ea3641a3e00eb36152d33e1eba07f44852809981ab0efeeb6aa5520c6809fa0d", func := "loop.example/g03313/laws.FnExactScalePoint", spec := "fnExactScalePoint", apart := false, narrowed := true }
def FnExactScalePointUptoSaid : Prop := fnExactScalePointUptoRow.holds Try.pinned (OpenSpec.upto fnExactScalePointSpec)

/-- 'laws.FnExactScaled', WHERE WHAT IT READS IS OF BULK AT MOST 1048576: true; the input reads as it did. -/
def fnExactScaledUptoRow : OpenClaim := { program := "yteipkfoeghagaaa", sum := "ea3641a3e00eb36152d33e1eba07f44852809981ab0efeeb6aa5520c6809fa0d", func := "loop.example/g03313/laws.FnExactScaled", spec := "fnExactScaled", unfollowed := true, recurses := true, apart := false, narrowed := true }
def FnExactScaledUptoSaid : Prop := fnExactScaledUptoRow.holds Try.pinned (OpenSpec.upto fnExactScaledSpec)

/-- 'laws.FnExactTileImage', WHERE WHAT IT READS IS OF BULK AT MOST 1048576: true; the input reads as it did. -/
def fnExactTileImageUptoRow : OpenClaim := { program := "yteipkfoeghagaaa", sum := "ea3641a3e00eb36152d33e1eba07f44852809981ab0efeeb6aa5520c6809fa0d", func := "loop.example/g03313/laws.FnExactTileImage", spec := "fnExactTileImage", unfollowed := true, recurses := true, apart := false, narrowed := true }
def FnExactTileImageUptoSaid : Prop := fnExactTileImageUptoRow.holds Try.pinned (OpenSpec.upto fnExactTileImageSpec)

end Rows
end Go.Proofs.Yteipkfoeghagaaa
