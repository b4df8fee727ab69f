/-
  No cell of these rows narrows 'for every input' (looked for: loops, veiled, ifaces, maps, wideKeys, modest, calm, conditions, laid).
  DERIVED. THE GIVEN ROWS OF THIS SEAT. 6 by the template 'for every input the law returns true; each argument reads behind the call as it read before'; 0 by the template 'total and deterministic' (their statements: YtfolphadhmgbiaaGreatTotals.lean).
  GIVEN WITH THE SEED: the statements are not yours to turn. If you find one false, say at which input.
  Laid BY PROGRAM, IN A SANDBOX (cutbox-rows.mjs): the forced cells as the released guide's own fill.sh prints them over the translation 18783811d280495e… (all of the seat's roots in one cut). By AI agents, Wed Nov 11 2026. No macro, syntax, notation, axiom, sorry.
-/
import Derived.Test.YtfolphadhmgbiaaGreatChecked
import GoSem.Claim
import GoSem.ClaimJoined
import GoSem.ClaimMapViews
import Derived.JoinedTies
import Derived.KernelRfl
namespace Go.Proofs.YtfolphadhmgbiaaGreat
/- THE CELL 'sum', in the pinned program and in every row, IS THE sha256 OF THE DUMP (.gsa) THAT YtfolphadhmgbiaaGreatProg.lean LOADS. Nothing in Lean hashes anything: it is a label: what it is worth is what the hold of that sum in a sandbox is worth. -/
noncomputable def Tryz.pinned : Pinned := { name := "ytfolphadhmgbiaagreat", sum := "18783811d280495eda28b0bdcbe9b6b593e5c82df87345a956d4792e9d0159a3", checked := Tryz.checked }
namespace Rows
def none {H : Type} : Left H := { results := [], args := [] }

/-- 'laws.FnOccluded': WHATEVER THE INPUT: true; the input reads as it did. -/
def fnOccludedSpec : ChangeSpec := { name := "fnOccluded", fn := fun _ => fun
  | [d] => { results := [.lit (.bool true)], args := [d] }
  | _ => none }
def fnOccludedRow : OpenClaim := { program := "ytfolphadhmgbiaagreat", sum := "18783811d280495eda28b0bdcbe9b6b593e5c82df87345a956d4792e9d0159a3", func := "loop.example/g03313/laws.FnOccluded", spec := "fnOccluded", unfollowed := true, recurses := true, plainKeys := false, apart := false }
def FnOccludedSaid : Prop := fnOccludedRow.holds Tryz.pinned (OpenSpec.ofChange fnOccludedSpec)

/-- ITS FALSE NEIGHBOUR: 'it returns false'. Refute it at one input. -/
def fnOccludedWrong : ChangeSpec := { name := "fnOccluded", fn := fun _ => fun
  | [d] => { results := [.lit (.bool false)], args := [d] }
  | _ => none }
def FnOccludedWrongFalsely : Prop := fnOccludedRow.holds Tryz.pinned (OpenSpec.ofChange fnOccludedWrong)

/-- 'laws.FnHidden': WHATEVER THE INPUT: true; the input reads as it did. -/
def fnHiddenSpec : ChangeSpec := { name := "fnHidden", fn := fun _ => fun
  | [d] => { results := [.lit (.bool true)], args := [d] }
  | _ => none }
def fnHiddenRow : OpenClaim := { program := "ytfolphadhmgbiaagreat", sum := "18783811d280495eda28b0bdcbe9b6b593e5c82df87345a956d4792e9d0159a3", func := "loop.example/g03313/laws.FnHidden", spec := "fnHidden", unfollowed := true, recurses := true, plainKeys := false, apart := false }
def FnHiddenSaid : Prop := fnHiddenRow.holds Tryz.pinned (OpenSpec.ofChange fnHiddenSpec)

/-- ITS FALSE NEIGHBOUR: 'it returns false'. Refute it at one input. -/
def fnHiddenWrong : ChangeSpec := { name := "fnHidden", fn := fun _ => fun
  | [d] => { results := [.lit (.bool false)], args := [d] }
  | _ => none }
def FnHiddenWrongFalsely : Prop := fnHiddenRow.holds Tryz.pinned (OpenSpec.ofChange fnHiddenWrong)

/-- 'laws.FnExactPaintInto': WHATEVER THE INPUT: true; the input reads as it did. -/
def fnExactPaintIntoSpec : ChangeSpec := { name := "fnExactPaintInto", fn := fun _ => fun
  | [d1, d2, d3] => { results := [.lit (.bool true)], args := [d1, d2, d3] }
  | _ => none }
def fnExactPaintIntoRow : OpenClaim := { program := "ytfolphadhmgbiaagreat", sum := "18783811d280495eda28b0bdcbe9b6b593e5c82df87345a956d4792e9d0159a3", func := "loop.example/g03313/laws.FnExactPaintInto", spec := "fnExactPaintInto", unfollowed := true, recurses := true, plainKeys := false, apart := false }
def FnExactPaintIntoSaid : Prop := fnExactPaintIntoRow.holds Tryz.pinned (OpenSpec.ofChange fnExactPaintIntoSpec)

/-- ITS FALSE NEIGHBOUR: 'it returns false'. Refute it at one input. -/
def fnExactPaintIntoWrong : ChangeSpec := { name := "fnExactPaintInto", fn := fun _ => fun
  | [d1, d2, d3] => { results := [.lit (.bool false)], args := [d1, d2, d3] }
  | _ => none }
def FnExactPaintIntoWrongFalsely : Prop := fnExactPaintIntoRow.holds Tryz.pinned (OpenSpec.ofChange fnExactPaintIntoWrong)

/-- 'laws.FnExactColoredScene': WHATEVER THE INPUT: true; the input reads as it did. -/
def fnExactColoredSceneSpec : ChangeSpec := { name := "fnExactColoredScene", fn := fun _ => fun
  | [d1, d2] => { results := [.lit (.bool true)], args := [d1, d2] }
  | _ => none }
def fnExactColoredSceneRow : OpenClaim := { program := "ytfolphadhmgbiaagreat", sum := "18783811d280495eda28b0bdcbe9b6b593e5c82df87345a956d4792e9d0159a3", func := "loop.example/g03313/laws.FnExactColoredScene", spec := "fnExactColoredScene", unfollowed := true, recurses := true, plainKeys := false, apart := false }
def FnExactColoredSceneSaid : Prop := fnExactColoredSceneRow.holds Tryz.pinned (OpenSpec.ofChange fnExactColoredSceneSpec)

/-- ITS FALSE NEIGHBOUR: 'it returns false'. Refute it at one input. -/
def fnExactColoredSceneWrong : ChangeSpec := { name := "fnExactColoredScene", fn := fun _ => fun
  | [d1, d2] => { results := [.lit (.bool false)], args := [d1, d2] }
  | _ => none }
def FnExactColoredSceneWrongFalsely : Prop := fnExactColoredSceneRow.holds Tryz.pinned (OpenSpec.ofChange fnExactColoredSceneWrong)

/-- 'laws.FnExactVisibleOf': WHATEVER THE INPUT: true; the input reads as it did. -/
def fnExactVisibleOfSpec : ChangeSpec := { name := "fnExactVisibleOf", fn := fun _ => fun
  | [d1, d2] => { results := [.lit (.bool true)], args := [d1, d2] }
  | _ => none }
def fnExactVisibleOfRow : OpenClaim := { program := "ytfolphadhmgbiaagreat", sum := "18783811d280495eda28b0bdcbe9b6b593e5c82df87345a956d4792e9d0159a3", func := "loop.example/g03313/laws.FnExactVisibleOf", spec := "fnExactVisibleOf", unfollowed := true, recurses := true, plainKeys := false, apart := false }
def FnExactVisibleOfSaid : Prop := fnExactVisibleOfRow.holds Tryz.pinned (OpenSpec.ofChange fnExactVisibleOfSpec)

/-- ITS FALSE NEIGHBOUR: 'it returns false'. Refute it at one input. -/
def fnExactVisibleOfWrong : ChangeSpec := { name := "fnExactVisibleOf", fn := fun _ => fun
  | [d1, d2] => { results := [.lit (.bool false)], args := [d1, d2] }
  | _ => none }
def FnExactVisibleOfWrongFalsely : Prop := fnExactVisibleOfRow.holds Tryz.pinned (OpenSpec.ofChange fnExactVisibleOfWrong)

/-- 'laws.FnExactPaintVisible': WHATEVER THE INPUT: true; the input reads as it did. -/
def fnExactPaintVisibleSpec : ChangeSpec := { name := "fnExactPaintVisible", fn := fun _ => fun
  | [d] => { results := [.lit (.bool true)], args := [d] }
  | _ => none }
def fnExactPaintVisibleRow : OpenClaim := { program := "ytfolphadhmgbiaagreat", sum := "18783811d280495eda28b0bdcbe9b6b593e5c82df87345a956d4792e9d0159a3", func := "loop.example/g03313/laws.FnExactPaintVisible", spec := "fnExactPaintVisible", unfollowed := true, recurses := true, plainKeys := false, apart := false }
def FnExactPaintVisibleSaid : Prop := fnExactPaintVisibleRow.holds Tryz.pinned (OpenSpec.ofChange fnExactPaintVisibleSpec)

/-- ITS FALSE NEIGHBOUR: 'it returns false'. Refute it at one input. -/
def fnExactPaintVisibleWrong : ChangeSpec := { name := "fnExactPaintVisible", fn := fun _ => fun
  | [d] => { results := [.lit (.bool false)], args := [d] }
  | _ => none }
def FnExactPaintVisibleWrongFalsely : Prop := fnExactPaintVisibleRow.holds Tryz.pinned (OpenSpec.ofChange fnExactPaintVisibleWrong)

/- THE SECOND FORM. 'bulk': how many values and letters a reading holds, each counted each time it is reached (what is shared counts as often as it is met; a slice's spare places count too). A statement '..UptoSaid' is the law's where the arguments, and the package variables that the reading takes, are together of bulk at most 1048576: NARROWER than '..Said'. Prove '..Said' where nothing that the law and all that it calls make is longer than what came in: it says more and counts as full. Else prove '..UptoSaid'. A law counts once. -/
mutual
def uptoBulk {H : Type} : DataW H → Nat
  | .lit (.string bytes) => bytes.length + 1
  | .lit _ => 1
  | .nil => 1
  | .ptr d => uptoBulk d + 1
  | .slice elems spare => uptoBulkAll elems + uptoBulkAll spare + 1
  | .agg parts => uptoBulkAll parts + 1
  | .iface _ d => uptoBulk d + 1
  | .map entries => uptoBulkEntries entries + 1
  | .held _ => 1
def uptoBulkAll {H : Type} : List (DataW H) → Nat
  | [] => 0
  | d :: r => uptoBulk d + uptoBulkAll r
def uptoBulkEntries {H : Type} : List (Lit × DataW H) → Nat
  | [] => 0
  | x :: r => uptoBulkEntry x + uptoBulkEntries r
def uptoBulkEntry {H : Type} : Lit × DataW H → Nat
  | (.string bytes, d) => bytes.length + uptoBulk d + 1
  | (_, d) => uptoBulk d + 1
 end
def uptoSmall : (H : Type) → List (DataW H) → Bool := fun _ ds => decide (uptoBulkAll ds ≤ 1048576)
def OpenSpec.upto (s : _root_.Go.ChangeSpec) : _root_.Go.OpenSpec := { _root_.Go.OpenSpec.ofChange s with cond := some uptoSmall }

/-- 'laws.FnOccluded', WHERE WHAT IT READS IS OF BULK AT MOST 1048576: true; the input reads as it did. -/
def fnOccludedUptoRow : OpenClaim := { program := "ytfolphadhmgbiaagreat", sum := "18783811d280495eda28b0bdcbe9b6b593e5c82df87345a956d4792e9d0159a3", func := "loop.example/g03313/laws.FnOccluded", spec := "fnOccluded", unfollowed := true, recurses := true, plainKeys := false, apart := false, narrowed := true }
def FnOccludedUptoSaid : Prop := fnOccludedUptoRow.holds Tryz.pinned (OpenSpec.upto fnOccludedSpec)

/-- 'laws.FnHidden', WHERE WHAT IT READS IS OF BULK AT MOST 1048576: true; the input reads as it did. -/
def fnHiddenUptoRow : OpenClaim := { program := "ytfolphadhmgbiaagreat", sum := "18783811d280495eda28b0bdcbe9b6b593e5c82df87345a956d4792e9d0159a3", func := "loop.example/g03313/laws.FnHidden", spec := "fnHidden", unfollowed := true, recurses := true, plainKeys := false, apart := false, narrowed := true }
def FnHiddenUptoSaid : Prop := fnHiddenUptoRow.holds Tryz.pinned (OpenSpec.upto fnHiddenSpec)

/-- 'laws.FnExactPaintInto', WHERE WHAT IT READS IS OF BULK AT MOST 1048576: true; the input reads as it did. -/
def fnExactPaintIntoUptoRow : OpenClaim := { program := "ytfolphadhmgbiaagreat", sum := "18783811d280495eda28b0bdcbe9b6b593e5c82df87345a956d4792e9d0159a3", func := "loop.example/g03313/laws.FnExactPaintInto", spec := "fnExactPaintInto", unfollowed := true, recurses := true, plainKeys := false, apart := false, narrowed := true }
def FnExactPaintIntoUptoSaid : Prop := fnExactPaintIntoUptoRow.holds Tryz.pinned (OpenSpec.upto fnExactPaintIntoSpec)

/-- 'laws.FnExactColoredScene', WHERE WHAT IT READS IS OF BULK AT MOST 1048576: true; the input reads as it did. -/
def fnExactColoredSceneUptoRow : OpenClaim := { program := "ytfolphadhmgbiaagreat", sum := "18783811d280495eda28b0bdcbe9b6b593e5c82df87345a956d4792e9d0159a3", func := "loop.example/g03313/laws.FnExactColoredScene", spec := "fnExactColoredScene", unfollowed := true, recurses := true, plainKeys := false, apart := false, narrowed := true }
def FnExactColoredSceneUptoSaid : Prop := fnExactColoredSceneUptoRow.holds Tryz.pinned (OpenSpec.upto fnExactColoredSceneSpec)

/-- 'laws.FnExactVisibleOf', WHERE WHAT IT READS IS OF BULK AT MOST 1048576: true; the input reads as it did. -/
def fnExactVisibleOfUptoRow : OpenClaim := { program := "ytfolphadhmgbiaagreat", sum := "18783811d280495eda28b0bdcbe9b6b593e5c82df87345a956d4792e9d0159a3", func := "loop.example/g03313/laws.FnExactVisibleOf", spec := "fnExactVisibleOf", unfollowed := true, recurses := true, plainKeys := false, apart := false, narrowed := true }
def FnExactVisibleOfUptoSaid : Prop := fnExactVisibleOfUptoRow.holds Tryz.pinned (OpenSpec.upto fnExactVisibleOfSpec)

/-- 'laws.FnExactPaintVisible', WHERE WHAT IT READS IS OF BULK AT MOST 1048576: true; the input reads as it did. -/
def fnExactPaintVisibleUptoRow : OpenClaim := { program := "ytfolphadhmgbiaagreat", sum := "18783811d280495eda28b0bdcbe9b6b593e5c82df87345a956d4792e9d0159a3", func := "loop.example/g03313/laws.FnExactPaintVisible", spec := "fnExactPaintVisible", unfollowed := true, recurses := true, plainKeys := false, apart := false, narrowed := true }
def FnExactPaintVisibleUptoSaid : Prop := fnExactPaintVisibleUptoRow.holds Tryz.pinned (OpenSpec.upto fnExactPaintVisibleSpec)

end Rows
end Go.Proofs.YtfolphadhmgbiaaGreat
