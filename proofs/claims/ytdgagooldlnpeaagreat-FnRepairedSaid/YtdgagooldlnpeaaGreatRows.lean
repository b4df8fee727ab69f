/-
  No cell of these rows narrows 'for every input' (looked for: loops, veiled, ifaces, maps, wideKeys, modest, calm, conditions, laid).
  DERIVED. THE GIVEN ROWS OF THIS SEAT. 8 by the template 'for every input the law returns true; each argument reads behind the call as it read before'; 0 by the template 'total and deterministic' (their statements: YtdgagooldlnpeaaGreatTotals.lean).
  GIVEN WITH THE SEED: the statements are not yours to turn. If you find one false, say at which input.
  Laid BY PROGRAM, IN A SANDBOX (cutbox-rows.mjs): the forced cells as the released guide's own fill.sh prints them over the translation 4f274bbf627b2b9e… (all of the seat's roots in one cut). By AI agents, Wed Nov 11 2026. No macro, syntax, notation, axiom, sorry.
-/
import Derived.Test.YtdgagooldlnpeaaGreatChecked
import GoSem.Claim
import GoSem.ClaimJoined
import GoSem.ClaimMapViews
import Derived.JoinedTies
import Derived.KernelRfl
namespace Go.Proofs.YtdgagooldlnpeaaGreat
/- THE CELL 'sum', in the pinned program and in every row, IS THE sha256 OF THE DUMP (.gsa) THAT YtdgagooldlnpeaaGreatProg.lean LOADS. Nothing in Lean hashes anything: it is a label: what it is worth is what the hold of that sum in a sandbox is worth. -/
noncomputable def Tryz.pinned : Pinned := { name := "ytdgagooldlnpeaagreat", sum := "4f274bbf627b2b9edfcdbd5719c65e7c6862db6ae42bbc8fcaabb0193b9d86a6", checked := Tryz.checked }
namespace Rows
def none {H : Type} : Left H := { results := [], args := [] }

/-- 'laws.FnExactEditDamage': WHATEVER THE INPUT: true; the input reads as it did. -/
def fnExactEditDamageSpec : ChangeSpec := { name := "fnExactEditDamage", fn := fun _ => fun
  | [d1, d2] => { results := [.lit (.bool true)], args := [d1, d2] }
  | _ => none }
def fnExactEditDamageRow : OpenClaim := { program := "ytdgagooldlnpeaagreat", sum := "4f274bbf627b2b9edfcdbd5719c65e7c6862db6ae42bbc8fcaabb0193b9d86a6", func := "loop.example/g03313/laws.FnExactEditDamage", spec := "fnExactEditDamage", unfollowed := true, recurses := true, plainKeys := false, apart := false }
def FnExactEditDamageSaid : Prop := fnExactEditDamageRow.holds Tryz.pinned (OpenSpec.ofChange fnExactEditDamageSpec)

/-- ITS FALSE NEIGHBOUR: 'it returns false'. Refute it at one input. -/
def fnExactEditDamageWrong : ChangeSpec := { name := "fnExactEditDamage", fn := fun _ => fun
  | [d1, d2] => { results := [.lit (.bool false)], args := [d1, d2] }
  | _ => none }
def FnExactEditDamageWrongFalsely : Prop := fnExactEditDamageRow.holds Tryz.pinned (OpenSpec.ofChange fnExactEditDamageWrong)

/-- 'laws.FnDamageEnough': WHATEVER THE INPUT: true; the input reads as it did. -/
def fnDamageEnoughSpec : ChangeSpec := { name := "fnDamageEnough", fn := fun _ => fun
  | [d] => { results := [.lit (.bool true)], args := [d] }
  | _ => none }
def fnDamageEnoughRow : OpenClaim := { program := "ytdgagooldlnpeaagreat", sum := "4f274bbf627b2b9edfcdbd5719c65e7c6862db6ae42bbc8fcaabb0193b9d86a6", func := "loop.example/g03313/laws.FnDamageEnough", spec := "fnDamageEnough", unfollowed := true, recurses := true, plainKeys := false, apart := false }
def FnDamageEnoughSaid : Prop := fnDamageEnoughRow.holds Tryz.pinned (OpenSpec.ofChange fnDamageEnoughSpec)

/-- ITS FALSE NEIGHBOUR: 'it returns false'. Refute it at one input. -/
def fnDamageEnoughWrong : ChangeSpec := { name := "fnDamageEnough", fn := fun _ => fun
  | [d] => { results := [.lit (.bool false)], args := [d] }
  | _ => none }
def FnDamageEnoughWrongFalsely : Prop := fnDamageEnoughRow.holds Tryz.pinned (OpenSpec.ofChange fnDamageEnoughWrong)

/-- 'laws.FnRepaired': WHATEVER THE INPUT: true; the input reads as it did. -/
def fnRepairedSpec : ChangeSpec := { name := "fnRepaired", fn := fun _ => fun
  | [d] => { results := [.lit (.bool true)], args := [d] }
  | _ => none }
def fnRepairedRow : OpenClaim := { program := "ytdgagooldlnpeaagreat", sum := "4f274bbf627b2b9edfcdbd5719c65e7c6862db6ae42bbc8fcaabb0193b9d86a6", func := "loop.example/g03313/laws.FnRepaired", spec := "fnRepaired", unfollowed := true, recurses := true, plainKeys := false, apart := false }
def FnRepairedSaid : Prop := fnRepairedRow.holds Tryz.pinned (OpenSpec.ofChange fnRepairedSpec)

/-- ITS FALSE NEIGHBOUR: 'it returns false'. Refute it at one input. -/
def fnRepairedWrong : ChangeSpec := { name := "fnRepaired", fn := fun _ => fun
  | [d] => { results := [.lit (.bool false)], args := [d] }
  | _ => none }
def FnRepairedWrongFalsely : Prop := fnRepairedRow.holds Tryz.pinned (OpenSpec.ofChange fnRepairedWrong)

/-- 'laws.FnExactColoredScene': WHATEVER THE INPUT: true; the input reads as it did. -/
def fnExactColoredSceneSpec : ChangeSpec := { name := "fnExactColoredScene", fn := fun _ => fun
  | [d1, d2] => { results := [.lit (.bool true)], args := [d1, d2] }
  | _ => none }
def fnExactColoredSceneRow : OpenClaim := { program := "ytdgagooldlnpeaagreat", sum := "4f274bbf627b2b9edfcdbd5719c65e7c6862db6ae42bbc8fcaabb0193b9d86a6", func := "loop.example/g03313/laws.FnExactColoredScene", spec := "fnExactColoredScene", unfollowed := true, recurses := true, plainKeys := false, apart := false }
def FnExactColoredSceneSaid : Prop := fnExactColoredSceneRow.holds Tryz.pinned (OpenSpec.ofChange fnExactColoredSceneSpec)

/-- ITS FALSE NEIGHBOUR: 'it returns false'. Refute it at one input. -/
def fnExactColoredSceneWrong : ChangeSpec := { name := "fnExactColoredScene", fn := fun _ => fun
  | [d1, d2] => { results := [.lit (.bool false)], args := [d1, d2] }
  | _ => none }
def FnExactColoredSceneWrongFalsely : Prop := fnExactColoredSceneRow.holds Tryz.pinned (OpenSpec.ofChange fnExactColoredSceneWrong)

/-- 'laws.FnExactPaintInto': WHATEVER THE INPUT: true; the input reads as it did. -/
def fnExactPaintIntoSpec : ChangeSpec := { name := "fnExactPaintInto", fn := fun _ => fun
  | [d1, d2, d3] => { results := [.lit (.bool true)], args := [d1, d2, d3] }
  | _ => none }
def fnExactPaintIntoRow : OpenClaim := { program := "ytdgagooldlnpeaagreat", sum := "4f274bbf627b2b9edfcdbd5719c65e7c6862db6ae42bbc8fcaabb0193b9d86a6", func := "loop.example/g03313/laws.FnExactPaintInto", spec := "fnExactPaintInto", unfollowed := true, recurses := true, plainKeys := false, apart := false }
def FnExactPaintIntoSaid : Prop := fnExactPaintIntoRow.holds Tryz.pinned (OpenSpec.ofChange fnExactPaintIntoSpec)

/-- ITS FALSE NEIGHBOUR: 'it returns false'. Refute it at one input. -/
def fnExactPaintIntoWrong : ChangeSpec := { name := "fnExactPaintInto", fn := fun _ => fun
  | [d1, d2, d3] => { results := [.lit (.bool false)], args := [d1, d2, d3] }
  | _ => none }
def FnExactPaintIntoWrongFalsely : Prop := fnExactPaintIntoRow.holds Tryz.pinned (OpenSpec.ofChange fnExactPaintIntoWrong)

/-- 'laws.FnOccluded': WHATEVER THE INPUT: true; the input reads as it did. -/
def fnOccludedSpec : ChangeSpec := { name := "fnOccluded", fn := fun _ => fun
  | [d] => { results := [.lit (.bool true)], args := [d] }
  | _ => none }
def fnOccludedRow : OpenClaim := { program := "ytdgagooldlnpeaagreat", sum := "4f274bbf627b2b9edfcdbd5719c65e7c6862db6ae42bbc8fcaabb0193b9d86a6", func := "loop.example/g03313/laws.FnOccluded", spec := "fnOccluded", unfollowed := true, recurses := true, plainKeys := false, apart := false }
def FnOccludedSaid : Prop := fnOccludedRow.holds Tryz.pinned (OpenSpec.ofChange fnOccludedSpec)

/-- ITS FALSE NEIGHBOUR: 'it returns false'. Refute it at one input. -/
def fnOccludedWrong : ChangeSpec := { name := "fnOccluded", fn := fun _ => fun
  | [d] => { results := [.lit (.bool false)], args := [d] }
  | _ => none }
def FnOccludedWrongFalsely : Prop := fnOccludedRow.holds Tryz.pinned (OpenSpec.ofChange fnOccludedWrong)

/-- 'laws.FnHidden': WHATEVER THE INPUT: true; the input reads as it did. -/
def fnHiddenSpec : ChangeSpec := { name := "fnHidden", fn := fun _ => fun
  | [d] => { results := [.lit (.bool true)], args := [d] }
  | _ => none }
def fnHiddenRow : OpenClaim := { program := "ytdgagooldlnpeaagreat", sum := "4f274bbf627b2b9edfcdbd5719c65e7c6862db6ae42bbc8fcaabb0193b9d86a6", func := "loop.example/g03313/laws.FnHidden", spec := "fnHidden", unfollowed := true, recurses := true, plainKeys := false, apart := false }
def FnHiddenSaid : Prop := fnHiddenRow.holds Tryz.pinned (OpenSpec.ofChange fnHiddenSpec)

/-- ITS FALSE NEIGHBOUR: 'it returns false'. Refute it at one input. -/
def fnHiddenWrong : ChangeSpec := { name := "fnHidden", fn := fun _ => fun
  | [d] => { results := [.lit (.bool false)], args := [d] }
  | _ => none }
def FnHiddenWrongFalsely : Prop := fnHiddenRow.holds Tryz.pinned (OpenSpec.ofChange fnHiddenWrong)

/-- 'laws.FnExactPaintVisible': WHATEVER THE INPUT: true; the input reads as it did. -/
def fnExactPaintVisibleSpec : ChangeSpec := { name := "fnExactPaintVisible", fn := fun _ => fun
  | [d] => { results := [.lit (.bool true)], args := [d] }
  | _ => none }
def fnExactPaintVisibleRow : OpenClaim := { program := "ytdgagooldlnpeaagreat", sum := "4f274bbf627b2b9edfcdbd5719c65e7c6862db6ae42bbc8fcaabb0193b9d86a6", func := "loop.example/g03313/laws.FnExactPaintVisible", spec := "fnExactPaintVisible", unfollowed := true, recurses := true, plainKeys := false, apart := false }
def FnExactPaintVisibleSaid : Prop := fnExactPaintVisibleRow.holds Tryz.pinned (OpenSpec.ofChange fnExactPaintVisibleSpec)

/-- ITS FALSE NEIGHBOUR: 'it returns false'. Refute it at one input. -/
def fnExactPaintVisibleWrong : ChangeSpec := { name := "fnExactPaintVisible", fn := fun _ => fun
  | [d] => { results := [.lit (.bool false)], args := [d] }
  | _ => none }
def FnExactPaintVisibleWrongFalsely : Prop := fnExactPaintVisibleRow.holds Tryz.pinned (OpenSpec.ofChange fnExactPaintVisibleWrong)

/- THE SECOND FORM. 'bulk': how many values and letters a reading holds, each counted each time it is reached (what is shared counts as often as it is met; a slice's spare places count too). A statement '..UptoSaid' is the law's where the arguments, and the package variables that the reading takes, are together of bulk at most 1048576: NARROWER than '..Said'. Prove '..Said' where nothing that the law and all that it calls make is longer than what came in: it says more and counts as full. Else prove '..UptoSaid'. A law counts once. -/
mutual
def uptoBulk {H : Type} : DataW H → Nat
  | .lit (.string bytes) => bytes.length + 1
  | .lit _ => 1
  | .nil => 1
  | .ptr d => uptoBulk d + 1
  | .slice elems spare => uptoBulkAll elems + uptoBulkAll spare + 1
  | .agg parts => uptoBulkAll parts + 1
  | .iface _ d => uptoBulk d + 1
  | .map entries => uptoBulkEntries entries + 1
  | .held _ => 1
def uptoBulkAll {H : Type} : List (DataW H) → Nat
  | [] => 0
  | d :: r => uptoBulk d + uptoBulkAll r
def uptoBulkEntries {H : Type} : List (Lit × DataW H) → Nat
  | [] => 0
  | x :: r => uptoBulkEntry x + uptoBulkEntries r
def uptoBulkEntry {H : Type} : Lit × DataW H → Nat
  | (.string bytes, d) => bytes.length + uptoBulk d + 1
  | (_, d) => uptoBulk d + 1
 end
def uptoSmall : (H : Type) → List (DataW H) → Bool := fun _ ds => decide (uptoBulkAll ds ≤ 1048576)
def OpenSpec.upto (s : _root_.Go.ChangeSpec) : _root_.Go.OpenSpec := { _root_.Go.OpenSpec.ofChange s with cond := some uptoSmall }

/-- 'laws.FnExactEditDamage', WHERE WHAT IT READS IS OF BULK AT MOST 1048576: true; the input reads as it did. -/
def fnExactEditDamageUptoRow : OpenClaim := { program := "ytdgagooldlnpeaagreat", sum := "4f274bbf627b2b9edfcdbd5719c65e7c6862db6ae42bbc8fcaabb0193b9d86a6", func := "loop.example/g03313/laws.FnExactEditDamage", spec := "fnExactEditDamage", unfollowed := true, recurses := true, plainKeys := false, apart := false, narrowed := true }
def FnExactEditDamageUptoSaid : Prop := fnExactEditDamageUptoRow.holds Tryz.pinned (OpenSpec.upto fnExactEditDamageSpec)

/-- 'laws.FnDamageEnough', WHERE WHAT IT READS IS OF BULK AT MOST 1048576: true; the input reads as it did. -/
def fnDamageEnoughUptoRow : OpenClaim := { program := "ytdgagooldlnpeaagreat", sum := "4f274bbf627b2b9edfcdbd5719c65e7c6862db6ae42bbc8fcaabb0193b9d86a6", func := "loop.example/g03313/laws.FnDamageEnough", spec := "fnDamageEnough", unfollowed := true, recurses := true, plainKeys := false, apart := false, narrowed := true }
def FnDamageEnoughUptoSaid : Prop := fnDamageEnoughUptoRow.holds Tryz.pinned (OpenSpec.upto fnDamageEnoughSpec)

/-- 'laws.FnRepaired', WHERE WHAT IT READS IS OF BULK AT MOST 1048576: true; the input reads as it did. -/
def fnRepairedUptoRow : OpenClaim := { program := "ytdgagooldlnpeaagreat", sum := "4f274bbf627b2b9edfcdbd5719c65e7c6862db6ae42bbc8fcaabb0193b9d86a6", func := "loop.example/g03313/laws.FnRepaired", spec := "fnRepaired", unfollowed := true, recurses := true, plainKeys := false, apart := false, narrowed := true }
def FnRepairedUptoSaid : Prop := fnRepairedUptoRow.holds Tryz.pinned (OpenSpec.upto fnRepairedSpec)

/-- 'laws.FnExactColoredScene', WHERE WHAT IT READS IS OF BULK AT MOST 1048576: true; the input reads as it did. -/
def fnExactColoredSceneUptoRow : OpenClaim := { program := "ytdgagooldlnpeaagreat", sum := "4f274bbf627b2b9edfcdbd5719c65e7c6862db6ae42bbc8fcaabb0193b9d86a6", func := "loop.example/g03313/laws.FnExactColoredScene", spec := "fnExactColoredScene", unfollowed := true, recurses := true, plainKeys := false, apart := false, narrowed := true }
def FnExactColoredSceneUptoSaid : Prop := fnExactColoredSceneUptoRow.holds Tryz.pinned (OpenSpec.upto fnExactColoredSceneSpec)

/-- 'laws.FnExactPaintInto', WHERE WHAT IT READS IS OF BULK AT MOST 1048576: true; the input reads as it did. -/
def fnExactPaintIntoUptoRow : OpenClaim := { program := "ytdgagooldlnpeaagreat", sum := "4f274bbf627b2b9edfcdbd5719c65e7c6862db6ae42bbc8fcaabb0193b9d86a6", func := "loop.example/g03313/laws.FnExactPaintInto", spec := "fnExactPaintInto", unfollowed := true, recurses := true, plainKeys := false, apart := false, narrowed := true }
def FnExactPaintIntoUptoSaid : Prop := fnExactPaintIntoUptoRow.holds Tryz.pinned (OpenSpec.upto fnExactPaintIntoSpec)

/-- 'laws.FnOccluded', WHERE WHAT IT READS IS OF BULK AT MOST 1048576: true; the input reads as it did. -/
def fnOccludedUptoRow : OpenClaim := { program := "ytdgagooldlnpeaagreat", sum := "4f274bbf627b2b9edfcdbd5719c65e7c6862db6ae42bbc8fcaabb0193b9d86a6", func := "loop.example/g03313/laws.FnOccluded", spec := "fnOccluded", unfollowed := true, recurses := true, plainKeys := false, apart := false, narrowed := true }
def FnOccludedUptoSaid : Prop := fnOccludedUptoRow.holds Tryz.pinned (OpenSpec.upto fnOccludedSpec)

/-- 'laws.FnHidden', WHERE WHAT IT READS IS OF BULK AT MOST 1048576: true; the input reads as it did. -/
def fnHiddenUptoRow : OpenClaim := { program := "ytdgagooldlnpeaagreat", sum := "4f274bbf627b2b9edfcdbd5719c65e7c6862db6ae42bbc8fcaabb0193b9d86a6", func := "loop.example/g03313/laws.FnHidden", spec := "fnHidden", unfollowed := true, recurses := true, plainKeys := false, apart := false, narrowed := true }
def FnHiddenUptoSaid : Prop := fnHiddenUptoRow.holds Tryz.pinned (OpenSpec.upto fnHiddenSpec)

/-- 'laws.FnExactPaintVisible', WHERE WHAT IT READS IS OF BULK AT MOST 1048576: true; the input reads as it did. -/
def fnExactPaintVisibleUptoRow : OpenClaim := { program := "ytdgagooldlnpeaagreat", sum := "4f274bbf627b2b9edfcdbd5719c65e7c6862db6ae42bbc8fcaabb0193b9d86a6", func := "loop.example/g03313/laws.FnExactPaintVisible", spec := "fnExactPaintVisible", unfollowed := true, recurses := true, plainKeys := false, apart := false, narrowed := true }
def FnExactPaintVisibleUptoSaid : Prop := fnExactPaintVisibleUptoRow.holds Tryz.pinned (OpenSpec.upto fnExactPaintVisibleSpec)

end Rows
end Go.Proofs.YtdgagooldlnpeaaGreat
