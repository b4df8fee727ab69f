/-
  No cell of these rows narrows 'for every input' (looked for: loops, veiled, ifaces, maps, wideKeys, modest, calm, conditions, laid).
  DERIVED. THE GIVEN ROWS OF THIS SEAT. 6 by the template 'for every input the law returns true; each argument reads behind the call as it read before'; 0 by the template 'total and deterministic' (their statements: YtokniebejilcbaaGreatTotals.lean).
  GIVEN WITH THE SEED: the statements are not yours to turn. If you find one false, say at which input.
  Laid BY PROGRAM, IN A SANDBOX (cutbox-rows.mjs): the forced cells as the released guide's own fill.sh prints them over the translation e22d84f5cec78657… (all of the seat's roots in one cut). By AI agents, Wed Nov 11 2026. No macro, syntax, notation, axiom, sorry.
-/
import Derived.Test.YtokniebejilcbaaGreatChecked
import GoSem.Claim
import GoSem.ClaimJoined
import GoSem.ClaimMapViews
import Derived.JoinedTies
import Derived.KernelRfl
namespace Go.Proofs.YtokniebejilcbaaGreat
/- THE CELL 'sum', in the pinned program and in every row, IS THE sha256 OF THE DUMP (.gsa) THAT YtokniebejilcbaaGreatProg.lean LOADS. Nothing in Lean hashes anything: it is a label: what it is worth is what the hold of that sum in a sandbox is worth. -/
noncomputable def Tryz.pinned : Pinned := { name := "ytokniebejilcbaagreat", sum := "e22d84f5cec786579e0aafa1849ea73c34bb3450e20c89d6fbafbf9fa6be6d33", checked := Tryz.checked }
namespace Rows
def none {H : Type} : Left H := { results := [], args := [] }

/-- 'laws.FnExactEditDamage': WHATEVER THE INPUT: true; the input reads as it did. -/
def fnExactEditDamageSpec : ChangeSpec := { name := "fnExactEditDamage", fn := fun _ => fun
  | [d1, d2] => { results := [.lit (.bool true)], args := [d1, d2] }
  | _ => none }
def fnExactEditDamageRow : OpenClaim := { program := "ytokniebejilcbaagreat", sum := "e22d84f5cec786579e0aafa1849ea73c34bb3450e20c89d6fbafbf9fa6be6d33", func := "loop.example/g03313/laws.FnExactEditDamage", spec := "fnExactEditDamage", unfollowed := true, recurses := true, apart := false }
def FnExactEditDamageSaid : Prop := fnExactEditDamageRow.holds Tryz.pinned (OpenSpec.ofChange fnExactEditDamageSpec)

/-- ITS FALSE NEIGHBOUR: 'it returns false'. Refute it at one input. -/
def fnExactEditDamageWrong : ChangeSpec := { name := "fnExactEditDamage", fn := fun _ => fun
  | [d1, d2] => { results := [.lit (.bool false)], args := [d1, d2] }
  | _ => none }
def FnExactEditDamageWrongFalsely : Prop := fnExactEditDamageRow.holds Tryz.pinned (OpenSpec.ofChange fnExactEditDamageWrong)

/-- 'laws.FnDamageEnough': WHATEVER THE INPUT: true; the input reads as it did. -/
def fnDamageEnoughSpec : ChangeSpec := { name := "fnDamageEnough", fn := fun _ => fun
  | [d] => { results := [.lit (.bool true)], args := [d] }
  | _ => none }
def fnDamageEnoughRow : OpenClaim := { program := "ytokniebejilcbaagreat", sum := "e22d84f5cec786579e0aafa1849ea73c34bb3450e20c89d6fbafbf9fa6be6d33", func := "loop.example/g03313/laws.FnDamageEnough", spec := "fnDamageEnough", unfollowed := true, recurses := true, apart := false }
def FnDamageEnoughSaid : Prop := fnDamageEnoughRow.holds Tryz.pinned (OpenSpec.ofChange fnDamageEnoughSpec)

/-- ITS FALSE NEIGHBOUR: 'it returns false'. Refute it at one input. -/
def fnDamageEnoughWrong : ChangeSpec := { name := "fnDamageEnough", fn := fun _ => fun
  | [d] => { results := [.lit (.bool false)], args := [d] }
  | _ => none }
def FnDamageEnoughWrongFalsely : Prop := fnDamageEnoughRow.holds Tryz.pinned (OpenSpec.ofChange fnDamageEnoughWrong)

/-- 'laws.FnRepaired': WHATEVER THE INPUT: true; the input reads as it did. -/
def fnRepairedSpec : ChangeSpec := { name := "fnRepaired", fn := fun _ => fun
  | [d] => { results := [.lit (.bool true)], args := [d] }
  | _ => none }
def fnRepairedRow : OpenClaim := { program := "ytokniebejilcbaagreat", sum := "e22d84f5cec786579e0aafa1849ea73c34bb3450e20c89d6fbafbf9fa6be6d33", func := "loop.example/g03313/laws.FnRepaired", spec := "fnRepaired", unfollowed := true, recurses := true, apart := false }
def FnRepairedSaid : Prop := fnRepairedRow.holds Tryz.pinned (OpenSpec.ofChange fnRepairedSpec)

/-- ITS FALSE NEIGHBOUR: 'it returns false'. Refute it at one input. -/
def fnRepairedWrong : ChangeSpec := { name := "fnRepaired", fn := fun _ => fun
  | [d] => { results := [.lit (.bool false)], args := [d] }
  | _ => none }
def FnRepairedWrongFalsely : Prop := fnRepairedRow.holds Tryz.pinned (OpenSpec.ofChange fnRepairedWrong)

/-- 'laws.FnExactPresent': WHATEVER THE INPUT: true; the input reads as it did. -/
def fnExactPresentSpec : ChangeSpec := { name := "fnExactPresent", fn := fun _ => fun
  | [d1, d2] => { results := [.lit (.bool true)], args := [d1, d2] }
  | _ => none }
def fnExactPresentRow : OpenClaim := { program := "ytokniebejilcbaagreat", sum := "e22d84f5cec786579e0aafa1849ea73c34bb3450e20c89d6fbafbf9fa6be6d33", func := "loop.example/g03313/laws.FnExactPresent", spec := "fnExactPresent", inPlace := ["slices.overlaps[loop.example/g03313/impl.Region]"], unfollowed := true, recurses := true, apart := false }
def FnExactPresentSaid : Prop := fnExactPresentRow.holds Tryz.pinned (OpenSpec.ofChange fnExactPresentSpec)

/-- ITS FALSE NEIGHBOUR: 'it returns false'. Refute it at one input. -/
def fnExactPresentWrong : ChangeSpec := { name := "fnExactPresent", fn := fun _ => fun
  | [d1, d2] => { results := [.lit (.bool false)], args := [d1, d2] }
  | _ => none }
def FnExactPresentWrongFalsely : Prop := fnExactPresentRow.holds Tryz.pinned (OpenSpec.ofChange fnExactPresentWrong)

/-- 'laws.FnAllShown': WHATEVER THE INPUT: true; the input reads as it did. -/
def fnAllShownSpec : ChangeSpec := { name := "fnAllShown", fn := fun _ => fun
  | [d] => { results := [.lit (.bool true)], args := [d] }
  | _ => none }
def fnAllShownRow : OpenClaim := { program := "ytokniebejilcbaagreat", sum := "e22d84f5cec786579e0aafa1849ea73c34bb3450e20c89d6fbafbf9fa6be6d33", func := "loop.example/g03313/laws.FnAllShown", spec := "fnAllShown", inPlace := ["slices.overlaps[loop.example/g03313/impl.Region]"], unfollowed := true, recurses := true, apart := false }
def FnAllShownSaid : Prop := fnAllShownRow.holds Tryz.pinned (OpenSpec.ofChange fnAllShownSpec)

/-- ITS FALSE NEIGHBOUR: 'it returns false'. Refute it at one input. -/
def fnAllShownWrong : ChangeSpec := { name := "fnAllShown", fn := fun _ => fun
  | [d] => { results := [.lit (.bool false)], args := [d] }
  | _ => none }
def FnAllShownWrongFalsely : Prop := fnAllShownRow.holds Tryz.pinned (OpenSpec.ofChange fnAllShownWrong)

/-- 'laws.FnAged': WHATEVER THE INPUT: true; the input reads as it did. -/
def fnAgedSpec : ChangeSpec := { name := "fnAged", fn := fun _ => fun
  | [d] => { results := [.lit (.bool true)], args := [d] }
  | _ => none }
def fnAgedRow : OpenClaim := { program := "ytokniebejilcbaagreat", sum := "e22d84f5cec786579e0aafa1849ea73c34bb3450e20c89d6fbafbf9fa6be6d33", func := "loop.example/g03313/laws.FnAged", spec := "fnAged", inPlace := ["slices.overlaps[loop.example/g03313/impl.Region]"], unfollowed := true, recurses := true, apart := false }
def FnAgedSaid : Prop := fnAgedRow.holds Tryz.pinned (OpenSpec.ofChange fnAgedSpec)

/-- ITS FALSE NEIGHBOUR: 'it returns false'. Refute it at one input. -/
def fnAgedWrong : ChangeSpec := { name := "fnAged", fn := fun _ => fun
  | [d] => { results := [.lit (.bool false)], args := [d] }
  | _ => none }
def FnAgedWrongFalsely : Prop := fnAgedRow.holds Tryz.pinned (OpenSpec.ofChange fnAgedWrong)

/- THE SECOND FORM. 'bulk': how many values and letters a reading holds, each counted each time it is reached (what is shared counts as often as it is met; a slice's spare places count too). A statement '..UptoSaid' is the law's where the arguments, and the package variables that the reading takes, are together of bulk at most 1048576: NARROWER than '..Said'. Prove '..Said' where nothing that the law and all that it calls make is longer than what came in: it says more and counts as full. Else prove '..UptoSaid'. A law counts once. -/
mutual
def uptoBulk {H : Type} : DataW H → Nat
  | .lit (.string bytes) => bytes.length + 1
  | .lit _ => 1
  | .nil => 1
  | .ptr d => uptoBulk d + 1
  | .slice elems spare => uptoBulkAll elems + uptoBulkAll spare + 1
  | .agg parts => uptoBulkAll parts + 1
  | .iface _ d => uptoBulk d + 1
  | .map entries => uptoBulkEntries entries + 1
  | .held _ => 1
def uptoBulkAll {H : Type} : List (DataW H) → Nat
  | [] => 0
  | d :: r => uptoBulk d + uptoBulkAll r
def uptoBulkEntries {H : Type} : List (Lit × DataW H) → Nat
  | [] => 0
  | x :: r => uptoBulkEntry x + uptoBulkEntries r
def uptoBulkEntry {H : Type} : Lit × DataW H → Nat
  | (.string bytes, d) => bytes.length + uptoBulk d + 1
  | (_, d) => uptoBulk d + 1
 end
def uptoSmall : (H : Type) → List (DataW H) → Bool := fun _ ds => decide (uptoBulkAll ds ≤ 1048576)
def OpenSpec.upto (s : _root_.Go.ChangeSpec) : _root_.Go.OpenSpec := { _root_.Go.OpenSpec.ofChange s with cond := some uptoSmall }

/-- 'laws.FnExactEditDamage', WHERE WHAT IT READS IS OF BULK AT MOST 1048576: true; the input reads as it did. -/
def fnExactEditDamageUptoRow : OpenClaim := { program := "ytokniebejilcbaagreat", sum := "e22d84f5cec786579e0aafa1849ea73c34bb3450e20c89d6fbafbf9fa6be6d33", func := "loop.example/g03313/laws.FnExactEditDamage", spec := "fnExactEditDamage", unfollowed := true, recurses := true, apart := false, narrowed := true }
def FnExactEditDamageUptoSaid : Prop := fnExactEditDamageUptoRow.holds Tryz.pinned (OpenSpec.upto fnExactEditDamageSpec)

/-- 'laws.FnDamageEnough', WHERE WHAT IT READS IS OF BULK AT MOST 1048576: true; the input reads as it did. -/
def fnDamageEnoughUptoRow : OpenClaim := { program := "ytokniebejilcbaagreat", sum := "e22d84f5cec786579e0aafa1849ea73c34bb3450e20c89d6fbafbf9fa6be6d33", func := "loop.example/g03313/laws.FnDamageEnough", spec := "fnDamageEnough", unfollowed := true, recurses := true, apart := false, narrowed := true }
def FnDamageEnoughUptoSaid : Prop := fnDamageEnoughUptoRow.holds Tryz.pinned (OpenSpec.upto fnDamageEnoughSpec)

/-- 'laws.FnRepaired', WHERE WHAT IT READS IS OF BULK AT MOST 1048576: true; the input reads as it did. -/
def fnRepairedUptoRow : OpenClaim := { program := "ytokniebejilcbaagreat", sum := "e22d84f5cec786579e0aafa1849ea73c34bb3450e20c89d6fbafbf9fa6be6d33", func := "loop.example/g03313/laws.FnRepaired", spec := "fnRepaired", unfollowed := true, recurses := true, apart := false, narrowed := true }
def FnRepairedUptoSaid : Prop := fnRepairedUptoRow.holds Tryz.pinned (OpenSpec.upto fnRepairedSpec)

/-- 'laws.FnExactPresent', WHERE WHAT IT READS IS OF BULK AT MOST 1048576: true; the input reads as it did. -/
def fnExactPresentUptoRow : OpenClaim := { program := "ytokniebejilcbaagreat", sum := "e22d84f5cec786579e0aafa1849ea73c34bb3450e20c89d6fbafbf9fa6be6d33", func := "loop.example/g03313/laws.FnExactPresent", spec := "fnExactPresent", inPlace := ["slices.overlaps[loop.example/g03313/impl.Region]"], unfollowed := true, recurses := true, apart := false, narrowed := true }
def FnExactPresentUptoSaid : Prop := fnExactPresentUptoRow.holds Tryz.pinned (OpenSpec.upto fnExactPresentSpec)

/-- 'laws.FnAllShown', WHERE WHAT IT READS IS OF BULK AT MOST 1048576: true; the input reads as it did. -/
def fnAllShownUptoRow : OpenClaim := { program := "ytokniebejilcbaagreat", sum := "e22d84f5cec786579e0aafa1849ea73c34bb3450e20c89d6fbafbf9fa6be6d33", func := "loop.example/g03313/laws.FnAllShown", spec := "fnAllShown", inPlace := ["slices.overlaps[loop.example/g03313/impl.Region]"], unfollowed := true, recurses := true, apart := false, narrowed := true }
def FnAllShownUptoSaid : Prop := fnAllShownUptoRow.holds Tryz.pinned (OpenSpec.upto fnAllShownSpec)

/-- 'laws.FnAged', WHERE WHAT IT READS IS OF BULK AT MOST 1048576: true; the input reads as it did. -/
def fnAgedUptoRow : OpenClaim := { program := "ytokniebejilcbaagreat", sum := "e22d84f5cec786579e0aafa1849ea73c34bb3450e20c89d6fbafbf9fa6be6d33", func := "loop.example/g03313/laws.FnAged", spec := "fnAged", inPlace := ["slices.overlaps[loop.example/g03313/impl.Region]"], unfollowed := true, recurses := true, apart := false, narrowed := true }
def FnAgedUptoSaid : Prop := fnAgedUptoRow.holds Tryz.pinned (OpenSpec.upto fnAgedSpec)

end Rows
end Go.Proofs.YtokniebejilcbaaGreat
