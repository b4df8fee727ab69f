/-
  No cell of these rows narrows 'for every input' (looked for: loops, veiled, ifaces, maps, wideKeys, modest, calm, conditions, laid).
  DERIVED. THE GIVEN ROWS OF THIS SEAT. 9 by the template 'for every input the law returns true; each argument reads behind the call as it read before'; 0 by the template 'total and deterministic' (their statements: YtokniebejilcbaaTotals.lean).
  GIVEN WITH THE SEED: the statements are not yours to turn. If you find one false, say at which input.
  Laid BY PROGRAM, IN A SANDBOX (cutbox-rows.mjs): the forced cells as the released guide's own fill.sh prints them over the translation fb1ccebfb32bf216… (all of the seat's roots in one cut). By AI agents, Wed Nov 11 2026. No macro, syntax, notation, axiom, sorry.
-/
import Derived.Test.YtokniebejilcbaaChecked
import GoSem.Claim
import GoSem.ClaimJoined
import GoSem.ClaimMapViews
import Derived.JoinedTies
import Derived.KernelRfl
namespace Go.Proofs.Ytokniebejilcbaa
/- THE CELL 'sum', in the pinned program and in every row, IS THE sha256 OF THE DUMP (.gsa) THAT YtokniebejilcbaaProg.lean LOADS. Nothing in Lean hashes anything: it is a label: what it is worth is what the hold of that sum in a sandbox is worth. -/
noncomputable def Try.pinned : Pinned := { name := "ytokniebejilcbaa", sum := "fb1ccebfb32bf2169406aede3912a78f091c65aef33bdaaa0b5fb267c4253cd9", checked := Try.checked }
namespace Rows
def none {H : Type} : Left H := { results := [], args := [] }

/-- 'laws.FnExactWordCount': WHATEVER THE INPUT: true; the input reads as it did. -/
def fnExactWordCountSpec : ChangeSpec := { name := "fnExactWordCount", fn := fun _ => fun
  | [d1, d2, d3] => { results := [.lit (.bool true)], args := [d1, d2, d3] }
  | _ => none }
def fnExactWordCountRow : OpenClaim := { program := "ytokniebejilcbaa", sum := "fb1ccebfb32bf2169406aede3912a78f091c65aef33bdaaa0b5fb267c4253cd9", func := "loop.example/g03313/laws.FnExactWordCount", spec := "fnExactWordCount", apart := false }
def FnExactWordCountSaid : Prop := fnExactWordCountRow.holds Try.pinned (OpenSpec.ofChange fnExactWordCountSpec)

/-- ITS FALSE NEIGHBOUR: 'it returns false'. Refute it at one input. -/
def fnExactWordCountWrong : ChangeSpec := { name := "fnExactWordCount", fn := fun _ => fun
  | [d1, d2, d3] => { results := [.lit (.bool false)], args := [d1, d2, d3] }
  | _ => none }
def FnExactWordCountWrongFalsely : Prop := fnExactWordCountRow.holds Try.pinned (OpenSpec.ofChange fnExactWordCountWrong)

/-- 'laws.FnExactWordPlace': WHATEVER THE INPUT: true; the input reads as it did. -/
def fnExactWordPlaceSpec : ChangeSpec := { name := "fnExactWordPlace", fn := fun _ => fun
  | [d1, d2, d3, d4, d5] => { results := [.lit (.bool true)], args := [d1, d2, d3, d4, d5] }
  | _ => none }
def fnExactWordPlaceRow : OpenClaim := { program := "ytokniebejilcbaa", sum := "fb1ccebfb32bf2169406aede3912a78f091c65aef33bdaaa0b5fb267c4253cd9", func := "loop.example/g03313/laws.FnExactWordPlace", spec := "fnExactWordPlace", apart := false }
def FnExactWordPlaceSaid : Prop := fnExactWordPlaceRow.holds Try.pinned (OpenSpec.ofChange fnExactWordPlaceSpec)

/-- ITS FALSE NEIGHBOUR: 'it returns false'. Refute it at one input. -/
def fnExactWordPlaceWrong : ChangeSpec := { name := "fnExactWordPlace", fn := fun _ => fun
  | [d1, d2, d3, d4, d5] => { results := [.lit (.bool false)], args := [d1, d2, d3, d4, d5] }
  | _ => none }
def FnExactWordPlaceWrongFalsely : Prop := fnExactWordPlaceRow.holds Try.pinned (OpenSpec.ofChange fnExactWordPlaceWrong)

/-- 'laws.FnExactStoreImage': WHATEVER THE INPUT: true; the input reads as it did. -/
def fnExactStoreImageSpec : ChangeSpec := { name := "fnExactStoreImage", fn := fun _ => fun
  | [d1, d2] => { results := [.lit (.bool true)], args := [d1, d2] }
  | _ => none }
def fnExactStoreImageRow : OpenClaim := { program := "ytokniebejilcbaa", sum := "fb1ccebfb32bf2169406aede3912a78f091c65aef33bdaaa0b5fb267c4253cd9", func := "loop.example/g03313/laws.FnExactStoreImage", spec := "fnExactStoreImage", unfollowed := true, recurses := true, apart := false }
def FnExactStoreImageSaid : Prop := fnExactStoreImageRow.holds Try.pinned (OpenSpec.ofChange fnExactStoreImageSpec)

/-- ITS FALSE NEIGHBOUR: 'it returns false'. Refute it at one input. -/
def fnExactStoreImageWrong : ChangeSpec := { name := "fnExactStoreImage", fn := fun _ => fun
  | [d1, d2] => { results := [.lit (.bool false)], args := [d1, d2] }
  | _ => none }
def FnExactStoreImageWrongFalsely : Prop := fnExactStoreImageRow.holds Try.pinned (OpenSpec.ofChange fnExactStoreImageWrong)

/-- 'laws.FnExactLoadImage': WHATEVER THE INPUT: true; the input reads as it did. -/
def fnExactLoadImageSpec : ChangeSpec := { name := "fnExactLoadImage", fn := fun _ => fun
  | [d1, d2, d3, d4] => { results := [.lit (.bool true)], args := [d1, d2, d3, d4] }
  | _ => none }
def fnExactLoadImageRow : OpenClaim := { program := "ytokniebejilcbaa", sum := "fb1ccebfb32bf2169406aede3912a78f091c65aef33bdaaa0b5fb267c4253cd9", func := "loop.example/g03313/laws.FnExactLoadImage", spec := "fnExactLoadImage", unfollowed := true, recurses := true, apart := false }
def FnExactLoadImageSaid : Prop := fnExactLoadImageRow.holds Try.pinned (OpenSpec.ofChange fnExactLoadImageSpec)

/-- ITS FALSE NEIGHBOUR: 'it returns false'. Refute it at one input. -/
def fnExactLoadImageWrong : ChangeSpec := { name := "fnExactLoadImage", fn := fun _ => fun
  | [d1, d2, d3, d4] => { results := [.lit (.bool false)], args := [d1, d2, d3, d4] }
  | _ => none }
def FnExactLoadImageWrongFalsely : Prop := fnExactLoadImageRow.holds Try.pinned (OpenSpec.ofChange fnExactLoadImageWrong)

/-- 'laws.FnLayouts': WHATEVER THE INPUT: true; the input reads as it did. -/
def fnLayoutsSpec : ChangeSpec := { name := "fnLayouts", fn := fun _ => fun
  | [d] => { results := [.lit (.bool true)], args := [d] }
  | _ => none }
def fnLayoutsRow : OpenClaim := { program := "ytokniebejilcbaa", sum := "fb1ccebfb32bf2169406aede3912a78f091c65aef33bdaaa0b5fb267c4253cd9", func := "loop.example/g03313/laws.FnLayouts", spec := "fnLayouts", unfollowed := true, recurses := true, apart := false }
def FnLayoutsSaid : Prop := fnLayoutsRow.holds Try.pinned (OpenSpec.ofChange fnLayoutsSpec)

/-- ITS FALSE NEIGHBOUR: 'it returns false'. Refute it at one input. -/
def fnLayoutsWrong : ChangeSpec := { name := "fnLayouts", fn := fun _ => fun
  | [d] => { results := [.lit (.bool false)], args := [d] }
  | _ => none }
def FnLayoutsWrongFalsely : Prop := fnLayoutsRow.holds Try.pinned (OpenSpec.ofChange fnLayoutsWrong)

/-- 'laws.FnExactDoEdit': WHATEVER THE INPUT: true; the input reads as it did. -/
def fnExactDoEditSpec : ChangeSpec := { name := "fnExactDoEdit", fn := fun _ => fun
  | [d1, d2] => { results := [.lit (.bool true)], args := [d1, d2] }
  | _ => none }
def fnExactDoEditRow : OpenClaim := { program := "ytokniebejilcbaa", sum := "fb1ccebfb32bf2169406aede3912a78f091c65aef33bdaaa0b5fb267c4253cd9", func := "loop.example/g03313/laws.FnExactDoEdit", spec := "fnExactDoEdit", unfollowed := true, recurses := true, apart := false }
def FnExactDoEditSaid : Prop := fnExactDoEditRow.holds Try.pinned (OpenSpec.ofChange fnExactDoEditSpec)

/-- ITS FALSE NEIGHBOUR: 'it returns false'. Refute it at one input. -/
def fnExactDoEditWrong : ChangeSpec := { name := "fnExactDoEdit", fn := fun _ => fun
  | [d1, d2] => { results := [.lit (.bool false)], args := [d1, d2] }
  | _ => none }
def FnExactDoEditWrongFalsely : Prop := fnExactDoEditRow.holds Try.pinned (OpenSpec.ofChange fnExactDoEditWrong)

/-- 'laws.FnExactDoEdits': WHATEVER THE INPUT: true; the input reads as it did. -/
def fnExactDoEditsSpec : ChangeSpec := { name := "fnExactDoEdits", fn := fun _ => fun
  | [d1, d2] => { results := [.lit (.bool true)], args := [d1, d2] }
  | _ => none }
def fnExactDoEditsRow : OpenClaim := { program := "ytokniebejilcbaa", sum := "fb1ccebfb32bf2169406aede3912a78f091c65aef33bdaaa0b5fb267c4253cd9", func := "loop.example/g03313/laws.FnExactDoEdits", spec := "fnExactDoEdits", unfollowed := true, recurses := true, apart := false }
def FnExactDoEditsSaid : Prop := fnExactDoEditsRow.holds Try.pinned (OpenSpec.ofChange fnExactDoEditsSpec)

/-- ITS FALSE NEIGHBOUR: 'it returns false'. Refute it at one input. -/
def fnExactDoEditsWrong : ChangeSpec := { name := "fnExactDoEdits", fn := fun _ => fun
  | [d1, d2] => { results := [.lit (.bool false)], args := [d1, d2] }
  | _ => none }
def FnExactDoEditsWrongFalsely : Prop := fnExactDoEditsRow.holds Try.pinned (OpenSpec.ofChange fnExactDoEditsWrong)

/-- 'laws.FnEdits': WHATEVER THE INPUT: true; the input reads as it did. -/
def fnEditsSpec : ChangeSpec := { name := "fnEdits", fn := fun _ => fun
  | [d] => { results := [.lit (.bool true)], args := [d] }
  | _ => none }
def fnEditsRow : OpenClaim := { program := "ytokniebejilcbaa", sum := "fb1ccebfb32bf2169406aede3912a78f091c65aef33bdaaa0b5fb267c4253cd9", func := "loop.example/g03313/laws.FnEdits", spec := "fnEdits", unfollowed := true, recurses := true, apart := false }
def FnEditsSaid : Prop := fnEditsRow.holds Try.pinned (OpenSpec.ofChange fnEditsSpec)

/-- ITS FALSE NEIGHBOUR: 'it returns false'. Refute it at one input. -/
def fnEditsWrong : ChangeSpec := { name := "fnEdits", fn := fun _ => fun
  | [d] => { results := [.lit (.bool false)], args := [d] }
  | _ => none }
def FnEditsWrongFalsely : Prop := fnEditsRow.holds Try.pinned (OpenSpec.ofChange fnEditsWrong)

/-- 'laws.FnExactDamageOf': WHATEVER THE INPUT: true; the input reads as it did. -/
def fnExactDamageOfSpec : ChangeSpec := { name := "fnExactDamageOf", fn := fun _ => fun
  | [d1, d2] => { results := [.lit (.bool true)], args := [d1, d2] }
  | _ => none }
def fnExactDamageOfRow : OpenClaim := { program := "ytokniebejilcbaa", sum := "fb1ccebfb32bf2169406aede3912a78f091c65aef33bdaaa0b5fb267c4253cd9", func := "loop.example/g03313/laws.FnExactDamageOf", spec := "fnExactDamageOf", unfollowed := true, recurses := true, apart := false }
def FnExactDamageOfSaid : Prop := fnExactDamageOfRow.holds Try.pinned (OpenSpec.ofChange fnExactDamageOfSpec)

/-- ITS FALSE NEIGHBOUR: 'it returns false'. Refute it at one input. -/
def fnExactDamageOfWrong : ChangeSpec := { name := "fnExactDamageOf", fn := fun _ => fun
  | [d1, d2] => { results := [.lit (.bool false)], args := [d1, d2] }
  | _ => none }
def FnExactDamageOfWrongFalsely : Prop := fnExactDamageOfRow.holds Try.pinned (OpenSpec.ofChange fnExactDamageOfWrong)

/- THE SECOND FORM. 'bulk': how many values and letters a reading holds, each counted each time it is reached (what is shared counts as often as it is met; a slice's spare places count too). A statement '..UptoSaid' is the law's where the arguments, and the package variables that the reading takes, are together of bulk at most 1048576: NARROWER than '..Said'. Prove '..Said' where nothing that the law and all that it calls make is longer than what came in: it says more and counts as full. Else prove '..UptoSaid'. A law counts once. -/
mutual
def uptoBulk {H : Type} : DataW H → Nat
  | .lit (.string bytes) => bytes.length + 1
  | .lit _ => 1
  | .nil => 1
  | .ptr d => uptoBulk d + 1
  | .slice elems spare => uptoBulkAll elems + uptoBulkAll spare + 1
  | .agg parts => uptoBulkAll parts + 1
  | .iface _ d => uptoBulk d + 1
  | .map entries => uptoBulkEntries entries + 1
  | .held _ => 1
def uptoBulkAll {H : Type} : List (DataW H) → Nat
  | [] => 0
  | d :: r => uptoBulk d + uptoBulkAll r
def uptoBulkEntries {H : Type} : List (Lit × DataW H) → Nat
  | [] => 0
  | x :: r => uptoBulkEntry x + uptoBulkEntries r
def uptoBulkEntry {H : Type} : Lit × DataW H → Nat
  | (.string bytes, d) => bytes.length + uptoBulk d + 1
  | (_, d) => uptoBulk d + 1
 end
def uptoSmall : (H : Type) → List (DataW H) → Bool := fun _ ds => decide (uptoBulkAll ds ≤ 1048576)
def OpenSpec.upto (s : _root_.Go.ChangeSpec) : _root_.Go.OpenSpec := { _root_.Go.OpenSpec.ofChange s with cond := some uptoSmall }

/-- 'laws.FnExactWordCount', WHERE WHAT IT READS IS OF BULK AT MOST 1048576: true; the input reads as it did. -/
def fnExactWordCountUptoRow : OpenClaim := { program := "ytokniebejilcbaa", sum := "fb1ccebfb32bf2169406aede3912a78f091c65aef33bdaaa0b5fb267c4253cd9", func := "loop.example/g03313/laws.FnExactWordCount", spec := "fnExactWordCount", apart := false, narrowed := true }
def FnExactWordCountUptoSaid : Prop := fnExactWordCountUptoRow.holds Try.pinned (OpenSpec.upto fnExactWordCountSpec)

/-- 'laws.FnExactWordPlace', WHERE WHAT IT READS IS OF BULK AT MOST 1048576: true; the input reads as it did. -/
def fnExactWordPlaceUptoRow : OpenClaim := { program := "ytokniebejilcbaa", sum := "fb1ccebfb32bf2169406aede3912a78f091c65aef33bdaaa0b5fb267c4253cd9", func := "loop.example/g03313/laws.FnExactWordPlace", spec := "fnExactWordPlace", apart := false, narrowed := true }
def FnExactWordPlaceUptoSaid : Prop := fnExactWordPlaceUptoRow.holds Try.pinned (OpenSpec.upto fnExactWordPlaceSpec)

/-- 'laws.FnExactStoreImage', WHERE WHAT IT READS IS OF BULK AT MOST 1048576: true; the input reads as it did. -/
def fnExactStoreImageUptoRow : OpenClaim := { program := "ytokniebejilcbaa", sum := "fb1ccebfb32bf2169406aede3912a78f091c65aef33bdaaa0b5fb267c4253cd9", func := "loop.example/g03313/laws.FnExactStoreImage", spec := "fnExactStoreImage", unfollowed := true, recurses := true, apart := false, narrowed := true }
def FnExactStoreImageUptoSaid : Prop := fnExactStoreImageUptoRow.holds Try.pinned (OpenSpec.upto fnExactStoreImageSpec)

/-- 'laws.FnExactLoadImage', WHERE WHAT IT READS IS OF BULK AT MOST 1048576: true; the input reads as it did. -/
def fnExactLoadImageUptoRow : OpenClaim := { program := "ytokniebejilcbaa", sum := "fb1ccebfb32bf2169406aede3912a78f091c65aef33bdaaa0b5fb267c4253cd9", func := "loop.example/g03313/laws.FnExactLoadImage", spec := "fnExactLoadImage", unfollowed := true, recurses := true, apart := false, narrowed := true }
def FnExactLoadImageUptoSaid : Prop := fnExactLoadImageUptoRow.holds Try.pinned (OpenSpec.upto fnExactLoadImageSpec)

/-- 'laws.FnLayouts', WHERE WHAT IT READS IS OF BULK AT MOST 1048576: true; the input reads as it did. -/
def fnLayoutsUptoRow : OpenClaim := { program := "ytokniebejilcbaa", sum := "fb1ccebfb32bf2169406aede3912a78f091c65aef33bdaaa0b5fb267c4253cd9", func := "loop.example/g03313/laws.FnLayouts", spec := "fnLayouts", unfollowed := true, recurses := true, apart := false, narrowed := true }
def FnLayoutsUptoSaid : Prop := fnLayoutsUptoRow.holds Try.pinned (OpenSpec.upto fnLayoutsSpec)

/-- 'laws.FnExactDoEdit', WHERE WHAT IT READS IS OF BULK AT MOST 1048576: true; the input reads as it did. -/
def fnExactDoEditUptoRow : OpenClaim := { program := "ytokniebejilcbaa", sum := "fb1ccebfb32bf2169406aede3912a78f091c65aef33bdaaa0b5fb267c4253cd9", func := "loop.example/g03313/laws.FnExactDoEdit", spec := "fnExactDoEdit", unfollowed := true, recurses := true, apart := false, narrowed := true }
def FnExactDoEditUptoSaid : Prop := fnExactDoEditUptoRow.holds Try.pinned (OpenSpec.upto fnExactDoEditSpec)

/-- 'laws.FnExactDoEdits', WHERE WHAT IT READS IS OF BULK AT MOST 1048576: true; the input reads as it did. -/
def fnExactDoEditsUptoRow : OpenClaim := { program := "ytokniebejilcbaa", sum := "fb1ccebfb32bf2169406aede3912a78f091c65aef33bdaaa0b5fb267c4253cd9", func := "loop.example/g03313/laws.FnExactDoEdits", spec := "fnExactDoEdits", unfollowed := true, recurses := true, apart := false, narrowed := true }
def FnExactDoEditsUptoSaid : Prop := fnExactDoEditsUptoRow.holds Try.pinned (OpenSpec.upto fnExactDoEditsSpec)

/-- 'laws.FnEdits', WHERE WHAT IT READS IS OF BULK AT MOST 1048576: true; the input reads as it did. -/
def fnEditsUptoRow : OpenClaim := { program := "ytokniebejilcbaa", sum := "fb1ccebfb32bf2169406aede3912a78f091c65aef33bdaaa0b5fb267c4253cd9", func := "loop.example/g03313/laws.FnEdits", spec := "fnEdits", unfollowed := true, recurses := true, apart := false, narrowed := true }
def FnEditsUptoSaid : Prop := fnEditsUptoRow.holds Try.pinned (OpenSpec.upto fnEditsSpec)

/-- 'laws.FnExactDamageOf', WHERE WHAT IT READS IS OF BULK AT MOST 1048576: true; the input reads as it did. -/
def fnExactDamageOfUptoRow : OpenClaim := { program := "ytokniebejilcbaa", sum := "fb1ccebfb32bf2169406aede3912a78f091c65aef33bdaaa0b5fb267c4253cd9", func := "loop.example/g03313/laws.FnExactDamageOf", spec := "fnExactDamageOf", unfollowed := true, recurses := true, apart := false, narrowed := true }
def FnExactDamageOfUptoSaid : Prop := fnExactDamageOfUptoRow.holds Try.pinned (OpenSpec.upto fnExactDamageOfSpec)

end Rows
end Go.Proofs.Ytokniebejilcbaa
