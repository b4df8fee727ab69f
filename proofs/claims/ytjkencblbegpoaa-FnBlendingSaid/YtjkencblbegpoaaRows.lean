/-
  No cell of these rows narrows 'for every input' (looked for: loops, veiled, ifaces, maps, wideKeys, modest, calm, conditions, laid).
  DERIVED. THE GIVEN ROWS OF THIS SEAT. 7 by the template 'for every input the law returns true; each argument reads behind the call as it read before'; 0 by the template 'total and deterministic' (their statements: YtjkencblbegpoaaTotals.lean).
  GIVEN WITH THE SEED: the statements are not yours to turn. If you find one false, say at which input.
  Laid BY PROGRAM, IN A SANDBOX (cutbox-rows.mjs): the forced cells as the released guide's own fill.sh prints them over the translation 4b7fb2d3e2bc0752… (all of the seat's roots in one cut). By AI agents, Wed Nov 11 2026. No macro, syntax, notation, axiom, sorry.
-/
import Derived.Test.YtjkencblbegpoaaChecked
import GoSem.Claim
import GoSem.ClaimJoined
import GoSem.ClaimMapViews
import Derived.JoinedTies
import Derived.KernelRfl
namespace Go.Proofs.Ytjkencblbegpoaa
/- THE CELL 'sum', in the pinned program and in every row, IS THE sha256 OF THE DUMP (.gsa) THAT YtjkencblbegpoaaProg.lean LOADS. Nothing in Lean hashes anything: it is a label: what it is worth is what the hold of that sum in a sandbox is worth. -/
noncomputable def Try.pinned : Pinned := { name := "ytjkencblbegpoaa", sum := "4b7fb2d3e2bc07526552452d397f94cb19d2e5ba999fbd4cbadcb78ce4b1751f", checked := Try.checked }
namespace Rows
def none {H : Type} : Left H := { results := [], args := [] }

/-- 'laws.FnBlending': WHATEVER THE INPUT: true; the input reads as it did. -/
def fnBlendingSpec : ChangeSpec := { name := "fnBlending", fn := fun _ => fun
  | [d] => { results := [.lit (.bool true)], args := [d] }
  | _ => none }
def fnBlendingRow : OpenClaim := { program := "ytjkencblbegpoaa", sum := "4b7fb2d3e2bc07526552452d397f94cb19d2e5ba999fbd4cbadcb78ce4b1751f", func := "loop.example/g03313/laws.FnBlending", spec := "fnBlending", apart := false }
def FnBlendingSaid : Prop := fnBlendingRow.holds Try.pinned (OpenSpec.ofChange fnBlendingSpec)

/-- ITS FALSE NEIGHBOUR: 'it returns false'. Refute it at one input. -/
def fnBlendingWrong : ChangeSpec := { name := "fnBlending", fn := fun _ => fun
  | [d] => { results := [.lit (.bool false)], args := [d] }
  | _ => none }
def FnBlendingWrongFalsely : Prop := fnBlendingRow.holds Try.pinned (OpenSpec.ofChange fnBlendingWrong)

/-- 'laws.FnExactMakePixel': WHATEVER THE INPUT: true; the input reads as it did. -/
def fnExactMakePixelSpec : ChangeSpec := { name := "fnExactMakePixel", fn := fun _ => fun
  | [d1, d2, d3, d4] => { results := [.lit (.bool true)], args := [d1, d2, d3, d4] }
  | _ => none }
def fnExactMakePixelRow : OpenClaim := { program := "ytjkencblbegpoaa", sum := "4b7fb2d3e2bc07526552452d397f94cb19d2e5ba999fbd4cbadcb78ce4b1751f", func := "loop.example/g03313/laws.FnExactMakePixel", spec := "fnExactMakePixel", apart := false }
def FnExactMakePixelSaid : Prop := fnExactMakePixelRow.holds Try.pinned (OpenSpec.ofChange fnExactMakePixelSpec)

/-- ITS FALSE NEIGHBOUR: 'it returns false'. Refute it at one input. -/
def fnExactMakePixelWrong : ChangeSpec := { name := "fnExactMakePixel", fn := fun _ => fun
  | [d1, d2, d3, d4] => { results := [.lit (.bool false)], args := [d1, d2, d3, d4] }
  | _ => none }
def FnExactMakePixelWrongFalsely : Prop := fnExactMakePixelRow.holds Try.pinned (OpenSpec.ofChange fnExactMakePixelWrong)

/-- 'laws.FnExactChannelOf': WHATEVER THE INPUT: true; the input reads as it did. -/
def fnExactChannelOfSpec : ChangeSpec := { name := "fnExactChannelOf", fn := fun _ => fun
  | [d1, d2] => { results := [.lit (.bool true)], args := [d1, d2] }
  | _ => none }
def fnExactChannelOfRow : OpenClaim := { program := "ytjkencblbegpoaa", sum := "4b7fb2d3e2bc07526552452d397f94cb19d2e5ba999fbd4cbadcb78ce4b1751f", func := "loop.example/g03313/laws.FnExactChannelOf", spec := "fnExactChannelOf", apart := false }
def FnExactChannelOfSaid : Prop := fnExactChannelOfRow.holds Try.pinned (OpenSpec.ofChange fnExactChannelOfSpec)

/-- ITS FALSE NEIGHBOUR: 'it returns false'. Refute it at one input. -/
def fnExactChannelOfWrong : ChangeSpec := { name := "fnExactChannelOf", fn := fun _ => fun
  | [d1, d2] => { results := [.lit (.bool false)], args := [d1, d2] }
  | _ => none }
def FnExactChannelOfWrongFalsely : Prop := fnExactChannelOfRow.holds Try.pinned (OpenSpec.ofChange fnExactChannelOfWrong)

/-- 'laws.FnExactPart': WHATEVER THE INPUT: true; the input reads as it did. -/
def fnExactPartSpec : ChangeSpec := { name := "fnExactPart", fn := fun _ => fun
  | [d1, d2] => { results := [.lit (.bool true)], args := [d1, d2] }
  | _ => none }
def fnExactPartRow : OpenClaim := { program := "ytjkencblbegpoaa", sum := "4b7fb2d3e2bc07526552452d397f94cb19d2e5ba999fbd4cbadcb78ce4b1751f", func := "loop.example/g03313/laws.FnExactPart", spec := "fnExactPart", apart := false }
def FnExactPartSaid : Prop := fnExactPartRow.holds Try.pinned (OpenSpec.ofChange fnExactPartSpec)

/-- ITS FALSE NEIGHBOUR: 'it returns false'. Refute it at one input. -/
def fnExactPartWrong : ChangeSpec := { name := "fnExactPart", fn := fun _ => fun
  | [d1, d2] => { results := [.lit (.bool false)], args := [d1, d2] }
  | _ => none }
def FnExactPartWrongFalsely : Prop := fnExactPartRow.holds Try.pinned (OpenSpec.ofChange fnExactPartWrong)

/-- 'laws.FnExactOver': WHATEVER THE INPUT: true; the input reads as it did. -/
def fnExactOverSpec : ChangeSpec := { name := "fnExactOver", fn := fun _ => fun
  | [d1, d2] => { results := [.lit (.bool true)], args := [d1, d2] }
  | _ => none }
def fnExactOverRow : OpenClaim := { program := "ytjkencblbegpoaa", sum := "4b7fb2d3e2bc07526552452d397f94cb19d2e5ba999fbd4cbadcb78ce4b1751f", func := "loop.example/g03313/laws.FnExactOver", spec := "fnExactOver", apart := false }
def FnExactOverSaid : Prop := fnExactOverRow.holds Try.pinned (OpenSpec.ofChange fnExactOverSpec)

/-- ITS FALSE NEIGHBOUR: 'it returns false'. Refute it at one input. -/
def fnExactOverWrong : ChangeSpec := { name := "fnExactOver", fn := fun _ => fun
  | [d1, d2] => { results := [.lit (.bool false)], args := [d1, d2] }
  | _ => none }
def FnExactOverWrongFalsely : Prop := fnExactOverRow.holds Try.pinned (OpenSpec.ofChange fnExactOverWrong)

/-- 'laws.FnExactFade': WHATEVER THE INPUT: true; the input reads as it did. -/
def fnExactFadeSpec : ChangeSpec := { name := "fnExactFade", fn := fun _ => fun
  | [d1, d2] => { results := [.lit (.bool true)], args := [d1, d2] }
  | _ => none }
def fnExactFadeRow : OpenClaim := { program := "ytjkencblbegpoaa", sum := "4b7fb2d3e2bc07526552452d397f94cb19d2e5ba999fbd4cbadcb78ce4b1751f", func := "loop.example/g03313/laws.FnExactFade", spec := "fnExactFade", apart := false }
def FnExactFadeSaid : Prop := fnExactFadeRow.holds Try.pinned (OpenSpec.ofChange fnExactFadeSpec)

/-- ITS FALSE NEIGHBOUR: 'it returns false'. Refute it at one input. -/
def fnExactFadeWrong : ChangeSpec := { name := "fnExactFade", fn := fun _ => fun
  | [d1, d2] => { results := [.lit (.bool false)], args := [d1, d2] }
  | _ => none }
def FnExactFadeWrongFalsely : Prop := fnExactFadeRow.holds Try.pinned (OpenSpec.ofChange fnExactFadeWrong)

/-- 'laws.FnExactBlend': WHATEVER THE INPUT: true; the input reads as it did. -/
def fnExactBlendSpec : ChangeSpec := { name := "fnExactBlend", fn := fun _ => fun
  | [d1, d2] => { results := [.lit (.bool true)], args := [d1, d2] }
  | _ => none }
def fnExactBlendRow : OpenClaim := { program := "ytjkencblbegpoaa", sum := "4b7fb2d3e2bc07526552452d397f94cb19d2e5ba999fbd4cbadcb78ce4b1751f", func := "loop.example/g03313/laws.FnExactBlend", spec := "fnExactBlend", apart := false }
def FnExactBlendSaid : Prop := fnExactBlendRow.holds Try.pinned (OpenSpec.ofChange fnExactBlendSpec)

/-- ITS FALSE NEIGHBOUR: 'it returns false'. Refute it at one input. -/
def fnExactBlendWrong : ChangeSpec := { name := "fnExactBlend", fn := fun _ => fun
  | [d1, d2] => { results := [.lit (.bool false)], args := [d1, d2] }
  | _ => none }
def FnExactBlendWrongFalsely : Prop := fnExactBlendRow.holds Try.pinned (OpenSpec.ofChange fnExactBlendWrong)

/- THE SECOND FORM. 'bulk': how many values and letters a reading holds, each counted each time it is reached (what is shared counts as often as it is met; a slice's spare places count too). A statement '..UptoSaid' is the law's where the arguments, and the package variables that the reading takes, are together of bulk at most 1048576: NARROWER than '..Said'. Prove '..Said' where nothing that the law and all that it calls make is longer than what came in: it says more and counts as full. Else prove '..UptoSaid'. A law counts once. -/
mutual
def uptoBulk {H : Type} : DataW H → Nat
  | .lit (.string bytes) => bytes.length + 1
  | .lit _ => 1
  | .nil => 1
  | .ptr d => uptoBulk d + 1
  | .slice elems spare => uptoBulkAll elems + uptoBulkAll spare + 1
  | .agg parts => uptoBulkAll parts + 1
  | .iface _ d => uptoBulk d + 1
  | .map entries => uptoBulkEntries entries + 1
  | .held _ => 1
def uptoBulkAll {H : Type} : List (DataW H) → Nat
  | [] => 0
  | d :: r => uptoBulk d + uptoBulkAll r
def uptoBulkEntries {H : Type} : List (Lit × DataW H) → Nat
  | [] => 0
  | x :: r => uptoBulkEntry x + uptoBulkEntries r
def uptoBulkEntry {H : Type} : Lit × DataW H → Nat
  | (.string bytes, d) => bytes.length + uptoBulk d + 1
  | (_, d) => uptoBulk d + 1
 end
def uptoSmall : (H : Type) → List (DataW H) → Bool := fun _ ds => decide (uptoBulkAll ds ≤ 1048576)
def OpenSpec.upto (s : _root_.Go.ChangeSpec) : _root_.Go.OpenSpec := { _root_.Go.OpenSpec.ofChange s with cond := some uptoSmall }

/-- 'laws.FnBlending', WHERE WHAT IT READS IS OF BULK AT MOST 1048576: true; the input reads as it did. -/
def fnBlendingUptoRow : OpenClaim := { program := "ytjkencblbegpoaa", sum := "4b7fb2d3e2bc07526552452d397f94cb19d2e5ba999fbd4cbadcb78ce4b1751f", func := "loop.example/g03313/laws.FnBlending", spec := "fnBlending", apart := false, narrowed := true }
def FnBlendingUptoSaid : Prop := fnBlendingUptoRow.holds Try.pinned (OpenSpec.upto fnBlendingSpec)

/-- 'laws.FnExactMakePixel', WHERE WHAT IT READS IS OF BULK AT MOST 1048576: true; the input reads as it did. -/
def fnExactMakePixelUptoRow : OpenClaim := { program := "ytjkencblbegpoaa", sum := "4b7fb2d3e2bc07526552452d397f94cb19d2e5ba999fbd4cbadcb78ce4b1751f", func := "loop.example/g03313/laws.FnExactMakePixel", spec := "fnExactMakePixel", apart := false, narrowed := true }
def FnExactMakePixelUptoSaid : Prop := fnExactMakePixelUptoRow.holds Try.pinned (OpenSpec.upto fnExactMakePixelSpec)

/-- 'laws.FnExactChannelOf', WHERE WHAT IT READS IS OF BULK AT MOST 1048576: true; the input reads as it did. -/
def fnExactChannelOfUptoRow : OpenClaim := { program := "ytjkencblbegpoaa", sum := "4b7fb2d3e2bc07526552452d397f94cb19d2e5ba999fbd4cbadcb78ce4b1751f", func := "loop.example/g03313/laws.FnExactChannelOf", spec := "fnExactChannelOf", apart := false, narrowed := true }
def FnExactChannelOfUptoSaid : Prop := fnExactChannelOfUptoRow.holds Try.pinned (OpenSpec.upto fnExactChannelOfSpec)

/-- 'laws.FnExactPart', WHERE WHAT IT READS IS OF BULK AT MOST 1048576: true; the input reads as it did. -/
def fnExactPartUptoRow : OpenClaim := { program := "ytjkencblbegpoaa", sum := "4b7fb2d3e2bc07526552452d397f94cb19d2e5ba999fbd4cbadcb78ce4b1751f", func := "loop.example/g03313/laws.FnExactPart", spec := "fnExactPart", apart := false, narrowed := true }
def FnExactPartUptoSaid : Prop := fnExactPartUptoRow.holds Try.pinned (OpenSpec.upto fnExactPartSpec)

/-- 'laws.FnExactOver', WHERE WHAT IT READS IS OF BULK AT MOST 1048576: true; the input reads as it did. -/
def fnExactOverUptoRow : OpenClaim := { program := "ytjkencblbegpoaa", sum := "4b7fb2d3e2bc07526552452d397f94cb19d2e5ba999fbd4cbadcb78ce4b1751f", func := "loop.example/g03313/laws.FnExactOver", spec := "fnExactOver", apart := false, narrowed := true }
def FnExactOverUptoSaid : Prop := fnExactOverUptoRow.holds Try.pinned (OpenSpec.upto fnExactOverSpec)

/-- 'laws.FnExactFade', WHERE WHAT IT READS IS OF BULK AT MOST 1048576: true; the input reads as it did. -/
def fnExactFadeUptoRow : OpenClaim := { program := "ytjkencblbegpoaa", sum := "4b7fb2d3e2bc07526552452d397f94cb19d2e5ba999fbd4cbadcb78ce4b1751f", func := "loop.example/g03313/laws.FnExactFade", spec := "fnExactFade", apart := false, narrowed := true }
def FnExactFadeUptoSaid : Prop := fnExactFadeUptoRow.holds Try.pinned (OpenSpec.upto fnExactFadeSpec)

/-- 'laws.FnExactBlend', WHERE WHAT IT READS IS OF BULK AT MOST 1048576: true; the input reads as it did. -/
def fnExactBlendUptoRow : OpenClaim := { program := "ytjkencblbegpoaa", sum := "4b7fb2d3e2bc07526552452d397f94cb19d2e5ba999fbd4cbadcb78ce4b1751f", func := "loop.example/g03313/laws.FnExactBlend", spec := "fnExactBlend", apart := false, narrowed := true }
def FnExactBlendUptoSaid : Prop := fnExactBlendUptoRow.holds Try.pinned (OpenSpec.upto fnExactBlendSpec)

end Rows
end Go.Proofs.Ytjkencblbegpoaa
