/-
  No cell of these rows narrows 'for every input' (looked for: loops, veiled, ifaces, maps, wideKeys, modest, calm, conditions, laid).
  DERIVED. THE GIVEN ROWS OF THIS SEAT. 12 by the template 'for every input the law returns true; each argument reads behind the call as it read before'; 0 by the template 'total and deterministic' (their statements: YtfehdcenmncbpaaTotals.lean).
  GIVEN WITH THE SEED: the statements are not yours to turn. If you find one false, say at which input.
  Laid BY PROGRAM, IN A SANDBOX (cutbox-rows.mjs): the forced cells as the released guide's own fill.sh prints them over the translation 6ecfeec40c341a0e… (all of the seat's roots in one cut). By AI agents, Wed Nov 11 2026. No macro, syntax, notation, axiom, sorry.
-/
import Derived.Test.YtfehdcenmncbpaaChecked
import GoSem.Claim
import GoSem.ClaimJoined
import GoSem.ClaimMapViews
import Derived.JoinedTies
import Derived.KernelRfl
namespace Go.Proofs.Ytfehdcenmncbpaa
/- THE CELL 'sum', in the pinned program and in every row, IS THE sha256 OF THE DUMP (.gsa) THAT YtfehdcenmncbpaaProg.lean LOADS. Nothing in Lean hashes anything: it is a label: what it is worth is what the hold of that sum in a sandbox is worth. -/
noncomputable def Try.pinned : Pinned := { name := "ytfehdcenmncbpaa", sum := "6ecfeec40c341a0eb2bf0cdcfd8a9278c08078fb0968c11c5a4f4c4cbfb0841c", checked := Try.checked }
namespace Rows
def none {H : Type} : Left H := { results := [], args := [] }

/-- 'laws.FnColorIdentity': WHATEVER THE INPUT: true; the input reads as it did. -/
def fnColorIdentitySpec : ChangeSpec := { name := "fnColorIdentity", fn := fun _ => fun
  | [d] => { results := [.lit (.bool true)], args := [d] }
  | _ => none }
def fnColorIdentityRow : OpenClaim := { program := "ytfehdcenmncbpaa", sum := "6ecfeec40c341a0eb2bf0cdcfd8a9278c08078fb0968c11c5a4f4c4cbfb0841c", func := "loop.example/g03313/laws.FnColorIdentity", spec := "fnColorIdentity", unfollowed := true, recurses := true, apart := false }
def FnColorIdentitySaid : Prop := fnColorIdentityRow.holds Try.pinned (OpenSpec.ofChange fnColorIdentitySpec)

/-- ITS FALSE NEIGHBOUR: 'it returns false'. Refute it at one input. -/
def fnColorIdentityWrong : ChangeSpec := { name := "fnColorIdentity", fn := fun _ => fun
  | [d] => { results := [.lit (.bool false)], args := [d] }
  | _ => none }
def FnColorIdentityWrongFalsely : Prop := fnColorIdentityRow.holds Try.pinned (OpenSpec.ofChange fnColorIdentityWrong)

/-- 'laws.FnExactColorOk': WHATEVER THE INPUT: true; the input reads as it did. -/
def fnExactColorOkSpec : ChangeSpec := { name := "fnExactColorOk", fn := fun _ => fun
  | [d] => { results := [.lit (.bool true)], args := [d] }
  | _ => none }
def fnExactColorOkRow : OpenClaim := { program := "ytfehdcenmncbpaa", sum := "6ecfeec40c341a0eb2bf0cdcfd8a9278c08078fb0968c11c5a4f4c4cbfb0841c", func := "loop.example/g03313/laws.FnExactColorOk", spec := "fnExactColorOk", apart := false }
def FnExactColorOkSaid : Prop := fnExactColorOkRow.holds Try.pinned (OpenSpec.ofChange fnExactColorOkSpec)

/-- ITS FALSE NEIGHBOUR: 'it returns false'. Refute it at one input. -/
def fnExactColorOkWrong : ChangeSpec := { name := "fnExactColorOk", fn := fun _ => fun
  | [d] => { results := [.lit (.bool false)], args := [d] }
  | _ => none }
def FnExactColorOkWrongFalsely : Prop := fnExactColorOkRow.holds Try.pinned (OpenSpec.ofChange fnExactColorOkWrong)

/-- 'laws.FnExactIdentityColor': WHATEVER THE INPUT: true; the input reads as it did. -/
def fnExactIdentityColorSpec : ChangeSpec := { name := "fnExactIdentityColor", fn := fun _ => fun
  | [] => { results := [.lit (.bool true)], args := [] }
  | _ => none }
def fnExactIdentityColorRow : OpenClaim := { program := "ytfehdcenmncbpaa", sum := "6ecfeec40c341a0eb2bf0cdcfd8a9278c08078fb0968c11c5a4f4c4cbfb0841c", func := "loop.example/g03313/laws.FnExactIdentityColor", spec := "fnExactIdentityColor", apart := false }
def FnExactIdentityColorSaid : Prop := fnExactIdentityColorRow.holds Try.pinned (OpenSpec.ofChange fnExactIdentityColorSpec)

/-- ITS FALSE NEIGHBOUR: 'it returns false'. Refute it at one input. -/
def fnExactIdentityColorWrong : ChangeSpec := { name := "fnExactIdentityColor", fn := fun _ => fun
  | [] => { results := [.lit (.bool false)], args := [] }
  | _ => none }
def FnExactIdentityColorWrongFalsely : Prop := fnExactIdentityColorRow.holds Try.pinned (OpenSpec.ofChange fnExactIdentityColorWrong)

/-- 'laws.FnExactMixChannels': WHATEVER THE INPUT: true; the input reads as it did. -/
def fnExactMixChannelsSpec : ChangeSpec := { name := "fnExactMixChannels", fn := fun _ => fun
  | [d1, d2, d3, d4, d5] => { results := [.lit (.bool true)], args := [d1, d2, d3, d4, d5] }
  | _ => none }
def fnExactMixChannelsRow : OpenClaim := { program := "ytfehdcenmncbpaa", sum := "6ecfeec40c341a0eb2bf0cdcfd8a9278c08078fb0968c11c5a4f4c4cbfb0841c", func := "loop.example/g03313/laws.FnExactMixChannels", spec := "fnExactMixChannels", apart := false }
def FnExactMixChannelsSaid : Prop := fnExactMixChannelsRow.holds Try.pinned (OpenSpec.ofChange fnExactMixChannelsSpec)

/-- ITS FALSE NEIGHBOUR: 'it returns false'. Refute it at one input. -/
def fnExactMixChannelsWrong : ChangeSpec := { name := "fnExactMixChannels", fn := fun _ => fun
  | [d1, d2, d3, d4, d5] => { results := [.lit (.bool false)], args := [d1, d2, d3, d4, d5] }
  | _ => none }
def FnExactMixChannelsWrongFalsely : Prop := fnExactMixChannelsRow.holds Try.pinned (OpenSpec.ofChange fnExactMixChannelsWrong)

/-- 'laws.FnExactCurveAt': WHATEVER THE INPUT: true; the input reads as it did. -/
def fnExactCurveAtSpec : ChangeSpec := { name := "fnExactCurveAt", fn := fun _ => fun
  | [d1, d2] => { results := [.lit (.bool true)], args := [d1, d2] }
  | _ => none }
def fnExactCurveAtRow : OpenClaim := { program := "ytfehdcenmncbpaa", sum := "6ecfeec40c341a0eb2bf0cdcfd8a9278c08078fb0968c11c5a4f4c4cbfb0841c", func := "loop.example/g03313/laws.FnExactCurveAt", spec := "fnExactCurveAt", apart := false }
def FnExactCurveAtSaid : Prop := fnExactCurveAtRow.holds Try.pinned (OpenSpec.ofChange fnExactCurveAtSpec)

/-- ITS FALSE NEIGHBOUR: 'it returns false'. Refute it at one input. -/
def fnExactCurveAtWrong : ChangeSpec := { name := "fnExactCurveAt", fn := fun _ => fun
  | [d1, d2] => { results := [.lit (.bool false)], args := [d1, d2] }
  | _ => none }
def FnExactCurveAtWrongFalsely : Prop := fnExactCurveAtRow.holds Try.pinned (OpenSpec.ofChange fnExactCurveAtWrong)

/-- 'laws.FnExactColorPixel': WHATEVER THE INPUT: true; the input reads as it did. -/
def fnExactColorPixelSpec : ChangeSpec := { name := "fnExactColorPixel", fn := fun _ => fun
  | [d1, d2] => { results := [.lit (.bool true)], args := [d1, d2] }
  | _ => none }
def fnExactColorPixelRow : OpenClaim := { program := "ytfehdcenmncbpaa", sum := "6ecfeec40c341a0eb2bf0cdcfd8a9278c08078fb0968c11c5a4f4c4cbfb0841c", func := "loop.example/g03313/laws.FnExactColorPixel", spec := "fnExactColorPixel", unfollowed := true, recurses := true, apart := false }
def FnExactColorPixelSaid : Prop := fnExactColorPixelRow.holds Try.pinned (OpenSpec.ofChange fnExactColorPixelSpec)

/-- ITS FALSE NEIGHBOUR: 'it returns false'. Refute it at one input. -/
def fnExactColorPixelWrong : ChangeSpec := { name := "fnExactColorPixel", fn := fun _ => fun
  | [d1, d2] => { results := [.lit (.bool false)], args := [d1, d2] }
  | _ => none }
def FnExactColorPixelWrongFalsely : Prop := fnExactColorPixelRow.holds Try.pinned (OpenSpec.ofChange fnExactColorPixelWrong)

/-- 'laws.FnExactColorImage': WHATEVER THE INPUT: true; the input reads as it did. -/
def fnExactColorImageSpec : ChangeSpec := { name := "fnExactColorImage", fn := fun _ => fun
  | [d1, d2] => { results := [.lit (.bool true)], args := [d1, d2] }
  | _ => none }
def fnExactColorImageRow : OpenClaim := { program := "ytfehdcenmncbpaa", sum := "6ecfeec40c341a0eb2bf0cdcfd8a9278c08078fb0968c11c5a4f4c4cbfb0841c", func := "loop.example/g03313/laws.FnExactColorImage", spec := "fnExactColorImage", unfollowed := true, recurses := true, apart := false }
def FnExactColorImageSaid : Prop := fnExactColorImageRow.holds Try.pinned (OpenSpec.ofChange fnExactColorImageSpec)

/-- ITS FALSE NEIGHBOUR: 'it returns false'. Refute it at one input. -/
def fnExactColorImageWrong : ChangeSpec := { name := "fnExactColorImage", fn := fun _ => fun
  | [d1, d2] => { results := [.lit (.bool false)], args := [d1, d2] }
  | _ => none }
def FnExactColorImageWrongFalsely : Prop := fnExactColorImageRow.holds Try.pinned (OpenSpec.ofChange fnExactColorImageWrong)

/-- 'laws.FnExactMakePixel': WHATEVER THE INPUT: true; the input reads as it did. -/
def fnExactMakePixelSpec : ChangeSpec := { name := "fnExactMakePixel", fn := fun _ => fun
  | [d1, d2, d3, d4] => { results := [.lit (.bool true)], args := [d1, d2, d3, d4] }
  | _ => none }
def fnExactMakePixelRow : OpenClaim := { program := "ytfehdcenmncbpaa", sum := "6ecfeec40c341a0eb2bf0cdcfd8a9278c08078fb0968c11c5a4f4c4cbfb0841c", func := "loop.example/g03313/laws.FnExactMakePixel", spec := "fnExactMakePixel", apart := false }
def FnExactMakePixelSaid : Prop := fnExactMakePixelRow.holds Try.pinned (OpenSpec.ofChange fnExactMakePixelSpec)

/-- ITS FALSE NEIGHBOUR: 'it returns false'. Refute it at one input. -/
def fnExactMakePixelWrong : ChangeSpec := { name := "fnExactMakePixel", fn := fun _ => fun
  | [d1, d2, d3, d4] => { results := [.lit (.bool false)], args := [d1, d2, d3, d4] }
  | _ => none }
def FnExactMakePixelWrongFalsely : Prop := fnExactMakePixelRow.holds Try.pinned (OpenSpec.ofChange fnExactMakePixelWrong)

/-- 'laws.FnBlending': WHATEVER THE INPUT: true; the input reads as it did. -/
def fnBlendingSpec : ChangeSpec := { name := "fnBlending", fn := fun _ => fun
  | [d] => { results := [.lit (.bool true)], args := [d] }
  | _ => none }
def fnBlendingRow : OpenClaim := { program := "ytfehdcenmncbpaa", sum := "6ecfeec40c341a0eb2bf0cdcfd8a9278c08078fb0968c11c5a4f4c4cbfb0841c", func := "loop.example/g03313/laws.FnBlending", spec := "fnBlending", apart := false }
def FnBlendingSaid : Prop := fnBlendingRow.holds Try.pinned (OpenSpec.ofChange fnBlendingSpec)

/-- ITS FALSE NEIGHBOUR: 'it returns false'. Refute it at one input. -/
def fnBlendingWrong : ChangeSpec := { name := "fnBlending", fn := fun _ => fun
  | [d] => { results := [.lit (.bool false)], args := [d] }
  | _ => none }
def FnBlendingWrongFalsely : Prop := fnBlendingRow.holds Try.pinned (OpenSpec.ofChange fnBlendingWrong)

/-- 'laws.FnExactImageOk': WHATEVER THE INPUT: true; the input reads as it did. -/
def fnExactImageOkSpec : ChangeSpec := { name := "fnExactImageOk", fn := fun _ => fun
  | [d] => { results := [.lit (.bool true)], args := [d] }
  | _ => none }
def fnExactImageOkRow : OpenClaim := { program := "ytfehdcenmncbpaa", sum := "6ecfeec40c341a0eb2bf0cdcfd8a9278c08078fb0968c11c5a4f4c4cbfb0841c", func := "loop.example/g03313/laws.FnExactImageOk", spec := "fnExactImageOk", apart := false }
def FnExactImageOkSaid : Prop := fnExactImageOkRow.holds Try.pinned (OpenSpec.ofChange fnExactImageOkSpec)

/-- ITS FALSE NEIGHBOUR: 'it returns false'. Refute it at one input. -/
def fnExactImageOkWrong : ChangeSpec := { name := "fnExactImageOk", fn := fun _ => fun
  | [d] => { results := [.lit (.bool false)], args := [d] }
  | _ => none }
def FnExactImageOkWrongFalsely : Prop := fnExactImageOkRow.holds Try.pinned (OpenSpec.ofChange fnExactImageOkWrong)

/-- 'laws.FnExactPixelOf': WHATEVER THE INPUT: true; the input reads as it did. -/
def fnExactPixelOfSpec : ChangeSpec := { name := "fnExactPixelOf", fn := fun _ => fun
  | [d1, d2, d3] => { results := [.lit (.bool true)], args := [d1, d2, d3] }
  | _ => none }
def fnExactPixelOfRow : OpenClaim := { program := "ytfehdcenmncbpaa", sum := "6ecfeec40c341a0eb2bf0cdcfd8a9278c08078fb0968c11c5a4f4c4cbfb0841c", func := "loop.example/g03313/laws.FnExactPixelOf", spec := "fnExactPixelOf", apart := false }
def FnExactPixelOfSaid : Prop := fnExactPixelOfRow.holds Try.pinned (OpenSpec.ofChange fnExactPixelOfSpec)

/-- ITS FALSE NEIGHBOUR: 'it returns false'. Refute it at one input. -/
def fnExactPixelOfWrong : ChangeSpec := { name := "fnExactPixelOf", fn := fun _ => fun
  | [d1, d2, d3] => { results := [.lit (.bool false)], args := [d1, d2, d3] }
  | _ => none }
def FnExactPixelOfWrongFalsely : Prop := fnExactPixelOfRow.holds Try.pinned (OpenSpec.ofChange fnExactPixelOfWrong)

/-- 'laws.FnExactCropImage': WHATEVER THE INPUT: true; the input reads as it did. -/
def fnExactCropImageSpec : ChangeSpec := { name := "fnExactCropImage", fn := fun _ => fun
  | [d1, d2] => { results := [.lit (.bool true)], args := [d1, d2] }
  | _ => none }
def fnExactCropImageRow : OpenClaim := { program := "ytfehdcenmncbpaa", sum := "6ecfeec40c341a0eb2bf0cdcfd8a9278c08078fb0968c11c5a4f4c4cbfb0841c", func := "loop.example/g03313/laws.FnExactCropImage", spec := "fnExactCropImage", apart := false }
def FnExactCropImageSaid : Prop := fnExactCropImageRow.holds Try.pinned (OpenSpec.ofChange fnExactCropImageSpec)

/-- ITS FALSE NEIGHBOUR: 'it returns false'. Refute it at one input. -/
def fnExactCropImageWrong : ChangeSpec := { name := "fnExactCropImage", fn := fun _ => fun
  | [d1, d2] => { results := [.lit (.bool false)], args := [d1, d2] }
  | _ => none }
def FnExactCropImageWrongFalsely : Prop := fnExactCropImageRow.holds Try.pinned (OpenSpec.ofChange fnExactCropImageWrong)

/- THE SECOND FORM. 'bulk': how many values and letters a reading holds, each counted each time it is reached (what is shared counts as often as it is met; a slice's spare places count too). A statement '..UptoSaid' is the law's where the arguments, and the package variables that the reading takes, are together of bulk at most 1048576: NARROWER than '..Said'. Prove '..Said' where nothing that the law and all that it calls make is longer than what came in: it says more and counts as full. Else prove '..UptoSaid'. A law counts once. -/
mutual
def uptoBulk {H : Type} : DataW H → Nat
  | .lit (.string bytes) => bytes.length + 1
  | .lit _ => 1
  | .nil => 1
  | .ptr d => uptoBulk d + 1
  | .slice elems spare => uptoBulkAll elems + uptoBulkAll spare + 1
  | .agg parts => uptoBulkAll parts + 1
  | .iface _ d => uptoBulk d + 1
  | .map entries => uptoBulkEntries entries + 1
  | .held _ => 1
def uptoBulkAll {H : Type} : List (DataW H) → Nat
  | [] => 0
  | d :: r => uptoBulk d + uptoBulkAll r
def uptoBulkEntries {H : Type} : List (Lit × DataW H) → Nat
  | [] => 0
  | x :: r => uptoBulkEntry x + uptoBulkEntries r
def uptoBulkEntry {H : Type} : Lit × DataW H → Nat
  | (.string bytes, d) => bytes.length + uptoBulk d + 1
  | (_, d) => uptoBulk d + 1
 end
def uptoSmall : (H : Type) → List (DataW H) → Bool := fun _ ds => decide (uptoBulkAll ds ≤ 1048576)
def OpenSpec.upto (s : _root_.Go.ChangeSpec) : _root_.Go.OpenSpec := { _root_.Go.OpenSpec.ofChange s with cond := some uptoSmall }

/-- 'laws.FnColorIdentity', WHERE WHAT IT READS IS OF BULK AT MOST 1048576: true; the input reads as it did. -/
def fnColorIdentityUptoRow : OpenClaim := { program := "ytfehdcenmncbpaa", sum := "6ecfeec40c341a0eb2bf0cdcfd8a9278c08078fb0968c11c5a4f4c4cbfb0841c", func := "loop.example/g03313/laws.FnColorIdentity", spec := "fnColorIdentity", unfollowed := true, recurses := true, apart := false, narrowed := true }
def FnColorIdentityUptoSaid : Prop := fnColorIdentityUptoRow.holds Try.pinned (OpenSpec.upto fnColorIdentitySpec)

/-- 'laws.FnExactColorOk', WHERE WHAT IT READS IS OF BULK AT MOST 1048576: true; the input reads as it did. -/
def fnExactColorOkUptoRow : OpenClaim := { program := "ytfehdcenmncbpaa", sum := "6ecfeec40c341a0eb2bf0cdcfd8a9278c08078fb0968c11c5a4f4c4cbfb0841c", func := "loop.example/g03313/laws.FnExactColorOk", spec := "fnExactColorOk", apart := false, narrowed := true }
def FnExactColorOkUptoSaid : Prop := fnExactColorOkUptoRow.holds Try.pinned (OpenSpec.upto fnExactColorOkSpec)

/-- 'laws.FnExactIdentityColor', WHERE WHAT IT READS IS OF BULK AT MOST 1048576: true; the input reads as it did. -/
def fnExactIdentityColorUptoRow : OpenClaim := { program := "ytfehdcenmncbpaa", sum := "6ecfeec40c341a0eb2bf0cdcfd8a9278c08078fb0968c11c5a4f4c4cbfb0841c", func := "loop.example/g03313/laws.FnExactIdentityColor", spec := "fnExactIdentityColor", apart := false, narrowed := true }
def FnExactIdentityColorUptoSaid : Prop := fnExactIdentityColorUptoRow.holds Try.pinned (OpenSpec.upto fnExactIdentityColorSpec)

/-- 'laws.FnExactMixChannels', WHERE WHAT IT READS IS OF BULK AT MOST 1048576: true; the input reads as it did. -/
def fnExactMixChannelsUptoRow : OpenClaim := { program := "ytfehdcenmncbpaa", sum := "6ecfeec40c341a0eb2bf0cdcfd8a9278c08078fb0968c11c5a4f4c4cbfb0841c", func := "loop.example/g03313/laws.FnExactMixChannels", spec := "fnExactMixChannels", apart := false, narrowed := true }
def FnExactMixChannelsUptoSaid : Prop := fnExactMixChannelsUptoRow.holds Try.pinned (OpenSpec.upto fnExactMixChannelsSpec)

/-- 'laws.FnExactCurveAt', WHERE WHAT IT READS IS OF BULK AT MOST 1048576: true; the input reads as it did. -/
def fnExactCurveAtUptoRow : OpenClaim := { program := "ytfehdcenmncbpaa", sum := "6ecfeec40c341a0eb2bf0cdcfd8a9278c08078fb0968c11c5a4f4c4cbfb0841c", func := "loop.example/g03313/laws.FnExactCurveAt", spec := "fnExactCurveAt", apart := false, narrowed := true }
def FnExactCurveAtUptoSaid : Prop := fnExactCurveAtUptoRow.holds Try.pinned (OpenSpec.upto fnExactCurveAtSpec)

/-- 'laws.FnExactColorPixel', WHERE WHAT IT READS IS OF BULK AT MOST 1048576: true; the input reads as it did. -/
def fnExactColorPixelUptoRow : OpenClaim := { program := "ytfehdcenmncbpaa", sum := "6ecfeec40c341a0eb2bf0cdcfd8a9278c08078fb0968c11c5a4f4c4cbfb0841c", func := "loop.example/g03313/laws.FnExactColorPixel", spec := "fnExactColorPixel", unfollowed := true, recurses := true, apart := false, narrowed := true }
def FnExactColorPixelUptoSaid : Prop := fnExactColorPixelUptoRow.holds Try.pinned (OpenSpec.upto fnExactColorPixelSpec)

/-- 'laws.FnExactColorImage', WHERE WHAT IT READS IS OF BULK AT MOST 1048576: true; the input reads as it did. -/
def fnExactColorImageUptoRow : OpenClaim := { program := "ytfehdcenmncbpaa", sum := "6ecfeec40c341a0eb2bf0cdcfd8a9278c08078fb0968c11c5a4f4c4cbfb0841c", func := "loop.example/g03313/laws.FnExactColorImage", spec := "fnExactColorImage", unfollowed := true, recurses := true, apart := false, narrowed := true }
def FnExactColorImageUptoSaid : Prop := fnExactColorImageUptoRow.holds Try.pinned (OpenSpec.upto fnExactColorImageSpec)

/-- 'laws.FnExactMakePixel', WHERE WHAT IT READS IS OF BULK AT MOST 1048576: true; the input reads as it did. -/
def fnExactMakePixelUptoRow : OpenClaim := { program := "ytfehdcenmncbpaa", sum := "6ecfeec40c341a0eb2bf0cdcfd8a9278c08078fb0968c11c5a4f4c4cbfb0841c", func := "loop.example/g03313/laws.FnExactMakePixel", spec := "fnExactMakePixel", apart := false, narrowed := true }
def FnExactMakePixelUptoSaid : Prop := fnExactMakePixelUptoRow.holds Try.pinned (OpenSpec.upto fnExactMakePixelSpec)

/-- 'laws.FnBlending', WHERE WHAT IT READS IS OF BULK AT MOST 1048576: true; the input reads as it did. -/
def fnBlendingUptoRow : OpenClaim := { program := "ytfehdcenmncbpaa", sum := "6ecfeec40c341a0eb2bf0cdcfd8a9278c08078fb0968c11c5a4f4c4cbfb0841c", func := "loop.example/g03313/laws.FnBlending", spec := "fnBlending", apart := false, narrowed := true }
def FnBlendingUptoSaid : Prop := fnBlendingUptoRow.holds Try.pinned (OpenSpec.upto fnBlendingSpec)

/-- 'laws.FnExactImageOk', WHERE WHAT IT READS IS OF BULK AT MOST 1048576: true; the input reads as it did. -/
def fnExactImageOkUptoRow : OpenClaim := { program := "ytfehdcenmncbpaa", sum := "6ecfeec40c341a0eb2bf0cdcfd8a9278c08078fb0968c11c5a4f4c4cbfb0841c", func := "loop.example/g03313/laws.FnExactImageOk", spec := "fnExactImageOk", apart := false, narrowed := true }
def FnExactImageOkUptoSaid : Prop := fnExactImageOkUptoRow.holds Try.pinned (OpenSpec.upto fnExactImageOkSpec)

/-- 'laws.FnExactPixelOf', WHERE WHAT IT READS IS OF BULK AT MOST 1048576: true; the input reads as it did. -/
def fnExactPixelOfUptoRow : OpenClaim := { program := "ytfehdcenmncbpaa", sum := "6ecfeec40c341a0eb2bf0cdcfd8a9278c08078fb0968c11c5a4f4c4cbfb0841c", func := "loop.example/g03313/laws.FnExactPixelOf", spec := "fnExactPixelOf", apart := false, narrowed := true }
def FnExactPixelOfUptoSaid : Prop := fnExactPixelOfUptoRow.holds Try.pinned (OpenSpec.upto fnExactPixelOfSpec)

/-- 'laws.FnExactCropImage', WHERE WHAT IT READS IS OF BULK AT MOST 1048576: true; the input reads as it did. -/
def fnExactCropImageUptoRow : OpenClaim := { program := "ytfehdcenmncbpaa", sum := "6ecfeec40c341a0eb2bf0cdcfd8a9278c08078fb0968c11c5a4f4c4cbfb0841c", func := "loop.example/g03313/laws.FnExactCropImage", spec := "fnExactCropImage", apart := false, narrowed := true }
def FnExactCropImageUptoSaid : Prop := fnExactCropImageUptoRow.holds Try.pinned (OpenSpec.upto fnExactCropImageSpec)

end Rows
end Go.Proofs.Ytfehdcenmncbpaa
