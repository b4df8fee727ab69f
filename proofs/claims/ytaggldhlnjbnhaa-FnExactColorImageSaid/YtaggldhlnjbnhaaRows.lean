/-
  No cell of these rows narrows 'for every input' (looked for: loops, veiled, ifaces, maps, wideKeys, modest, calm, conditions, laid).
  DERIVED. THE GIVEN ROWS OF THIS SEAT. 12 by the template 'for every input the law returns true; each argument reads behind the call as it read before'; 0 by the template 'total and deterministic' (their statements: YtaggldhlnjbnhaaTotals.lean).
  GIVEN WITH THE SEED: the statements are not yours to turn. If you find one false, say at which input.
  Laid BY PROGRAM, IN A SANDBOX (cutbox-rows.mjs): the forced cells as the released guide's own fill.sh prints them over the translation 40847ce1c1d06551… (all of the seat's roots in one cut). By AI agents, Wed Nov 11 2026. No macro, syntax, notation, axiom, sorry.
-/
import Derived.Test.YtaggldhlnjbnhaaChecked
import GoSem.Claim
import GoSem.ClaimJoined
import GoSem.ClaimMapViews
import Derived.JoinedTies
import Derived.KernelRfl
namespace Go.Proofs.Ytaggldhlnjbnhaa
/- THE CELL 'sum', in the pinned program and in every row, IS THE sha256 OF THE DUMP (.gsa) THAT YtaggldhlnjbnhaaProg.lean LOADS. Nothing in Lean hashes anything: it is a label: what it is worth is what the hold of that sum in a sandbox is worth. -/
noncomputable def Try.pinned : Pinned := { name := "ytaggldhlnjbnhaa", sum := "40847ce1c1d065511ea553bd64ad9566eff61e4698d9cc45c4a1a60e69e93e94", checked := Try.checked }
namespace Rows
def none {H : Type} : Left H := { results := [], args := [] }

/-- 'laws.FnDitherMean': WHATEVER THE INPUT: true; the input reads as it did. -/
def fnDitherMeanSpec : ChangeSpec := { name := "fnDitherMean", fn := fun _ => fun
  | [d] => { results := [.lit (.bool true)], args := [d] }
  | _ => none }
def fnDitherMeanRow : OpenClaim := { program := "ytaggldhlnjbnhaa", sum := "40847ce1c1d065511ea553bd64ad9566eff61e4698d9cc45c4a1a60e69e93e94", func := "loop.example/g03313/laws.FnDitherMean", spec := "fnDitherMean", plainKeys := false, apart := false }
def FnDitherMeanSaid : Prop := fnDitherMeanRow.holds Try.pinned (OpenSpec.ofChange fnDitherMeanSpec)

/-- ITS FALSE NEIGHBOUR: 'it returns false'. Refute it at one input. -/
def fnDitherMeanWrong : ChangeSpec := { name := "fnDitherMean", fn := fun _ => fun
  | [d] => { results := [.lit (.bool false)], args := [d] }
  | _ => none }
def FnDitherMeanWrongFalsely : Prop := fnDitherMeanRow.holds Try.pinned (OpenSpec.ofChange fnDitherMeanWrong)

/-- 'laws.FnDithered': WHATEVER THE INPUT: true; the input reads as it did. -/
def fnDitheredSpec : ChangeSpec := { name := "fnDithered", fn := fun _ => fun
  | [d] => { results := [.lit (.bool true)], args := [d] }
  | _ => none }
def fnDitheredRow : OpenClaim := { program := "ytaggldhlnjbnhaa", sum := "40847ce1c1d065511ea553bd64ad9566eff61e4698d9cc45c4a1a60e69e93e94", func := "loop.example/g03313/laws.FnDithered", spec := "fnDithered", plainKeys := false, apart := false }
def FnDitheredSaid : Prop := fnDitheredRow.holds Try.pinned (OpenSpec.ofChange fnDitheredSpec)

/-- ITS FALSE NEIGHBOUR: 'it returns false'. Refute it at one input. -/
def fnDitheredWrong : ChangeSpec := { name := "fnDithered", fn := fun _ => fun
  | [d] => { results := [.lit (.bool false)], args := [d] }
  | _ => none }
def FnDitheredWrongFalsely : Prop := fnDitheredRow.holds Try.pinned (OpenSpec.ofChange fnDitheredWrong)

/-- 'laws.FnExactThreshold': WHATEVER THE INPUT: true; the input reads as it did. -/
def fnExactThresholdSpec : ChangeSpec := { name := "fnExactThreshold", fn := fun _ => fun
  | [d1, d2] => { results := [.lit (.bool true)], args := [d1, d2] }
  | _ => none }
def fnExactThresholdRow : OpenClaim := { program := "ytaggldhlnjbnhaa", sum := "40847ce1c1d065511ea553bd64ad9566eff61e4698d9cc45c4a1a60e69e93e94", func := "loop.example/g03313/laws.FnExactThreshold", spec := "fnExactThreshold", plainKeys := false, apart := false }
def FnExactThresholdSaid : Prop := fnExactThresholdRow.holds Try.pinned (OpenSpec.ofChange fnExactThresholdSpec)

/-- ITS FALSE NEIGHBOUR: 'it returns false'. Refute it at one input. -/
def fnExactThresholdWrong : ChangeSpec := { name := "fnExactThreshold", fn := fun _ => fun
  | [d1, d2] => { results := [.lit (.bool false)], args := [d1, d2] }
  | _ => none }
def FnExactThresholdWrongFalsely : Prop := fnExactThresholdRow.holds Try.pinned (OpenSpec.ofChange fnExactThresholdWrong)

/-- 'laws.FnExactDitherLevel': WHATEVER THE INPUT: true; the input reads as it did. -/
def fnExactDitherLevelSpec : ChangeSpec := { name := "fnExactDitherLevel", fn := fun _ => fun
  | [d1, d2, d3] => { results := [.lit (.bool true)], args := [d1, d2, d3] }
  | _ => none }
def fnExactDitherLevelRow : OpenClaim := { program := "ytaggldhlnjbnhaa", sum := "40847ce1c1d065511ea553bd64ad9566eff61e4698d9cc45c4a1a60e69e93e94", func := "loop.example/g03313/laws.FnExactDitherLevel", spec := "fnExactDitherLevel", plainKeys := false, apart := false }
def FnExactDitherLevelSaid : Prop := fnExactDitherLevelRow.holds Try.pinned (OpenSpec.ofChange fnExactDitherLevelSpec)

/-- ITS FALSE NEIGHBOUR: 'it returns false'. Refute it at one input. -/
def fnExactDitherLevelWrong : ChangeSpec := { name := "fnExactDitherLevel", fn := fun _ => fun
  | [d1, d2, d3] => { results := [.lit (.bool false)], args := [d1, d2, d3] }
  | _ => none }
def FnExactDitherLevelWrongFalsely : Prop := fnExactDitherLevelRow.holds Try.pinned (OpenSpec.ofChange fnExactDitherLevelWrong)

/-- 'laws.FnExactDitherPixel': WHATEVER THE INPUT: true; the input reads as it did. -/
def fnExactDitherPixelSpec : ChangeSpec := { name := "fnExactDitherPixel", fn := fun _ => fun
  | [d1, d2, d3] => { results := [.lit (.bool true)], args := [d1, d2, d3] }
  | _ => none }
def fnExactDitherPixelRow : OpenClaim := { program := "ytaggldhlnjbnhaa", sum := "40847ce1c1d065511ea553bd64ad9566eff61e4698d9cc45c4a1a60e69e93e94", func := "loop.example/g03313/laws.FnExactDitherPixel", spec := "fnExactDitherPixel", plainKeys := false, apart := false }
def FnExactDitherPixelSaid : Prop := fnExactDitherPixelRow.holds Try.pinned (OpenSpec.ofChange fnExactDitherPixelSpec)

/-- ITS FALSE NEIGHBOUR: 'it returns false'. Refute it at one input. -/
def fnExactDitherPixelWrong : ChangeSpec := { name := "fnExactDitherPixel", fn := fun _ => fun
  | [d1, d2, d3] => { results := [.lit (.bool false)], args := [d1, d2, d3] }
  | _ => none }
def FnExactDitherPixelWrongFalsely : Prop := fnExactDitherPixelRow.holds Try.pinned (OpenSpec.ofChange fnExactDitherPixelWrong)

/-- 'laws.FnExactDitherImage': WHATEVER THE INPUT: true; the input reads as it did. -/
def fnExactDitherImageSpec : ChangeSpec := { name := "fnExactDitherImage", fn := fun _ => fun
  | [d] => { results := [.lit (.bool true)], args := [d] }
  | _ => none }
def fnExactDitherImageRow : OpenClaim := { program := "ytaggldhlnjbnhaa", sum := "40847ce1c1d065511ea553bd64ad9566eff61e4698d9cc45c4a1a60e69e93e94", func := "loop.example/g03313/laws.FnExactDitherImage", spec := "fnExactDitherImage", plainKeys := false, apart := false }
def FnExactDitherImageSaid : Prop := fnExactDitherImageRow.holds Try.pinned (OpenSpec.ofChange fnExactDitherImageSpec)

/-- ITS FALSE NEIGHBOUR: 'it returns false'. Refute it at one input. -/
def fnExactDitherImageWrong : ChangeSpec := { name := "fnExactDitherImage", fn := fun _ => fun
  | [d] => { results := [.lit (.bool false)], args := [d] }
  | _ => none }
def FnExactDitherImageWrongFalsely : Prop := fnExactDitherImageRow.holds Try.pinned (OpenSpec.ofChange fnExactDitherImageWrong)

/-- 'laws.FnExactLevelOf': WHATEVER THE INPUT: true; the input reads as it did. -/
def fnExactLevelOfSpec : ChangeSpec := { name := "fnExactLevelOf", fn := fun _ => fun
  | [d1, d2] => { results := [.lit (.bool true)], args := [d1, d2] }
  | _ => none }
def fnExactLevelOfRow : OpenClaim := { program := "ytaggldhlnjbnhaa", sum := "40847ce1c1d065511ea553bd64ad9566eff61e4698d9cc45c4a1a60e69e93e94", func := "loop.example/g03313/laws.FnExactLevelOf", spec := "fnExactLevelOf", plainKeys := false, apart := false }
def FnExactLevelOfSaid : Prop := fnExactLevelOfRow.holds Try.pinned (OpenSpec.ofChange fnExactLevelOfSpec)

/-- ITS FALSE NEIGHBOUR: 'it returns false'. Refute it at one input. -/
def fnExactLevelOfWrong : ChangeSpec := { name := "fnExactLevelOf", fn := fun _ => fun
  | [d1, d2] => { results := [.lit (.bool false)], args := [d1, d2] }
  | _ => none }
def FnExactLevelOfWrongFalsely : Prop := fnExactLevelOfRow.holds Try.pinned (OpenSpec.ofChange fnExactLevelOfWrong)

/-- 'laws.FnExactPictureOk': WHATEVER THE INPUT: true; the input reads as it did. -/
def fnExactPictureOkSpec : ChangeSpec := { name := "fnExactPictureOk", fn := fun _ => fun
  | [d1, d2, d3] => { results := [.lit (.bool true)], args := [d1, d2, d3] }
  | _ => none }
def fnExactPictureOkRow : OpenClaim := { program := "ytaggldhlnjbnhaa", sum := "40847ce1c1d065511ea553bd64ad9566eff61e4698d9cc45c4a1a60e69e93e94", func := "loop.example/g03313/laws.FnExactPictureOk", spec := "fnExactPictureOk", plainKeys := false, apart := false }
def FnExactPictureOkSaid : Prop := fnExactPictureOkRow.holds Try.pinned (OpenSpec.ofChange fnExactPictureOkSpec)

/-- ITS FALSE NEIGHBOUR: 'it returns false'. Refute it at one input. -/
def fnExactPictureOkWrong : ChangeSpec := { name := "fnExactPictureOk", fn := fun _ => fun
  | [d1, d2, d3] => { results := [.lit (.bool false)], args := [d1, d2, d3] }
  | _ => none }
def FnExactPictureOkWrongFalsely : Prop := fnExactPictureOkRow.holds Try.pinned (OpenSpec.ofChange fnExactPictureOkWrong)

/-- 'laws.FnExactImageOk': WHATEVER THE INPUT: true; the input reads as it did. -/
def fnExactImageOkSpec : ChangeSpec := { name := "fnExactImageOk", fn := fun _ => fun
  | [d] => { results := [.lit (.bool true)], args := [d] }
  | _ => none }
def fnExactImageOkRow : OpenClaim := { program := "ytaggldhlnjbnhaa", sum := "40847ce1c1d065511ea553bd64ad9566eff61e4698d9cc45c4a1a60e69e93e94", func := "loop.example/g03313/laws.FnExactImageOk", spec := "fnExactImageOk", plainKeys := false, apart := false }
def FnExactImageOkSaid : Prop := fnExactImageOkRow.holds Try.pinned (OpenSpec.ofChange fnExactImageOkSpec)

/-- ITS FALSE NEIGHBOUR: 'it returns false'. Refute it at one input. -/
def fnExactImageOkWrong : ChangeSpec := { name := "fnExactImageOk", fn := fun _ => fun
  | [d] => { results := [.lit (.bool false)], args := [d] }
  | _ => none }
def FnExactImageOkWrongFalsely : Prop := fnExactImageOkRow.holds Try.pinned (OpenSpec.ofChange fnExactImageOkWrong)

/-- 'laws.FnExactColorImage': WHATEVER THE INPUT: true; the input reads as it did. -/
def fnExactColorImageSpec : ChangeSpec := { name := "fnExactColorImage", fn := fun _ => fun
  | [d1, d2] => { results := [.lit (.bool true)], args := [d1, d2] }
  | _ => none }
def fnExactColorImageRow : OpenClaim := { program := "ytaggldhlnjbnhaa", sum := "40847ce1c1d065511ea553bd64ad9566eff61e4698d9cc45c4a1a60e69e93e94", func := "loop.example/g03313/laws.FnExactColorImage", spec := "fnExactColorImage", unfollowed := true, recurses := true, plainKeys := false, apart := false }
def FnExactColorImageSaid : Prop := fnExactColorImageRow.holds Try.pinned (OpenSpec.ofChange fnExactColorImageSpec)

/-- ITS FALSE NEIGHBOUR: 'it returns false'. Refute it at one input. -/
def fnExactColorImageWrong : ChangeSpec := { name := "fnExactColorImage", fn := fun _ => fun
  | [d1, d2] => { results := [.lit (.bool false)], args := [d1, d2] }
  | _ => none }
def FnExactColorImageWrongFalsely : Prop := fnExactColorImageRow.holds Try.pinned (OpenSpec.ofChange fnExactColorImageWrong)

/-- 'laws.FnExactPixelOf': WHATEVER THE INPUT: true; the input reads as it did. -/
def fnExactPixelOfSpec : ChangeSpec := { name := "fnExactPixelOf", fn := fun _ => fun
  | [d1, d2, d3] => { results := [.lit (.bool true)], args := [d1, d2, d3] }
  | _ => none }
def fnExactPixelOfRow : OpenClaim := { program := "ytaggldhlnjbnhaa", sum := "40847ce1c1d065511ea553bd64ad9566eff61e4698d9cc45c4a1a60e69e93e94", func := "loop.example/g03313/laws.FnExactPixelOf", spec := "fnExactPixelOf", plainKeys := false, apart := false }
def FnExactPixelOfSaid : Prop := fnExactPixelOfRow.holds Try.pinned (OpenSpec.ofChange fnExactPixelOfSpec)

/-- ITS FALSE NEIGHBOUR: 'it returns false'. Refute it at one input. -/
def fnExactPixelOfWrong : ChangeSpec := { name := "fnExactPixelOf", fn := fun _ => fun
  | [d1, d2, d3] => { results := [.lit (.bool false)], args := [d1, d2, d3] }
  | _ => none }
def FnExactPixelOfWrongFalsely : Prop := fnExactPixelOfRow.holds Try.pinned (OpenSpec.ofChange fnExactPixelOfWrong)

/-- 'laws.FnExactCropImage': WHATEVER THE INPUT: true; the input reads as it did. -/
def fnExactCropImageSpec : ChangeSpec := { name := "fnExactCropImage", fn := fun _ => fun
  | [d1, d2] => { results := [.lit (.bool true)], args := [d1, d2] }
  | _ => none }
def fnExactCropImageRow : OpenClaim := { program := "ytaggldhlnjbnhaa", sum := "40847ce1c1d065511ea553bd64ad9566eff61e4698d9cc45c4a1a60e69e93e94", func := "loop.example/g03313/laws.FnExactCropImage", spec := "fnExactCropImage", plainKeys := false, apart := false }
def FnExactCropImageSaid : Prop := fnExactCropImageRow.holds Try.pinned (OpenSpec.ofChange fnExactCropImageSpec)

/-- ITS FALSE NEIGHBOUR: 'it returns false'. Refute it at one input. -/
def fnExactCropImageWrong : ChangeSpec := { name := "fnExactCropImage", fn := fun _ => fun
  | [d1, d2] => { results := [.lit (.bool false)], args := [d1, d2] }
  | _ => none }
def FnExactCropImageWrongFalsely : Prop := fnExactCropImageRow.holds Try.pinned (OpenSpec.ofChange fnExactCropImageWrong)

/- THE SECOND FORM. 'bulk': how many values and letters a reading holds, each counted each time it is reached (what is shared counts as often as it is met; a slice's spare places count too). A statement '..UptoSaid' is the law's where the arguments, and the package variables that the reading takes, are together of bulk at most 1048576: NARROWER than '..Said'. Prove '..Said' where nothing that the law and all that it calls make is longer than what came in: it says more and counts as full. Else prove '..UptoSaid'. A law counts once. -/
mutual
def uptoBulk {H : Type} : DataW H → Nat
  | .lit (.string bytes) => bytes.length + 1
  | .lit _ => 1
  | .nil => 1
  | .ptr d => uptoBulk d + 1
  | .slice elems spare => uptoBulkAll elems + uptoBulkAll spare + 1
  | .agg parts => uptoBulkAll parts + 1
  | .iface _ d => uptoBulk d + 1
  | .map entries => uptoBulkEntries entries + 1
  | .held _ => 1
def uptoBulkAll {H : Type} : List (DataW H) → Nat
  | [] => 0
  | d :: r => uptoBulk d + uptoBulkAll r
def uptoBulkEntries {H : Type} : List (Lit × DataW H) → Nat
  | [] => 0
  | x :: r => uptoBulkEntry x + uptoBulkEntries r
def uptoBulkEntry {H : Type} : Lit × DataW H → Nat
  | (.string bytes, d) => bytes.length + uptoBulk d + 1
  | (_, d) => uptoBulk d + 1
 end
def uptoSmall : (H : Type) → List (DataW H) → Bool := fun _ ds => decide (uptoBulkAll ds ≤ 1048576)
def OpenSpec.upto (s : _root_.Go.ChangeSpec) : _root_.Go.OpenSpec := { _root_.Go.OpenSpec.ofChange s with cond := some uptoSmall }

/-- 'laws.FnDitherMean', WHERE WHAT IT READS IS OF BULK AT MOST 1048576: true; the input reads as it did. -/
def fnDitherMeanUptoRow : OpenClaim := { program := "ytaggldhlnjbnhaa", sum := "40847ce1c1d065511ea553bd64ad9566eff61e4698d9cc45c4a1a60e69e93e94", func := "loop.example/g03313/laws.FnDitherMean", spec := "fnDitherMean", plainKeys := false, apart := false, narrowed := true }
def FnDitherMeanUptoSaid : Prop := fnDitherMeanUptoRow.holds Try.pinned (OpenSpec.upto fnDitherMeanSpec)

/-- 'laws.FnDithered', WHERE WHAT IT READS IS OF BULK AT MOST 1048576: true; the input reads as it did. -/
def fnDitheredUptoRow : OpenClaim := { program := "ytaggldhlnjbnhaa", sum := "40847ce1c1d065511ea553bd64ad9566eff61e4698d9cc45c4a1a60e69e93e94", func := "loop.example/g03313/laws.FnDithered", spec := "fnDithered", plainKeys := false, apart := false, narrowed := true }
def FnDitheredUptoSaid : Prop := fnDitheredUptoRow.holds Try.pinned (OpenSpec.upto fnDitheredSpec)

/-- 'laws.FnExactThreshold', WHERE WHAT IT READS IS OF BULK AT MOST 1048576: true; the input reads as it did. -/
def fnExactThresholdUptoRow : OpenClaim := { program := "ytaggldhlnjbnhaa", sum := "40847ce1c1d065511ea553bd64ad9566eff61e4698d9cc45c4a1a60e69e93e94", func := "loop.example/g03313/laws.FnExactThreshold", spec := "fnExactThreshold", plainKeys := false, apart := false, narrowed := true }
def FnExactThresholdUptoSaid : Prop := fnExactThresholdUptoRow.holds Try.pinned (OpenSpec.upto fnExactThresholdSpec)

/-- 'laws.FnExactDitherLevel', WHERE WHAT IT READS IS OF BULK AT MOST 1048576: true; the input reads as it did. -/
def fnExactDitherLevelUptoRow : OpenClaim := { program := "ytaggldhlnjbnhaa", sum := "40847ce1c1d065511ea553bd64ad9566eff61e4698d9cc45c4a1a60e69e93e94", func := "loop.example/g03313/laws.FnExactDitherLevel", spec := "fnExactDitherLevel", plainKeys := false, apart := false, narrowed := true }
def FnExactDitherLevelUptoSaid : Prop := fnExactDitherLevelUptoRow.holds Try.pinned (OpenSpec.upto fnExactDitherLevelSpec)

/-- 'laws.FnExactDitherPixel', WHERE WHAT IT READS IS OF BULK AT MOST 1048576: true; the input reads as it did. -/
def fnExactDitherPixelUptoRow : OpenClaim := { program := "ytaggldhlnjbnhaa", sum := "40847ce1c1d065511ea553bd64ad9566eff61e4698d9cc45c4a1a60e69e93e94", func := "loop.example/g03313/laws.FnExactDitherPixel", spec := "fnExactDitherPixel", plainKeys := false, apart := false, narrowed := true }
def FnExactDitherPixelUptoSaid : Prop := fnExactDitherPixelUptoRow.holds Try.pinned (OpenSpec.upto fnExactDitherPixelSpec)

/-- 'laws.FnExactDitherImage', WHERE WHAT IT READS IS OF BULK AT MOST 1048576: true; the input reads as it did. -/
def fnExactDitherImageUptoRow : OpenClaim := { program := "ytaggldhlnjbnhaa", sum := "40847ce1c1d065511ea553bd64ad9566eff61e4698d9cc45c4a1a60e69e93e94", func := "loop.example/g03313/laws.FnExactDitherImage", spec := "fnExactDitherImage", plainKeys := false, apart := false, narrowed := true }
def FnExactDitherImageUptoSaid : Prop := fnExactDitherImageUptoRow.holds Try.pinned (OpenSpec.upto fnExactDitherImageSpec)

/-- 'laws.FnExactLevelOf', WHERE WHAT IT READS IS OF BULK AT MOST 1048576: true; the input reads as it did. -/
def fnExactLevelOfUptoRow : OpenClaim := { program := "ytaggldhlnjbnhaa", sum := "40847ce1c1d065511ea553bd64ad9566eff61e4698d9cc45c4a1a60e69e93e94", func := "loop.example/g03313/laws.FnExactLevelOf", spec := "fnExactLevelOf", plainKeys := false, apart := false, narrowed := true }
def FnExactLevelOfUptoSaid : Prop := fnExactLevelOfUptoRow.holds Try.pinned (OpenSpec.upto fnExactLevelOfSpec)

/-- 'laws.FnExactPictureOk', WHERE WHAT IT READS IS OF BULK AT MOST 1048576: true; the input reads as it did. -/
def fnExactPictureOkUptoRow : OpenClaim := { program := "ytaggldhlnjbnhaa", sum := "40847ce1c1d065511ea553bd64ad9566eff61e4698d9cc45c4a1a60e69e93e94", func := "loop.example/g03313/laws.FnExactPictureOk", spec := "fnExactPictureOk", plainKeys := false, apart := false, narrowed := true }
def FnExactPictureOkUptoSaid : Prop := fnExactPictureOkUptoRow.holds Try.pinned (OpenSpec.upto fnExactPictureOkSpec)

/-- 'laws.FnExactImageOk', WHERE WHAT IT READS IS OF BULK AT MOST 1048576: true; the input reads as it did. -/
def fnExactImageOkUptoRow : OpenClaim := { program := "ytaggldhlnjbnhaa", sum := "40847ce1c1d065511ea553bd64ad9566eff61e4698d9cc45c4a1a60e69e93e94", func := "loop.example/g03313/laws.FnExactImageOk", spec := "fnExactImageOk", plainKeys := false, apart := false, narrowed := true }
def FnExactImageOkUptoSaid : Prop := fnExactImageOkUptoRow.holds Try.pinned (OpenSpec.upto fnExactImageOkSpec)

/-- 'laws.FnExactColorImage', WHERE WHAT IT READS IS OF BULK AT MOST 1048576: true; the input reads as it did. -/
def fnExactColorImageUptoRow : OpenClaim := { program := "ytaggldhlnjbnhaa", sum := "40847ce1c1d065511ea553bd64ad9566eff61e4698d9cc45c4a1a60e69e93e94", func := "loop.example/g03313/laws.FnExactColorImage", spec := "fnExactColorImage", unfollowed := true, recurses := true, plainKeys := false, apart := false, narrowed := true }
def FnExactColorImageUptoSaid : Prop := fnExactColorImageUptoRow.holds Try.pinned (OpenSpec.upto fnExactColorImageSpec)

/-- 'laws.FnExactPixelOf', WHERE WHAT IT READS IS OF BULK AT MOST 1048576: true; the input reads as it did. -/
def fnExactPixelOfUptoRow : OpenClaim := { program := "ytaggldhlnjbnhaa", sum := "40847ce1c1d065511ea553bd64ad9566eff61e4698d9cc45c4a1a60e69e93e94", func := "loop.example/g03313/laws.FnExactPixelOf", spec := "fnExactPixelOf", plainKeys := false, apart := false, narrowed := true }
def FnExactPixelOfUptoSaid : Prop := fnExactPixelOfUptoRow.holds Try.pinned (OpenSpec.upto fnExactPixelOfSpec)

/-- 'laws.FnExactCropImage', WHERE WHAT IT READS IS OF BULK AT MOST 1048576: true; the input reads as it did. -/
def fnExactCropImageUptoRow : OpenClaim := { program := "ytaggldhlnjbnhaa", sum := "40847ce1c1d065511ea553bd64ad9566eff61e4698d9cc45c4a1a60e69e93e94", func := "loop.example/g03313/laws.FnExactCropImage", spec := "fnExactCropImage", plainKeys := false, apart := false, narrowed := true }
def FnExactCropImageUptoSaid : Prop := fnExactCropImageUptoRow.holds Try.pinned (OpenSpec.upto fnExactCropImageSpec)

end Rows
end Go.Proofs.Ytaggldhlnjbnhaa
