/-
  No cell of these rows narrows 'for every input' (looked for: loops, veiled, ifaces, maps, wideKeys, modest, calm, conditions, laid).
  DERIVED. THE GIVEN ROWS OF THIS SEAT. 9 by the template 'for every input the law returns true; each argument reads behind the call as it read before'; 0 by the template 'total and deterministic' (their statements: YtflehkbalnikiaaTotals.lean).
  GIVEN WITH THE SEED: the statements are not yours to turn. If you find one false, say at which input.
  Laid BY PROGRAM, IN A SANDBOX (cutbox-rows.mjs): the forced cells as the released guide's own fill.sh prints them over the translation d98a15f3ab70e1f9… (all of the seat's roots in one cut). By AI agents, Wed Nov 11 2026. No macro, syntax, notation, axiom, sorry.
-/
import Derived.Test.YtflehkbalnikiaaChecked
import GoSem.Claim
import GoSem.ClaimJoined
import GoSem.ClaimMapViews
import Derived.JoinedTies
import Derived.KernelRfl
namespace Go.Proofs.Ytflehkbalnikiaa
/- THE CELL 'sum', in the pinned program and in every row, IS THE sha256 OF THE DUMP (.gsa) THAT YtflehkbalnikiaaProg.lean LOADS. Nothing in Lean hashes anything: it is a label: what it is worth is what the hold of that sum in a sandbox is worth. -/
noncomputable def Try.pinned : Pinned := { name := "ytflehkbalnikiaa", sum := "d98a15f3ab70e1f92157cb862ed11ed9fbdbe65fd302c1cccd3f30abc9ea260b", checked := Try.checked }
namespace Rows
def none {H : Type} : Left H := { results := [], args := [] }

/-- 'laws.FnEdits': WHATEVER THE INPUT: true; the input reads as it did. -/
def fnEditsSpec : ChangeSpec := { name := "fnEdits", fn := fun _ => fun
  | [d] => { results := [.lit (.bool true)], args := [d] }
  | _ => none }
def fnEditsRow : OpenClaim := { program := "ytflehkbalnikiaa", sum := "d98a15f3ab70e1f92157cb862ed11ed9fbdbe65fd302c1cccd3f30abc9ea260b", func := "loop.example/g03313/laws.FnEdits", spec := "fnEdits", unfollowed := true, recurses := true, apart := false }
def FnEditsSaid : Prop := fnEditsRow.holds Try.pinned (OpenSpec.ofChange fnEditsSpec)

/-- ITS FALSE NEIGHBOUR: 'it returns false'. Refute it at one input. -/
def fnEditsWrong : ChangeSpec := { name := "fnEdits", fn := fun _ => fun
  | [d] => { results := [.lit (.bool false)], args := [d] }
  | _ => none }
def FnEditsWrongFalsely : Prop := fnEditsRow.holds Try.pinned (OpenSpec.ofChange fnEditsWrong)

/-- 'laws.FnExactSurfaceOk': WHATEVER THE INPUT: true; the input reads as it did. -/
def fnExactSurfaceOkSpec : ChangeSpec := { name := "fnExactSurfaceOk", fn := fun _ => fun
  | [d] => { results := [.lit (.bool true)], args := [d] }
  | _ => none }
def fnExactSurfaceOkRow : OpenClaim := { program := "ytflehkbalnikiaa", sum := "d98a15f3ab70e1f92157cb862ed11ed9fbdbe65fd302c1cccd3f30abc9ea260b", func := "loop.example/g03313/laws.FnExactSurfaceOk", spec := "fnExactSurfaceOk", apart := false }
def FnExactSurfaceOkSaid : Prop := fnExactSurfaceOkRow.holds Try.pinned (OpenSpec.ofChange fnExactSurfaceOkSpec)

/-- ITS FALSE NEIGHBOUR: 'it returns false'. Refute it at one input. -/
def fnExactSurfaceOkWrong : ChangeSpec := { name := "fnExactSurfaceOk", fn := fun _ => fun
  | [d] => { results := [.lit (.bool false)], args := [d] }
  | _ => none }
def FnExactSurfaceOkWrongFalsely : Prop := fnExactSurfaceOkRow.holds Try.pinned (OpenSpec.ofChange fnExactSurfaceOkWrong)

/-- 'laws.FnExactSceneOk': WHATEVER THE INPUT: true; the input reads as it did. -/
def fnExactSceneOkSpec : ChangeSpec := { name := "fnExactSceneOk", fn := fun _ => fun
  | [d] => { results := [.lit (.bool true)], args := [d] }
  | _ => none }
def fnExactSceneOkRow : OpenClaim := { program := "ytflehkbalnikiaa", sum := "d98a15f3ab70e1f92157cb862ed11ed9fbdbe65fd302c1cccd3f30abc9ea260b", func := "loop.example/g03313/laws.FnExactSceneOk", spec := "fnExactSceneOk", unfollowed := true, recurses := true, apart := false }
def FnExactSceneOkSaid : Prop := fnExactSceneOkRow.holds Try.pinned (OpenSpec.ofChange fnExactSceneOkSpec)

/-- ITS FALSE NEIGHBOUR: 'it returns false'. Refute it at one input. -/
def fnExactSceneOkWrong : ChangeSpec := { name := "fnExactSceneOk", fn := fun _ => fun
  | [d] => { results := [.lit (.bool false)], args := [d] }
  | _ => none }
def FnExactSceneOkWrongFalsely : Prop := fnExactSceneOkRow.holds Try.pinned (OpenSpec.ofChange fnExactSceneOkWrong)

/-- 'laws.FnExactPictureOf': WHATEVER THE INPUT: true; the input reads as it did. -/
def fnExactPictureOfSpec : ChangeSpec := { name := "fnExactPictureOf", fn := fun _ => fun
  | [d] => { results := [.lit (.bool true)], args := [d] }
  | _ => none }
def fnExactPictureOfRow : OpenClaim := { program := "ytflehkbalnikiaa", sum := "d98a15f3ab70e1f92157cb862ed11ed9fbdbe65fd302c1cccd3f30abc9ea260b", func := "loop.example/g03313/laws.FnExactPictureOf", spec := "fnExactPictureOf", unfollowed := true, recurses := true, apart := false }
def FnExactPictureOfSaid : Prop := fnExactPictureOfRow.holds Try.pinned (OpenSpec.ofChange fnExactPictureOfSpec)

/-- ITS FALSE NEIGHBOUR: 'it returns false'. Refute it at one input. -/
def fnExactPictureOfWrong : ChangeSpec := { name := "fnExactPictureOf", fn := fun _ => fun
  | [d] => { results := [.lit (.bool false)], args := [d] }
  | _ => none }
def FnExactPictureOfWrongFalsely : Prop := fnExactPictureOfRow.holds Try.pinned (OpenSpec.ofChange fnExactPictureOfWrong)

/-- 'laws.FnExactSurfaceRect': WHATEVER THE INPUT: true; the input reads as it did. -/
def fnExactSurfaceRectSpec : ChangeSpec := { name := "fnExactSurfaceRect", fn := fun _ => fun
  | [d] => { results := [.lit (.bool true)], args := [d] }
  | _ => none }
def fnExactSurfaceRectRow : OpenClaim := { program := "ytflehkbalnikiaa", sum := "d98a15f3ab70e1f92157cb862ed11ed9fbdbe65fd302c1cccd3f30abc9ea260b", func := "loop.example/g03313/laws.FnExactSurfaceRect", spec := "fnExactSurfaceRect", unfollowed := true, recurses := true, apart := false }
def FnExactSurfaceRectSaid : Prop := fnExactSurfaceRectRow.holds Try.pinned (OpenSpec.ofChange fnExactSurfaceRectSpec)

/-- ITS FALSE NEIGHBOUR: 'it returns false'. Refute it at one input. -/
def fnExactSurfaceRectWrong : ChangeSpec := { name := "fnExactSurfaceRect", fn := fun _ => fun
  | [d] => { results := [.lit (.bool false)], args := [d] }
  | _ => none }
def FnExactSurfaceRectWrongFalsely : Prop := fnExactSurfaceRectRow.holds Try.pinned (OpenSpec.ofChange fnExactSurfaceRectWrong)

/-- 'laws.FnExactIsOpaque': WHATEVER THE INPUT: true; the input reads as it did. -/
def fnExactIsOpaqueSpec : ChangeSpec := { name := "fnExactIsOpaque", fn := fun _ => fun
  | [d] => { results := [.lit (.bool true)], args := [d] }
  | _ => none }
def fnExactIsOpaqueRow : OpenClaim := { program := "ytflehkbalnikiaa", sum := "d98a15f3ab70e1f92157cb862ed11ed9fbdbe65fd302c1cccd3f30abc9ea260b", func := "loop.example/g03313/laws.FnExactIsOpaque", spec := "fnExactIsOpaque", unfollowed := true, recurses := true, apart := false }
def FnExactIsOpaqueSaid : Prop := fnExactIsOpaqueRow.holds Try.pinned (OpenSpec.ofChange fnExactIsOpaqueSpec)

/-- ITS FALSE NEIGHBOUR: 'it returns false'. Refute it at one input. -/
def fnExactIsOpaqueWrong : ChangeSpec := { name := "fnExactIsOpaque", fn := fun _ => fun
  | [d] => { results := [.lit (.bool false)], args := [d] }
  | _ => none }
def FnExactIsOpaqueWrongFalsely : Prop := fnExactIsOpaqueRow.holds Try.pinned (OpenSpec.ofChange fnExactIsOpaqueWrong)

/-- 'laws.FnExactSurfaceIndex': WHATEVER THE INPUT: true; the input reads as it did. -/
def fnExactSurfaceIndexSpec : ChangeSpec := { name := "fnExactSurfaceIndex", fn := fun _ => fun
  | [d1, d2] => { results := [.lit (.bool true)], args := [d1, d2] }
  | _ => none }
def fnExactSurfaceIndexRow : OpenClaim := { program := "ytflehkbalnikiaa", sum := "d98a15f3ab70e1f92157cb862ed11ed9fbdbe65fd302c1cccd3f30abc9ea260b", func := "loop.example/g03313/laws.FnExactSurfaceIndex", spec := "fnExactSurfaceIndex", unfollowed := true, recurses := true, apart := false }
def FnExactSurfaceIndexSaid : Prop := fnExactSurfaceIndexRow.holds Try.pinned (OpenSpec.ofChange fnExactSurfaceIndexSpec)

/-- ITS FALSE NEIGHBOUR: 'it returns false'. Refute it at one input. -/
def fnExactSurfaceIndexWrong : ChangeSpec := { name := "fnExactSurfaceIndex", fn := fun _ => fun
  | [d1, d2] => { results := [.lit (.bool false)], args := [d1, d2] }
  | _ => none }
def FnExactSurfaceIndexWrongFalsely : Prop := fnExactSurfaceIndexRow.holds Try.pinned (OpenSpec.ofChange fnExactSurfaceIndexWrong)

/-- 'laws.FnExactDoEdit': WHATEVER THE INPUT: true; the input reads as it did. -/
def fnExactDoEditSpec : ChangeSpec := { name := "fnExactDoEdit", fn := fun _ => fun
  | [d1, d2] => { results := [.lit (.bool true)], args := [d1, d2] }
  | _ => none }
def fnExactDoEditRow : OpenClaim := { program := "ytflehkbalnikiaa", sum := "d98a15f3ab70e1f92157cb862ed11ed9fbdbe65fd302c1cccd3f30abc9ea260b", func := "loop.example/g03313/laws.FnExactDoEdit", spec := "fnExactDoEdit", unfollowed := true, recurses := true, apart := false }
def FnExactDoEditSaid : Prop := fnExactDoEditRow.holds Try.pinned (OpenSpec.ofChange fnExactDoEditSpec)

/-- ITS FALSE NEIGHBOUR: 'it returns false'. Refute it at one input. -/
def fnExactDoEditWrong : ChangeSpec := { name := "fnExactDoEdit", fn := fun _ => fun
  | [d1, d2] => { results := [.lit (.bool false)], args := [d1, d2] }
  | _ => none }
def FnExactDoEditWrongFalsely : Prop := fnExactDoEditRow.holds Try.pinned (OpenSpec.ofChange fnExactDoEditWrong)

/-- 'laws.FnExactDoEdits': WHATEVER THE INPUT: true; the input reads as it did. -/
def fnExactDoEditsSpec : ChangeSpec := { name := "fnExactDoEdits", fn := fun _ => fun
  | [d1, d2] => { results := [.lit (.bool true)], args := [d1, d2] }
  | _ => none }
def fnExactDoEditsRow : OpenClaim := { program := "ytflehkbalnikiaa", sum := "d98a15f3ab70e1f92157cb862ed11ed9fbdbe65fd302c1cccd3f30abc9ea260b", func := "loop.example/g03313/laws.FnExactDoEdits", spec := "fnExactDoEdits", unfollowed := true, recurses := true, apart := false }
def FnExactDoEditsSaid : Prop := fnExactDoEditsRow.holds Try.pinned (OpenSpec.ofChange fnExactDoEditsSpec)

/-- ITS FALSE NEIGHBOUR: 'it returns false'. Refute it at one input. -/
def fnExactDoEditsWrong : ChangeSpec := { name := "fnExactDoEdits", fn := fun _ => fun
  | [d1, d2] => { results := [.lit (.bool false)], args := [d1, d2] }
  | _ => none }
def FnExactDoEditsWrongFalsely : Prop := fnExactDoEditsRow.holds Try.pinned (OpenSpec.ofChange fnExactDoEditsWrong)

/- THE SECOND FORM. 'bulk': how many values and letters a reading holds, each counted each time it is reached (what is shared counts as often as it is met; a slice's spare places count too). A statement '..UptoSaid' is the law's where the arguments, and the package variables that the reading takes, are together of bulk at most 1048576: NARROWER than '..Said'. Prove '..Said' where nothing that the law and all that it calls make is longer than what came in: it says more and counts as full. Else prove '..UptoSaid'. A law counts once. -/
mutual
def uptoBulk {H : Type} : DataW H → Nat
  | .lit (.string bytes) => bytes.length + 1
  | .lit _ => 1
  | .nil => 1
  | .ptr d => uptoBulk d + 1
  | .slice elems spare => uptoBulkAll elems + uptoBulkAll spare + 1
  | .agg parts => uptoBulkAll parts + 1
  | .iface _ d => uptoBulk d + 1
  | .map entries => uptoBulkEntries entries + 1
  | .held _ => 1
def uptoBulkAll {H : Type} : List (DataW H) → Nat
  | [] => 0
  | d :: r => uptoBulk d + uptoBulkAll r
def uptoBulkEntries {H : Type} : List (Lit × DataW H) → Nat
  | [] => 0
  | x :: r => uptoBulkEntry x + uptoBulkEntries r
def uptoBulkEntry {H : Type} : Lit × DataW H → Nat
  | (.string bytes, d) => bytes.length + uptoBulk d + 1
  | (_, d) => uptoBulk d + 1
 end
def uptoSmall : (H : Type) → List (DataW H) → Bool := fun _ ds => decide (uptoBulkAll ds ≤ 1048576)
def OpenSpec.upto (s : _root_.Go.ChangeSpec) : _root_.Go.OpenSpec := { _root_.Go.OpenSpec.ofChange s with cond := some uptoSmall }

/-- 'laws.FnEdits', WHERE WHAT IT READS IS OF BULK AT MOST 1048576: true; the input reads as it did. -/
def fnEditsUptoRow : OpenClaim := { program := "ytflehkbalnikiaa", sum := "d98a15f3ab70e1f92157cb862ed11ed9fbdbe65fd302c1cccd3f30abc9ea260b", func := "loop.example/g03313/laws.FnEdits", spec := "fnEdits", unfollowed := true, recurses := true, apart := false, narrowed := true }
def FnEditsUptoSaid : Prop := fnEditsUptoRow.holds Try.pinned (OpenSpec.upto fnEditsSpec)

/-- 'laws.FnExactSurfaceOk', WHERE WHAT IT READS IS OF BULK AT MOST 1048576: true; the input reads as it did. -/
def fnExactSurfaceOkUptoRow : OpenClaim := { program := "ytflehkbalnikiaa", sum := "d98a15f3ab70e1f92157cb862ed11ed9fbdbe65fd302c1cccd3f30abc9ea260b", func := "loop.example/g03313/laws.FnExactSurfaceOk", spec := "fnExactSurfaceOk", apart := false, narrowed := true }
def FnExactSurfaceOkUptoSaid : Prop := fnExactSurfaceOkUptoRow.holds Try.pinned (OpenSpec.upto fnExactSurfaceOkSpec)

/-- 'laws.FnExactSceneOk', WHERE WHAT IT READS IS OF BULK AT MOST 1048576: true; the input reads as it did. -/
def fnExactSceneOkUptoRow : OpenClaim := { program := "ytflehkbalnikiaa", sum := "d98a15f3ab70e1f92157cb862ed11ed9fbdbe65fd302c1cccd3f30abc9ea260b", func := "loop.example/g03313/laws.FnExactSceneOk", spec := "fnExactSceneOk", unfollowed := true, recurses := true, apart := false, narrowed := true }
def FnExactSceneOkUptoSaid : Prop := fnExactSceneOkUptoRow.holds Try.pinned (OpenSpec.upto fnExactSceneOkSpec)

/-- 'laws.FnExactPictureOf', WHERE WHAT IT READS IS OF BULK AT MOST 1048576: true; the input reads as it did. -/
def fnExactPictureOfUptoRow : OpenClaim := { program := "ytflehkbalnikiaa", sum := "d98a15f3ab70e1f92157cb862ed11ed9fbdbe65fd302c1cccd3f30abc9ea260b", func := "loop.example/g03313/laws.FnExactPictureOf", spec := "fnExactPictureOf", unfollowed := true, recurses := true, apart := false, narrowed := true }
def FnExactPictureOfUptoSaid : Prop := fnExactPictureOfUptoRow.holds Try.pinned (OpenSpec.upto fnExactPictureOfSpec)

/-- 'laws.FnExactSurfaceRect', WHERE WHAT IT READS IS OF BULK AT MOST 1048576: true; the input reads as it did. -/
def fnExactSurfaceRectUptoRow : OpenClaim := { program := "ytflehkbalnikiaa", sum := "d98a15f3ab70e1f92157cb862ed11ed9fbdbe65fd302c1cccd3f30abc9ea260b", func := "loop.example/g03313/laws.FnExactSurfaceRect", spec := "fnExactSurfaceRect", unfollowed := true, recurses := true, apart := false, narrowed := true }
def FnExactSurfaceRectUptoSaid : Prop := fnExactSurfaceRectUptoRow.holds Try.pinned (OpenSpec.upto fnExactSurfaceRectSpec)

/-- 'laws.FnExactIsOpaque', WHERE WHAT IT READS IS OF BULK AT MOST 1048576: true; the input reads as it did. -/
def fnExactIsOpaqueUptoRow : OpenClaim := { program := "ytflehkbalnikiaa", sum := "d98a15f3ab70e1f92157cb862ed11ed9fbdbe65fd302c1cccd3f30abc9ea260b", func := "loop.example/g03313/laws.FnExactIsOpaque", spec := "fnExactIsOpaque", unfollowed := true, recurses := true, apart := false, narrowed := true }
def FnExactIsOpaqueUptoSaid : Prop := fnExactIsOpaqueUptoRow.holds Try.pinned (OpenSpec.upto fnExactIsOpaqueSpec)

/-- 'laws.FnExactSurfaceIndex', WHERE WHAT IT READS IS OF BULK AT MOST 1048576: true; the input reads as it did. -/
def fnExactSurfaceIndexUptoRow : OpenClaim := { program := "ytflehkbalnikiaa", sum := "d98a15f3ab70e1f92157cb862ed11ed9fbdbe65fd302c1cccd3f30abc9ea260b", func := "loop.example/g03313/laws.FnExactSurfaceIndex", spec := "fnExactSurfaceIndex", unfollowed := true, recurses := true, apart := false, narrowed := true }
def FnExactSurfaceIndexUptoSaid : Prop := fnExactSurfaceIndexUptoRow.holds Try.pinned (OpenSpec.upto fnExactSurfaceIndexSpec)

/-- 'laws.FnExactDoEdit', WHERE WHAT IT READS IS OF BULK AT MOST 1048576: true; the input reads as it did. -/
def fnExactDoEditUptoRow : OpenClaim := { program := "ytflehkbalnikiaa", sum := "d98a15f3ab70e1f92157cb862ed11ed9fbdbe65fd302c1cccd3f30abc9ea260b", func := "loop.example/g03313/laws.FnExactDoEdit", spec := "fnExactDoEdit", unfollowed := true, recurses := true, apart := false, narrowed := true }
def FnExactDoEditUptoSaid : Prop := fnExactDoEditUptoRow.holds Try.pinned (OpenSpec.upto fnExactDoEditSpec)

/-- 'laws.FnExactDoEdits', WHERE WHAT IT READS IS OF BULK AT MOST 1048576: true; the input reads as it did. -/
def fnExactDoEditsUptoRow : OpenClaim := { program := "ytflehkbalnikiaa", sum := "d98a15f3ab70e1f92157cb862ed11ed9fbdbe65fd302c1cccd3f30abc9ea260b", func := "loop.example/g03313/laws.FnExactDoEdits", spec := "fnExactDoEdits", unfollowed := true, recurses := true, apart := false, narrowed := true }
def FnExactDoEditsUptoSaid : Prop := fnExactDoEditsUptoRow.holds Try.pinned (OpenSpec.upto fnExactDoEditsSpec)

end Rows
end Go.Proofs.Ytflehkbalnikiaa
