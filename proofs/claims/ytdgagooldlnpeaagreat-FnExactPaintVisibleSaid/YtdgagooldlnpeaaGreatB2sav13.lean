/- Texts of mine in one file: OcM. No statement is proved here. -/
import Derived.Test.YtdgagooldlnpeaaGreatMA
import Derived.Test.YtdgagooldlnpeaaGreatB2sav013
import Derived.Test.YtdgagooldlnpeaaGreatProg
import Derived.WalkKit
import Derived.ProofKit
import Derived.OpenShut
import Derived.WalkLawsBesides
import Derived.WalkSpells
import Derived.ShutString
import Derived.ChangeOld
import Derived.Below
import Derived.Lib.Hide
import Derived.BigQuiet
import Derived.Deep.QuietTactic
import Derived.Maps.AppendAt
import Derived.Deep.OwnRows
import Derived.Handy
import Derived.Deep.Draws
import Derived.OwnWalk
import Derived.Deep.AppendLies
import Derived.Deep.LoopGhost
import Derived.Deep.Onto
import Derived.Deep.MidRow
import Derived.Deep.WholeRow
import Derived.Laws.BitsAllLaws
import Derived.Lib.QuoteBits
import Derived.Deep.RegionHeld3
import Derived.Deep.DeepCutAuto
import Derived.Test.YtdgagooldlnpeaaGreatShelf
import Derived.Laws.CopyOwn
import Derived.Deep.RegionLaw
import Derived.Great.BuildSlice
import Derived.Laws.AppendOwn
import Derived.ChangeKeysEq
import Derived.Deep.RegionWith
namespace Go.Proofs.YtdgagooldlnpeaaGreat
open Go.RowKit
open Classical in
noncomputable def visM (s : Sn) (k : Int) : List Rc := if snOk s ∧ 0 ≤ k ∧ k ≤ (s.fs.length : Int) - 1 then
 match s.fs[k.toNat]? with | some f => ocV s.w s.h f (s.fs.drop (k.toNat + 1)) | none => [] else []
theorem visM_yes {s : Sn} {k : Nat} {f : Sf} (h : snOk s) (hf : s.fs[k]? = some f) : visM s (k : Int) = ocV s.w s.h f (s.fs.drop (k + 1)) := by
 have hk := (List.getElem?_eq_some_iff.1 hf).1
 unfold visM
 rw [if_pos ⟨h, by omega, by omega⟩, Int.toNat_natCast, hf]
theorem visM_no {s : Sn} {k : Int} (h : ¬ (snOk s ∧ 0 ≤ k ∧ k ≤ (s.fs.length : Int) - 1)) : visM s k = [] := if_neg h
end Go.Proofs.YtdgagooldlnpeaaGreat
