/- Occlusion as plain mathematics: the regions that are covered and seen, painting within regions, the numbers of points. No statement is proved here. -/
import Derived.Test.YtfolphadhmgbiaaGreatMA
import Derived.Test.YtfolphadhmgbiaaGreatMC
import Derived.Test.YtfolphadhmgbiaaGreatSfR
import Derived.Test.YtfolphadhmgbiaaGreatSfQ
import Derived.Test.YtfolphadhmgbiaaGreatProg
import Derived.WalkKit
import Derived.ProofKit
import Derived.OpenShut
import Derived.WalkLawsBesides
import Derived.WalkSpells
import Derived.ShutString
import Derived.ChangeOld
import Derived.Below
import Derived.Lib.Hide
import Derived.BigQuiet
import Derived.Deep.QuietTactic
import Derived.Maps.AppendAt
import Derived.Deep.OwnRows
import Derived.Handy
import Derived.Deep.Draws
import Derived.OwnWalk
import Derived.Deep.AppendLies
import Derived.Deep.LoopGhost
import Derived.Deep.Onto
import Derived.Deep.MidRow
import Derived.Deep.WholeRow
import Derived.Laws.BitsAllLaws
import Derived.Lib.QuoteBits
import Derived.Deep.RegionHeld3
import Derived.Deep.DeepCutAuto
import Derived.Test.YtfolphadhmgbiaaGreatShelf
import Derived.Laws.CopyOwn
import Derived.Deep.RegionLaw
import Derived.Great.BuildSlice
import Derived.Laws.AppendOwn
import Derived.ChangeKeysEq
import Derived.Deep.RegionWith
namespace Go.Proofs.YtfolphadhmgbiaaGreat
open Go.RowKit
/-- Where the picture of a surface is on a screen of W times H points. -/
noncomputable def ocR (W H : Int) (f : Sf) : Rc := isect (sfRect f) ⟨0, 0, W, H⟩
/-- A surface's points on the screen, as a region. -/
noncomputable def ocP (W H : Int) (f : Sf) : List Rc := canon (gridOf [ocR W H f])
/-- The rectangles of the opaque surfaces; the rectangles of their regions. -/
noncomputable def ocO (W H : Int) (fs : List Sf) : List Rc := (fs.filter sfOpq).map (ocR W H)
noncomputable def ocQ (W H : Int) (fs : List Sf) : List Rc := (fs.filter sfOpq).flatMap (ocP W H)
/-- The region that they cover. -/
noncomputable def ocC (W H : Int) (fs : List Sf) : List Rc := canon (gridOf (ocO W H fs))
theorem ocQ_grid (W H : Int) (L : List Sf) (k : Nat) (hk : k < 256) : gridOf (L.flatMap (ocP W H)) k = gridOf (L.map (ocR W H)) k := by
  induction L with
  | nil => rfl
  | cons f L ih => rw [List.flatMap_cons, List.map_cons, gridOf_append, ih, show ocR W H f :: L.map (ocR W H) = [ocR W H f] ++ L.map (ocR W H) from rfl, gridOf_append]; unfold ocP; rw [gridOf_canon _ k hk]
theorem ocQ_C (W H : Int) (fs : List Sf) : canon (gridOf (ocQ W H fs)) = ocC W H fs := canon_congr fun k hk => ocQ_grid W H _ k hk
theorem ocO_len (W H : Int) (fs : List Sf) : (ocO W H fs).length ≤ fs.length := by unfold ocO; rw [List.length_map]; exact List.length_filter_le _ _
theorem ocO_one {W H : Int} {f : Sf} {fs : List Sf} : ocO W H (fs ++ [f]) = ocO W H fs ++ (if sfOpq f = true then [ocR W H f] else []) := by
  unfold ocO
  rw [List.filter_append, List.map_append]
  congr 1
  by_cases h : sfOpq f = true <;> simp [h]
open Classical in
/-- What CoverOf answers. -/
noncomputable def covM (s : Sn) (k : Int) : List Rc := if snOk s ∧ -1 ≤ k ∧ k ≤ (s.fs.length : Int) - 1 then ocC s.w s.h (s.fs.drop (k + 1).toNat) else []
theorem covM_yes {s : Sn} {k : Int} (h : snOk s ∧ -1 ≤ k ∧ k ≤ (s.fs.length : Int) - 1) : covM s k = ocC s.w s.h (s.fs.drop (k + 1).toNat) := if_pos h
theorem covM_no {s : Sn} {k : Int} (h : ¬ (snOk s ∧ -1 ≤ k ∧ k ≤ (s.fs.length : Int) - 1)) : covM s k = [] := if_neg h
/-- Where a surface below others can be seen. -/
noncomputable def ocV (W H : Int) (f : Sf) (r : List Sf) : List Rc := joinL (fun p q => p && !q) (ocP W H f) (ocC W H r)
open Classical in
/-- What VisibleOf answers. -/
noncomputable def visM (s : Sn) (k : Int) : List Rc := if snOk s ∧ 0 ≤ k ∧ k ≤ (s.fs.length : Int) - 1 then
  match s.fs[k.toNat]? with | some f => ocV s.w s.h f (s.fs.drop (k.toNat + 1)) | none => [] else []
theorem visM_yes {s : Sn} {k : Nat} {f : Sf} (h : snOk s) (hf : s.fs[k]? = some f) : visM s (k : Int) = ocV s.w s.h f (s.fs.drop (k + 1)) := by
  have hk := (List.getElem?_eq_some_iff.1 hf).1
  unfold visM
  rw [if_pos ⟨h, by omega, by omega⟩, Int.toNat_natCast, hf]
theorem visM_no {s : Sn} {k : Int} (h : ¬ (snOk s ∧ 0 ≤ k ∧ k ≤ (s.fs.length : Int) - 1)) : visM s k = [] := if_neg h
end Go.Proofs.YtfolphadhmgbiaaGreat
