/- Texts of mine in one file: OcM. No statement is proved here. -/
import Derived.Test.YtdgagooldlnpeaaGreatMA
import Derived.Test.YtdgagooldlnpeaaGreatMB
import Derived.Test.YtdgagooldlnpeaaGreatB2sa
import Derived.Test.YtdgagooldlnpeaaGreatB2sav012
import Derived.Test.YtdgagooldlnpeaaGreatProg
import Derived.WalkKit
import Derived.ProofKit
import Derived.OpenShut
import Derived.WalkLawsBesides
import Derived.WalkSpells
import Derived.ShutString
import Derived.ChangeOld
import Derived.Below
import Derived.Lib.Hide
import Derived.BigQuiet
import Derived.Deep.QuietTactic
import Derived.Maps.AppendAt
import Derived.Deep.OwnRows
import Derived.Handy
import Derived.Deep.Draws
import Derived.OwnWalk
import Derived.Deep.AppendLies
import Derived.Deep.LoopGhost
import Derived.Deep.Onto
import Derived.Deep.MidRow
import Derived.Deep.WholeRow
import Derived.Laws.BitsAllLaws
import Derived.Lib.QuoteBits
import Derived.Deep.RegionHeld3
import Derived.Deep.DeepCutAuto
import Derived.Test.YtdgagooldlnpeaaGreatShelf
import Derived.Laws.CopyOwn
import Derived.Deep.RegionLaw
import Derived.Great.BuildSlice
import Derived.Laws.AppendOwn
import Derived.ChangeKeysEq
import Derived.Deep.RegionWith
namespace Go.Proofs.YtdgagooldlnpeaaGreat
open Go.RowKit
theorem one_apart (r : Rc) : Apart [r] := List.pairwise_singleton _ _
theorem parts_one {W H : Nat} (wl : 1 ≤ W ∧ W ≤ 16) (hl : 1 ≤ H ∧ H ≤ 16) (f : Sf) : PartsOk W H f [ocR W H f] :=
 ⟨fun r hr => by rw [List.mem_singleton.1 hr]; exact ocR_in wl hl f, fun r hr p q h => by rw [List.mem_singleton.1 hr] at h; exact ((ocR_has wl hl f p q).1 h).1, one_apart _⟩
theorem oc1_one {W H : Nat} (wl : 1 ≤ W ∧ W ≤ 16) (hl : 1 ≤ H ∧ H ≤ 16) {D : List Int} (hD : D.length = W * H) (f : Sf) : oc1 W D f [ocR W H f] = pn1 W D f := by
 unfold oc1 pn1
 refine tabI_congr _ fun k hk => ?_
 rw [hD] at hk
 have h1 := plc_row hk
 have h2 := Nat.mod_lt k (plc_pos hk)
 have h3 := (ocR_in wl hl f).gridOf wl.2 hl.2 (k % W) (k / W) (by omega)
 rw [ocR_has wl hl] at h3
 unfold ocF pnF
 by_cases c : gridOf [ocR W H f] (k / W * 16 + k % W) = true
 ·rw [if_pos c, if_pos (h3.1 c).1]
 ·rw [if_neg c, if_neg fun e => c (h3.2 ⟨e, h2, h1⟩)]
end Go.Proofs.YtdgagooldlnpeaaGreat
