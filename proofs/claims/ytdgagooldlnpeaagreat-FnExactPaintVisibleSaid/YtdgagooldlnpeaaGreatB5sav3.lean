/- Texts of mine in one file: PvU. No statement is proved here. -/
import Derived.Test.YtdgagooldlnpeaaGreatMA
import Derived.Test.YtdgagooldlnpeaaGreatMAv023
import Derived.Test.YtdgagooldlnpeaaGreatMBv013
import Derived.Test.YtdgagooldlnpeaaGreatMB
import Derived.Test.YtdgagooldlnpeaaGreatB1sav23
import Derived.Test.YtdgagooldlnpeaaGreatB2sav03
import Derived.Test.YtdgagooldlnpeaaGreatB1sav013
import Derived.Test.YtdgagooldlnpeaaGreatPvIv03
import Derived.Test.YtdgagooldlnpeaaGreatPvSv3
import Derived.Test.YtdgagooldlnpeaaGreatMC
import Derived.Test.YtdgagooldlnpeaaGreatMAv23
import Derived.Test.YtdgagooldlnpeaaGreatProg
import Derived.WalkKit
import Derived.ProofKit
import Derived.OpenShut
import Derived.WalkLawsBesides
import Derived.WalkSpells
import Derived.ShutString
import Derived.ChangeOld
import Derived.Below
import Derived.Lib.Hide
import Derived.BigQuiet
import Derived.Deep.QuietTactic
import Derived.Maps.AppendAt
import Derived.Deep.OwnRows
import Derived.Handy
import Derived.Deep.Draws
import Derived.OwnWalk
import Derived.Deep.AppendLies
import Derived.Deep.LoopGhost
import Derived.Deep.Onto
import Derived.Deep.MidRow
import Derived.Deep.WholeRow
import Derived.Laws.BitsAllLaws
import Derived.Lib.QuoteBits
import Derived.Deep.RegionHeld3
import Derived.Deep.DeepCutAuto
import Derived.Test.YtdgagooldlnpeaaGreatShelf
import Derived.Laws.CopyOwn
import Derived.Deep.RegionLaw
import Derived.Great.BuildSlice
import Derived.Shelf.RegionOpenPlain
import Derived.Lib.SliceRun
import Derived.Deep.RegionWith
import Derived.Laws.AppendOwn
import Derived.ChangeKeysEq
import Derived.Deep.DeepAppendRoom
namespace Go.Proofs.YtdgagooldlnpeaaGreat
open Go.RowKit
def PvK (I : Im) (n : Int) (w : World) (e : Ending) (w' : World) : Prop := ∃ u bs, e = .returned (.tuple #[.agg #[.int .i64 I.w, .int .i64 I.h, u], .int .i64 n]) ∧ repIm.Own w.heap.size w' I [.int .i64 I.w, .int .i64 I.h, u] bs ∧ Below w.heap.size w w'
theorem pvK {I : Im} {n : Int} {w : World} {e : Ending} {w' : World} (h : PvAns I n w e w') : PvK I n w e w' := by
 obtain ⟨u, he, ho, hb⟩ := h
 have h := ints_own ho
 exact ⟨u, _, he, ⟨⟨u, rfl, h.r⟩, h.nd, h.lo⟩, hb⟩
theorem pvIm_len (s : Sn) : (pvIm s).d.length ≤ 256 := by
 by_cases h : snOk s
 ·rw [pvIm_yes h]
  show (ocK _ _ _ _ _).length ≤ 256
  rw [ocK_len]
  have h2 := (flat_ok h.1 h.2.1.1).2.1
  have h3 := sz_mul h.1
  omega
 ·rw [pvIm_no h]; show ([] : List Int).length ≤ _; simp
theorem pvS' (s : Sn) (v : Value) (bs : List Nat) (w : World) (h : repSfs.R w s.fs [v] bs) : Calls Tryz.prog 59 #[.agg #[.int .i64 s.w, .int .i64 s.h, .int .i64 s.back, v]] w (PvK (pvIm s) (pvN s) w) := (pvS s v bs w h).mono fun _ _ h => pvK h
theorem pvI' (s : Sn) (v : Value) (bs : List Nat) (w : World) (h : repSfs.R w s.fs [v] bs) : Calls Tryz.prog 53 #[.agg #[.int .i64 s.w, .int .i64 s.h, .int .i64 s.back, v]] w (PvK (pvIm s) (pvN s) w) := (pvI s v bs w h).mono fun _ _ h => pvK h
end Go.Proofs.YtdgagooldlnpeaaGreat
