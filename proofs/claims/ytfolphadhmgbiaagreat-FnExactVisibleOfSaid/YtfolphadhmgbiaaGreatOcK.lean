/- The contracts of CoverOf and PaintCost of the program. No statement is proved here. -/
import Derived.Test.YtfolphadhmgbiaaGreatMA
import Derived.Test.YtfolphadhmgbiaaGreatMB
import Derived.Test.YtfolphadhmgbiaaGreatSlE
import Derived.Test.YtfolphadhmgbiaaGreatMC
import Derived.Test.YtfolphadhmgbiaaGreatSnS
import Derived.Test.YtfolphadhmgbiaaGreatCombI
import Derived.Test.YtfolphadhmgbiaaGreatPlH
import Derived.Test.YtfolphadhmgbiaaGreatSfP
import Derived.Test.YtfolphadhmgbiaaGreatPlW
import Derived.Test.YtfolphadhmgbiaaGreatOcI
import Derived.Test.YtfolphadhmgbiaaGreatOcJ
import Derived.Test.YtfolphadhmgbiaaGreatProg
import Derived.WalkKit
import Derived.ProofKit
import Derived.OpenShut
import Derived.WalkLawsBesides
import Derived.WalkSpells
import Derived.ShutString
import Derived.ChangeOld
import Derived.Below
import Derived.Lib.Hide
import Derived.BigQuiet
import Derived.Deep.QuietTactic
import Derived.Maps.AppendAt
import Derived.Deep.OwnRows
import Derived.Handy
import Derived.Deep.Draws
import Derived.OwnWalk
import Derived.Deep.AppendLies
import Derived.Deep.LoopGhost
import Derived.Deep.Onto
import Derived.Deep.MidRow
import Derived.Deep.WholeRow
import Derived.Laws.BitsAllLaws
import Derived.Lib.QuoteBits
import Derived.Deep.RegionHeld3
import Derived.Deep.DeepCutAuto
import Derived.Test.YtfolphadhmgbiaaGreatShelf
import Derived.Laws.CopyOwn
import Derived.Deep.RegionLaw
import Derived.Great.BuildSlice
import Derived.Shelf.RegionOpenPlain
import Derived.Lib.SliceRun
import Derived.Deep.RegionWith
import Derived.Laws.AppendOwn
import Derived.ChangeKeysEq
import Derived.Deep.DeepAppendRoom
namespace Go.Proofs.YtfolphadhmgbiaaGreat
open Go.RowKit
theorem plL_small (W H : Int) (fs : List Sf) : ∀ p ∈ plL W H fs, p.2.length ≤ 256 := fun p hp => by
  unfold plL at hp
  obtain ⟨f, _, rfl⟩ := List.mem_map.1 hp
  exact canon_len _
/-- A region is answered. -/
def RgQ (Q : List Rc) (w : World) (e : Ending) (w' : World) : Prop := ∃ v, e = .returned (.agg #[v]) ∧ w'.ownsRow w.heap.size 92 4 v Q.length (rcsCells Q) ∧ Below w.heap.size w w'
theorem RgQ.of_rof {L Q : List Rc} {w : World} {e : Ending} {w' : World} (h : RofAns L w e w') (hq : canon (gridOf L) = Q) : RgQ Q w e w' := by subst hq; exact h
/-- What a slice of a slice is. -/
theorem HalfP.from {B : Nat} {w : World} {M : List Pl} {g N : Nat} {bs : List Nat} (h : HalfP B w M (.slice (some ⟨g, 0, none⟩) N N) bs) (j : Nat) : RdP w (.slice (some ⟨g, j * 12, none⟩) (N - j) (N - j)) (M.drop j) := h.drop j _ _ (by rw [List.length_drop, ← h.len])
theorem HalfP.none {B : Nat} {w : World} {M : List Pl} {g N : Nat} {bs : List Nat} (h : HalfP B w M (.slice (some ⟨g, 0, none⟩) N N) bs) (A : Option Addr) (c : Nat) : RdP w (.slice A 0 c) (M.drop N) := by
  rw [List.drop_of_length_le (by rw [← h.len]; exact Nat.le_refl _)]
  exact RdP.nil w A c
structure CvT (w : World) (s : Sn) (v : Value) (bs : List Nat) (V : World) : Prop where
  a : SnA w.heap.size s v bs V
  x : BxR V (w.heap.size + 1)
  bw : Below w.heap.size w V
theorem CvT.call {w : World} {s : Sn} {v : Value} {bs : List Nat} {V V' : World} (h : CvT w s v bs V) (hb : Below V.heap.size V V') : CvT w s v bs V' := ⟨h.a.call hb, (hb.block _ h.x.lt).trans h.x, belI_call h.bw hb⟩
theorem CvT.born {w : World} {s : Sn} {v : Value} {bs : List Nat} (h : repSfs.R w s.fs [v] bs) : CvT w s v bs ((w.alloc (.cells #[.int .i64 s.w, .int .i64 s.h, .int .i64 s.back, v] 26)).alloc (.cells #[.slice none 0 0] 41)) :=
  ⟨(SnA.born h).call (belI_box _ _), by have := heap_alloc_new (w.alloc (.cells #[.int .i64 s.w, .int .i64 s.h, .int .i64 s.back, v] 26)) (.cells #[.slice none 0 0] 41); unfold BxR; simpa using this, belI_call (belI_box _ _) (belI_box _ _)⟩
theorem CvT.res {w : World} {s : Sn} {v : Value} {bs : List Nat} {V : World} (h : CvT w s v bs V) : V.cell? ⟨w.heap.size + 1, 0, none⟩ = some (.slice none 0 0) ∧ V.frozen? ⟨w.heap.size + 1, 0, none⟩ = false := by
  constructor
  · simp [World.cell?, show V.heap[w.heap.size + 1]? = _ from h.x]
  · simp [World.frozen?, show V.heap[w.heap.size + 1]? = _ from h.x]
theorem rg_zero {w V : World} (h : Below w.heap.size w V) : RgQ [] w (.returned (.agg #[.slice none 0 0])) (V.setCell ⟨w.heap.size + 1, 0, none⟩ (.slice none 0 0)) :=
  ⟨_, rfl, ⟨rfl, .inl ⟨rfl, rfl⟩⟩, h.setCell (by simp) _⟩
end Go.Proofs.YtfolphadhmgbiaaGreat
