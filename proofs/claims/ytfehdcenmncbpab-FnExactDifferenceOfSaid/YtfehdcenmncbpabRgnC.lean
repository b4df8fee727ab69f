/- The contracts of RegionOf and RegionOk, of the program and of its model. No statement is proved here. -/
import Derived.Test.YtfehdcenmncbpabRd
import Derived.Test.YtfehdcenmncbpabRectC
import Derived.Test.YtfehdcenmncbpabBlk4
import Derived.Test.YtfehdcenmncbpabRegM
import Derived.Test.YtfehdcenmncbpabGrid
import Derived.Test.YtfehdcenmncbpabHasC
import Derived.Test.YtfehdcenmncbpabRectEq
import Derived.Test.YtfehdcenmncbpabRds
import Derived.Test.YtfehdcenmncbpabGridS
import Derived.Test.YtfehdcenmncbpabGridI
import Derived.Test.YtfehdcenmncbpabCanS
import Derived.Test.YtfehdcenmncbpabRunP
import Derived.Test.YtfehdcenmncbpabCanI
import Derived.Test.YtfehdcenmncbpabSameI
import Derived.Test.YtfehdcenmncbpabProg
import Derived.WalkKit
import Derived.ProofKit
import Derived.OpenShut
import Derived.WalkLawsBesides
import Derived.WalkSpells
import Derived.ShutString
import Derived.ChangeOld
import Derived.Below
import Derived.Lib.Hide
import Derived.BigQuiet
import Derived.Deep.QuietTactic
import Derived.Maps.AppendAt
import Derived.Deep.Draws
import Derived.Deep.MidRow
import Derived.Deep.WholeRow
import Derived.Deep.OwnRows
import Derived.Deep.RegionHeld3
import Derived.Deep.DeepCutAuto
import Derived.Deep.LoopGhost
import Derived.OwnWalk
import Derived.Deep.AppendLies
import Derived.Deep.Onto
import Derived.Laws.AppendOwn
namespace Go.Proofs.Ytfehdcenmncbpab
open Go.RowKit
/-- What RegionOf answers. -/
def RofAns (L : List Rc) (w : World) (e : Ending) (w' : World) : Prop :=
  ∃ v, e = .returned (.agg #[v]) ∧ w'.ownsRow w.heap.size 31 4 v (canon (gridOf L)).length (rcsCells (canon (gridOf L))) ∧ Below w.heap.size w w'
theorem rg_cell {w w' : World} {o : Obj} (h : Below (w.alloc o).heap.size (w.alloc o) w') {v : Value} (ho : o = .cells #[v] 34) : w'.heap[w.heap.size]? = some (.cells #[v] 34 (0, 0)) := by
  subst ho
  exact (h.block _ (by simp)).trans (heap_alloc_new w _)
theorem own_shape {w : World} {B n : Nat} {e : TypeId} {v : Value} {xs : List Value} (h : w.ownsRow B e 4 v n xs) : ∃ A c, v = .slice A n c := by
  rcases h.2 with ⟨rfl, rfl⟩ | ⟨g, cap, cur, rfl, _⟩
  · exact ⟨none, 0, rfl⟩
  · exact ⟨_, _, rfl⟩
theorem own_set {w : World} {B B' n g : Nat} {e : TypeId} {v : Value} {xs : List Value} (h : w.ownsRow B' e 4 v n xs) (hB : B ≤ B') (hg : g < B') (u : Value) : (w.setCell ⟨g, 0, none⟩ u).ownsRow B e 4 v n xs :=
  (h.mono hB).kept (row := some g) (grown_setc w _ 0 u) (by
    by_cases hv : v.ownBlock = none
    · exact .inl hv
    · refine .inr fun e => ?_
      have := (h.lt _ e).1
      omega)
set_option maxHeartbeats 1000000 in
set_option maxRecDepth 10000 in
theorem rofS (v : Value) (L : List Rc) (w : World) (h : RdR w v L) : Calls Try.prog 112 #[v] w (RofAns L w) := by
  have h1 := h.alloc (.cells #[.slice none 0 0] 34)
  have H := Lib.hid h1
  clear h h1
  go_enter Try.func112, Try.ntmps112
  go_wp2_with fail
  refine (gridS v L _ H.out).mono ?_
  rintro e w1 ⟨b, rfl, hb0, hG, hb1⟩
  go_wp2_with fail
  refine (canS b (gridOf L) _ hG).mono ?_
  rintro e w2 ⟨u, rfl, hown, hb2⟩
  have hz := hb1.size
  have hh := rg_cell (hb1.trans (hb2.mono hb1.size)) rfl
  have hw := ((Below.refl w.heap.size w).alloc (Nat.le_refl _) (.cells #[.slice none 0 0] 34)).trans ((hb1.trans (hb2.mono hb1.size)).mono (by simp))
  obtain ⟨A, c, hu⟩ := own_shape hown
  subst hu
  have rc : w2.cell? ⟨w.heap.size, 0, none⟩ = some (.slice none 0 0) := by simp [World.cell?, hh]
  have rf : w2.frozen? ⟨w.heap.size, 0, none⟩ = false := by simp [World.frozen?, hh]
  have Hown := Lib.hid hown
  simp at hz
  clear hown hb1 hb2 hG hb0 hh
  go_wp2_with fail
  exact bodyPost_ret (v := .agg #[.slice A (canon (gridOf L)).length c]) (by simp [results, Try.results112, go_sem, rc]) rfl ⟨_, rfl, own_set Hown.out (by omega) (by omega) _, hw.setCell (by simp) _⟩
set_option maxHeartbeats 1000000 in
set_option maxRecDepth 10000 in
theorem rofI (v : Value) (L : List Rc) (w : World) (h : RdR w v L) : Calls Try.prog 72 #[v] w (RofAns L w) := by
  have h1 := h.alloc (.cells #[.slice none 0 0] 34)
  have H := Lib.hid h1
  clear h h1
  go_enter Try.func72, Try.ntmps72
  go_wp2_with fail
  refine (gridI v L _ H.out).mono ?_
  rintro e w1 ⟨rfl, hb1⟩
  go_wp2_with fail
  refine (canI (gridOf L) _).mono ?_
  rintro e w2 ⟨u, rfl, hown, hb2⟩
  have hz := hb1.size
  have hh := rg_cell (hb1.trans (hb2.mono hb1.size)) rfl
  have hw := ((Below.refl w.heap.size w).alloc (Nat.le_refl _) (.cells #[.slice none 0 0] 34)).trans ((hb1.trans (hb2.mono hb1.size)).mono (by simp))
  obtain ⟨A, c, hu⟩ := own_shape hown
  subst hu
  have rc : w2.cell? ⟨w.heap.size, 0, none⟩ = some (.slice none 0 0) := by simp [World.cell?, hh]
  have rf : w2.frozen? ⟨w.heap.size, 0, none⟩ = false := by simp [World.frozen?, hh]
  have Hown := Lib.hid hown
  simp at hz
  clear hown hb1 hb2 hh
  go_wp2_with fail
  exact bodyPost_ret (v := .agg #[.slice A (canon (gridOf L)).length c]) (by simp [results, Try.results72, go_sem, rc]) rfl ⟨_, rfl, own_set Hown.out (by omega) (by omega) _, hw.setCell (by simp) _⟩
/-- Whether a list of rectangles is a canonical form. -/
noncomputable def okL (L : List Rc) : Bool := sameL (canon (gridOf L)) L
end Go.Proofs.Ytfehdcenmncbpab
