/- The contracts of RegionOk, of the program and of its model. No statement is proved here. -/
import Derived.Test.YtnhalmfljefliaaRgnC
namespace Go.Proofs.Ytnhalmfljefliaa
open Go.RowKit
/-- What RegionOk answers. -/
def RokAns (L : List Rc) (w : World) (e : Ending) (w' : World) : Prop := e = .returned (.bool (okL L)) ∧ Below w.heap.size w w'
theorem cell_drew {w : World} {a : Addr} {v : Value} (h : w.cell? a = some v) : w.drew.cell? a = some v := h
theorem cell_drewN {w : World} {a : Addr} {v : Value} (h : w.cell? a = some v) (q : Nat) : (w.drewN q).cell? a = some v := h
theorem cell_call {w w' : World} {g o : Nat} {v : Value} (hb : Below w.heap.size w w') (h : w.cell? ⟨g, o, none⟩ = some v) : w'.cell? ⟨g, o, none⟩ = some v :=
  (hb.cell (p := ⟨g, o, none⟩) (World.block_lt_of_cell? w _ h)).trans h
theorem below_call {a w w' : World} (h : Below a.heap.size a w) (hb : Below w.heap.size w w') : Below a.heap.size a w' := h.trans (hb.mono h.size)
theorem field_rg (u : Value) (W : World) : (Instr.field 34 (.agg #[u]) 0).run Try.prog W = .ok u W := by
  simp [Instr.field, run_underlying Try.underlying34, asAgg, part, go_sem]
set_option maxHeartbeats 1000000 in
set_option maxRecDepth 10000 in
theorem rokS (v : Value) (L : List Rc) (w : World) (h : RdR w v L) : Calls Try.prog 77 #[.agg #[v]] w (RokAns L w) := by
  have hV := h.alloc (.cells #[v] 34)
  have hw := (Below.refl w.heap.size w).alloc (Nat.le_refl _) (.cells #[v] 34)
  have hc : (w.alloc (.cells #[v] 34)).cell? ⟨w.heap.size, 0, none⟩ = some v := new_cell w v _
  clear h
  go_enter Try.func77, Try.ntmps77
  go_wp2_with fail
  go_region_held3 (fun w' => w'.cell? ⟨w.heap.size, 0, none⟩ = some v)
    (with_reducible first | exact hc | exact cell_drew hc | fail)
    (first | (go_at_call 97; (with_reducible first | refine (rofS v L _ hV).mono ?_ | refine (rofS v L _ hV.drew).mono ?_); rintro e wk ⟨u, rfl, hown, hbk⟩; have hfld := field_rg u; (with_reducible first | have hV := hV.call hbk | have hV := hV.drew.call hbk); (with_reducible first | have hw := below_call hw hbk | have hw := below_call hw.drew hbk); (with_reducible first | (have hc := cell_call hbk hc) | (have hc := cell_call hbk (cell_drew hc)))) | (go_at_call 96; (with_reducible first | refine (sameS u v _ L _ (RdR.of_own hown) hV).mono ?_ | refine (sameS u v _ L _ (RdR.of_own hown).drew hV.drew).mono ?_); rintro e wk ⟨rfl, q, rfl⟩; have hw := below_drewN hw q; have hc := cell_drewN hc q))
  go_wp2_with fail
  go_ret
  exact ⟨rfl, by first | exact hw | exact hw.drew | exact below_drewN hw _⟩
set_option maxHeartbeats 1000000 in
set_option maxRecDepth 10000 in
theorem rokI (v : Value) (L : List Rc) (w : World) (h : RdR w v L) : Calls Try.prog 54 #[.agg #[v]] w (RokAns L w) := by
  have hV := h.alloc (.cells #[v] 34)
  have hw := (Below.refl w.heap.size w).alloc (Nat.le_refl _) (.cells #[v] 34)
  have hc : (w.alloc (.cells #[v] 34)).cell? ⟨w.heap.size, 0, none⟩ = some v := new_cell w v _
  clear h
  go_enter Try.func54, Try.ntmps54
  go_wp2_with fail
  go_region_held3 (fun w' => w'.cell? ⟨w.heap.size, 0, none⟩ = some v)
    (with_reducible first | exact hc | exact cell_drew hc | fail)
    (first | (go_at_call 73; (with_reducible first | refine (rofI v L _ hV).mono ?_ | refine (rofI v L _ hV.drew).mono ?_); rintro e wk ⟨u, rfl, hown, hbk⟩; have hfld := field_rg u; (with_reducible first | have hV := hV.call hbk | have hV := hV.drew.call hbk); (with_reducible first | have hw := below_call hw hbk | have hw := below_call hw.drew hbk); (with_reducible first | (have hc := cell_call hbk hc) | (have hc := cell_call hbk (cell_drew hc)))) | (go_at_call 90; (with_reducible first | refine (sameI u v _ L _ (RdR.of_own hown) hV).mono ?_ | refine (sameI u v _ L _ (RdR.of_own hown).drew hV.drew).mono ?_); rintro e wk ⟨rfl, q, rfl⟩; have hw := below_drewN hw q; have hc := cell_drewN hc q))
  go_wp2_with fail
  go_ret
  exact ⟨rfl, by first | exact hw | exact hw.drew | exact below_drewN hw _⟩
end Go.Proofs.Ytnhalmfljefliaa
