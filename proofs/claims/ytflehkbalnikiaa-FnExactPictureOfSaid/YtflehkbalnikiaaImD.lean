/- Operations on images in a free order (alloc, store, an empty literal, append of a whole slice); the contracts of slices.Clone, canvas.copied, l05Copy. No statement is proved here. -/
import Derived.Test.YtflehkbalnikiaaRd
import Derived.Test.YtflehkbalnikiaaIntR
import Derived.Test.YtflehkbalnikiaaImR
import Derived.Test.YtflehkbalnikiaaMA
import Derived.Test.YtflehkbalnikiaaPixM
import Derived.Test.YtflehkbalnikiaaImL
import Derived.Test.YtflehkbalnikiaaProg
import Derived.WalkKit
import Derived.ProofKit
import Derived.OpenShut
import Derived.WalkLawsBesides
import Derived.WalkSpells
import Derived.ShutString
import Derived.ChangeOld
import Derived.Below
import Derived.Lib.Hide
import Derived.BigQuiet
import Derived.Deep.QuietTactic
import Derived.Maps.AppendAt
import Derived.Deep.OwnRows
import Derived.Handy
import Derived.Deep.Draws
import Derived.OwnWalk
import Derived.Deep.AppendLies
import Derived.Deep.LoopGhost
import Derived.Deep.Onto
import Derived.Laws.BitsAllLaws
import Derived.Lib.QuoteBits
import Derived.Test.YtflehkbalnikiaaShelf
import Derived.Laws.CopyOwn
import Derived.Deep.RegionLaw
import Derived.Deep.RegionHeld3
import Derived.Deep.DeepCutAuto
import Derived.Great.BuildSlice
import Derived.Deep.MidRow
import Derived.Deep.WholeRow
namespace Go.Proofs.Ytflehkbalnikiaa
open Go.RowKit
theorem size26 : (Try.prog.info? 35).map (·.size) = some 3 := by kernel_rfl
/-- A variable of an image is written whole. -/
theorem wp_store_im {op : Oper} {a : Act} {w : World} {K : Act → World → Prop} {Q : Exit → Act → World → Prop} (t : TypeId) (hsz : (Try.prog.info? t).map (·.size) = some 3) (x y : Operand) (ho : op.op = .store t x y)
    (b : Nat) (X0 Y0 : Int) (v0 : Value) (X Y : Int) (A : Option Addr) (n c : Nat) (hx : a.eval x = .pointer (some ⟨b, 0, none⟩)) (hy : a.eval y = .agg #[.int .i64 X, .int .i64 Y, .slice A n c]) (hI : ImAt w b t X0 Y0 v0)
    (h : ∀ W', ImAt W' b t X Y (.slice A n c) → w.grownBy W' (some b) → K (a.put op.dst undef) W') : op.wp Try.prog a w K Q := by
  have hs : (storeVar t ⟨b, 0, none⟩ (.agg #[.int .i64 X, .int .i64 Y, .slice A n c])).run Try.prog w = .ok () (w.setRow b #[.int .i64 X, .int .i64 Y, .slice A n c]) :=
    run_storeVar_row w b _ _ #[.int .i64 X0, .int .i64 Y0, v0] #[.int .i64 X, .int .i64 Y, .slice A n c] hI hsz rfl (by simp [Value.oneCell'])
  have h1 := h (w.setRow b #[.int .i64 X, .int .i64 Y, .slice A n c]) (setRow_heap w b _ _ t _ hI) ⟨rfl, rfl, rfl, by simp [World.setRow], fun k _ hk => setRow_other w b k _ (fun e => hk (by rw [e]))⟩
  unfold Oper.wp execOp
  simp only [ho, hx, hy, Instr.storeAt, Instr.sureAddr, Sem.run_bind, Sem.run_pure, Result.andThen_ok, hs]
  exact h1
theorem run_build0I (w : World) : (Instr.buildSlice 33 0 #[]).run Try.prog w = .ok (.slice (some ⟨w.heap.size, 0, none⟩) 0 0) (w.alloc (.cells #[] 3)) := by
  kernel_rfl
theorem wp_build0I {op : Oper} {a : Act} {w : World} {K : Act → World → Prop} {Q : Exit → Act → World → Prop} (d : Nat) (ho : op.op = .buildSlice 33 0 #[]) (hd : op.dst = some d)
    (h : ∀ v W', Below w.heap.size w W' → W'.ownsRow w.heap.size 3 1 v 0 [] → K (a.put (some d) v) W') : op.wp Try.prog a w K Q := by
  have h1 := h (.slice (some ⟨w.heap.size, 0, none⟩) 0 0) (w.alloc (.cells #[] 3)) (belI_box _ _)
    ⟨rfl, .inr ⟨w.heap.size, 0, #[], rfl, Nat.le_refl _, heap_alloc_new w _, Nat.le_refl _, by unfold maxLen; omega, rfl, rfl⟩⟩
  have hz := run_build0I w
  unfold Oper.wp execOp
  simp only [ho, List.map_toArray, List.map_nil, Sem.run_bind, hz, Result.andThen_ok, Sem.run_pure]
  rw [← hd] at h1
  exact h1
theorem run_append_noneI {P : Program} (w : World) (base : Nat) (t ty e : TypeId) (i : TypeInfo) (size : Nat) (ht : P.underlying t = some (.slice e)) (hi : P.info? e = some i)
    (v : Value) (n : Nat) (xs : List Value) (hown : w.ownsRow base e size v n xs) :
    (Builtin.append_ #[t, t] ty #[v, .slice none 0 0]).run P w = .ok v w := by
  rcases hown.2 with ⟨rfl, rfl⟩ | ⟨g, cap, cur, rfl, _, _, hn, _, _, _⟩
  · simp [Builtin.append_, run_underlying ht, sizeOf, typeInfo, hi, Builtin.lenOf, Builtin.firstCells]
  · simp [Builtin.append_, run_underlying ht, sizeOf, typeInfo, hi, Builtin.lenOf, Builtin.firstCells, loadCells, storeCells, hn]
/-- append of a whole slice of ints (nil or not) to a slice of the call's own. -/
theorem wp_appendI {o : Oper} {a : Act} {w : World} {K : Act → World → Prop} {Q : Exit → Act → World → Prop} (s x : Operand)
    (ho : o.op = .call { callee := .builtin .append, args := #[s, x], argTypes := #[33, 33] })
    (base : Nat) (v : Value) (n : Nat) (xs : List Value) (hs : a.eval s = v) (hown : w.ownsRow base 3 1 v n xs)
    (u : Value) (L : List Int) (hx : a.eval x = u) (hu : RdI w u L) (h63 : n + L.length ≤ 17592186044416) (hbase : base ≤ w.heap.size)
    (h : ∀ v' w', w'.ownsRow base 3 1 v' (n + L.length) (xs ++ intCells L) → w.grownBy w' v.ownBlock → (v'.ownBlock = v.ownBlock ∨ v'.ownBlock = some w.heap.size) → K (a.put o.dst v') w') : o.wp Try.prog a w K Q := by
  obtain ⟨i0, hi, hz0, hz1, hz2⟩ := info_parts infoInt
  rcases hu with ⟨rfl, rfl⟩ | ⟨g, c, rfl, hm, hlc, hc⟩
  · have hr := run_append_noneI w base 33 o.type 3 i0 1 Try.underlying33 hi v n xs hown
    unfold Oper.wp execOp
    simp only [ho, resolve, invoke, builtin, Sem.run_bind, Sem.run_pure, Result.andThen_ok, List.map_toArray, List.map_cons, List.map_nil, hs, hx, hr]
    exact h v w (by simpa [intCells] using hown) ⟨rfl, rfl, rfl, Nat.le_refl _, fun _ _ _ => rfl⟩ (.inl rfl)
  · obtain ⟨v', w', hr, h2, h3, _, h5⟩ := run_append_own_at (P := Try.prog) w base 33 o.type 3 i0 (.int .i64 0) 1 8 Try.underlying33 hi hz0 hz1 hz2 rfl (by decide) v n xs hown ⟨g, 0, none⟩ L.length c (intCells L) (by rw [intCells_length, Nat.mul_one])
      (fun j w' hj => by
        rw [intCells_get] at hj
        obtain ⟨y, hy, rfl⟩ := Option.map_eq_some_iff.1 hj
        rw [addr_add]
        exact hc j y hy) (intCells_one _) (by unfold maxLen; omega) (by omega) hbase
    unfold Oper.wp execOp
    simp only [ho, resolve, invoke, builtin, Sem.run_bind, Sem.run_pure, Result.andThen_ok, List.map_toArray, List.map_cons, List.map_nil, hs, hx, hr]
    exact h v' w' h2 h3 h5
/-- What Clone answers. -/
def CloneAns (L : List Int) (w : World) (e : Ending) (w' : World) : Prop := ∃ u, e = .returned u ∧ w'.ownsRow w.heap.size 3 1 u L.length (intCells L) ∧ Below w.heap.size w w'
theorem cloneI (v : Value) (L : List Int) (w : World) (hm : L.length ≤ 2097152) (hv : RdI w v L) : Calls Try.prog 123 #[v] w (CloneAns L w) := by
  rcases hv with ⟨rfl, rfl⟩ | ⟨g, c, rfl, hml, hlc, hc⟩
  · refine (Try.slices_Clone_int_nil 0 0 w).mono ?_
    rintro e w' ⟨rfl, rfl⟩
    exact ⟨_, rfl, World.ownsRow_nil _ _ _ _, Below.refl _ _⟩
  · refine (Try.slices_Clone_int g 0 L.length c L w (Nat.le_refl _) (by omega) (fun j hj => ?_)).mono ?_
    · rw [Nat.zero_add, List.getD_eq_getElem?_getD, List.getElem?_eq_getElem hj]
      exact hc j _ (List.getElem?_eq_getElem hj)
    · rintro e w' ⟨u, rfl, hown, _, hb⟩
      rw [List.take_length] at hown
      exact ⟨u, rfl, hown, hb⟩
set_option maxHeartbeats 600000 in
set_option maxRecDepth 10000 in
theorem copiedI (X Y : Int) (v : Value) (L : List Int) (w : World) (hm : L.length ≤ 2097152) (hv : RdI w v L) :
    Calls Try.prog 95 #[.agg #[.int .i64 X, .int .i64 Y, v]] w (ImAns X Y L w) := by
  have hv2 := (hv.alloc (.cells #[.int .i64 X, .int .i64 Y, v] 115)).alloc (.cells #[.int .i64 0, .int .i64 0, .slice none 0 0] 115)
  have hC := (ImAt.new w 115 X Y v).alloc (.cells #[.int .i64 0, .int .i64 0, .slice none 0 0] 115)
  have hR : ImAt ((w.alloc (.cells #[.int .i64 X, .int .i64 Y, v] 115)).alloc (.cells #[.int .i64 0, .int .i64 0, .slice none 0 0] 115)) (w.heap.size + 1) 115 0 0 (.slice none 0 0) := ImAt.newAt (by simp) _ _ _ _
  have hw := ((Below.refl w.heap.size w).alloc (Nat.le_refl _) (.cells #[.int .i64 X, .int .i64 Y, v] 115)).alloc (by simp) (.cells #[.int .i64 0, .int .i64 0, .slice none 0 0] 115)
  obtain ⟨A, c, rfl⟩ := hv.form
  obtain ⟨n, hn⟩ : ∃ n, n = L.length := ⟨_, rfl⟩
  rw [← hn] at hv2 hC hR hw ⊢
  have Hn := Lib.hid hn
  have Hm := Lib.hid hm
  clear hv hn hm
  obtain ⟨c0, c1, c2⟩ := hC.cells
  go_enter Try.func95, Try.ntmps95
  go_wp2_with fail
  refine (cloneI _ L _ Hm.out hv2).mono ?_
  rintro e w2 ⟨u, rfl, hown, hb⟩
  obtain ⟨Au, cu, hu⟩ := ownI_shape hown
  subst hu
  have hz := hb.size
  simp at hz
  have hC := hC.call hb
  have hR := hR.call hb
  have hlt := fun g hg => (hown.lt g hg).1
  have Hown := Lib.hid hown
  have Hw := Lib.hid (hw.trans (hb.mono hw.size))
  have Hlt := Lib.hid hlt
  clear hown hb hw hv2 c0 c1 c2 hlt
  obtain ⟨c0, c1, c2⟩ := hC.cells
  obtain ⟨r0, r1, r2⟩ := hR.cells
  have cf := hC.frozen 2
  have f0 := hR.frozen 0
  have f1 := hR.frozen 1
  have f2 := hR.frozen 2
  go_wp2_with fail
  have j := (hR.far (p := ⟨w.heap.size, 2, none⟩) (by simp) (.slice Au L.length cu)).set3 X Y (.slice Au L.length cu)
  obtain ⟨x0, x1, x2⟩ := j.cells
  refine bodyPost_ret (v := .agg #[.int .i64 X, .int .i64 Y, .slice Au L.length cu]) (by simp [results, Try.results95, go_sem, x0, x1, x2]) rfl ⟨_, rfl, ?_, (((Hw.out.setCell (by simp) _).setCell (by simp) _).setCell (by simp) _).setCell (by simp) _⟩
  exact ownI_far (ownI_far (ownI_far (ownI_far (Hown.out.mono (by simp; omega)) (fun g hg => by have := Hlt.out g hg; simp at this ⊢; omega) _) (fun g hg => by have := Hlt.out g hg; simp at this ⊢; omega) _) (fun g hg => by have := Hlt.out g hg; simp at this ⊢; omega) _) (fun g hg => by have := Hlt.out g hg; simp at this ⊢; omega) _
end Go.Proofs.Ytflehkbalnikiaa
