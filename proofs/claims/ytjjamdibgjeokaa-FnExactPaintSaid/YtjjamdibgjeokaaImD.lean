/- Operations on images in a free order (alloc, store, an empty literal, append of a whole slice); the contracts of slices.Clone, canvas.copied, l05Copy. No statement is proved here. -/
import Derived.Test.YtjjamdibgjeokaaMA
import Derived.Test.YtjjamdibgjeokaaImR
import Derived.Test.YtjjamdibgjeokaaProg
import Derived.WalkKit
import Derived.ProofKit
import Derived.OpenShut
import Derived.WalkLawsBesides
import Derived.WalkSpells
import Derived.ShutString
import Derived.ChangeOld
import Derived.Below
import Derived.Lib.Hide
import Derived.BigQuiet
import Derived.Deep.QuietTactic
import Derived.Maps.AppendAt
import Derived.Deep.OwnRows
import Derived.Handy
import Derived.Deep.Draws
import Derived.OwnWalk
import Derived.Deep.AppendLies
import Derived.Deep.LoopGhost
import Derived.Deep.Onto
import Derived.Laws.BitsAllLaws
import Derived.Lib.QuoteBits
import Derived.Test.YtjjamdibgjeokaaShelf
import Derived.Laws.CopyOwn
import Derived.Deep.RegionLaw
import Derived.Deep.RegionHeld3
import Derived.Deep.DeepCutAuto
import Derived.Great.BuildSlice
import Derived.Deep.MidRow
import Derived.Deep.WholeRow
namespace Go.Proofs.Ytjjamdibgjeokaa
open Go.RowKit
theorem size26 : (Try.prog.info? 32).map (·.size) = some 3 := by kernel_rfl
/-- A variable of an image is written whole. -/
theorem wp_store_im {op : Oper} {a : Act} {w : World} {K : Act → World → Prop} {Q : Exit → Act → World → Prop} (t : TypeId) (hsz : (Try.prog.info? t).map (·.size) = some 3) (x y : Operand) (ho : op.op = .store t x y)
    (b : Nat) (X0 Y0 : Int) (v0 : Value) (X Y : Int) (A : Option Addr) (n c : Nat) (hx : a.eval x = .pointer (some ⟨b, 0, none⟩)) (hy : a.eval y = .agg #[.int .i64 X, .int .i64 Y, .slice A n c]) (hI : ImAt w b t X0 Y0 v0)
    (h : ∀ W', ImAt W' b t X Y (.slice A n c) → w.grownBy W' (some b) → K (a.put op.dst undef) W') : op.wp Try.prog a w K Q := by
  have hs : (storeVar t ⟨b, 0, none⟩ (.agg #[.int .i64 X, .int .i64 Y, .slice A n c])).run Try.prog w = .ok () (w.setRow b #[.int .i64 X, .int .i64 Y, .slice A n c]) :=
    run_storeVar_row w b _ _ #[.int .i64 X0, .int .i64 Y0, v0] #[.int .i64 X, .int .i64 Y, .slice A n c] hI hsz rfl (by simp [Value.oneCell'])
  have h1 := h (w.setRow b #[.int .i64 X, .int .i64 Y, .slice A n c]) (setRow_heap w b _ _ t _ hI) ⟨rfl, rfl, rfl, by simp [World.setRow], fun k _ hk => setRow_other w b k _ (fun e => hk (by rw [e]))⟩
  unfold Oper.wp execOp
  simp only [ho, hx, hy, Instr.storeAt, Instr.sureAddr, Sem.run_bind, Sem.run_pure, Result.andThen_ok, hs]
  exact h1
theorem run_build0I (w : World) : (Instr.buildSlice 30 0 #[]).run Try.prog w = .ok (.slice (some ⟨w.heap.size, 0, none⟩) 0 0) (w.alloc (.cells #[] 3)) := by
  kernel_rfl
theorem wp_build0I {op : Oper} {a : Act} {w : World} {K : Act → World → Prop} {Q : Exit → Act → World → Prop} (d : Nat) (ho : op.op = .buildSlice 30 0 #[]) (hd : op.dst = some d)
    (h : ∀ v W', Below w.heap.size w W' → W'.ownsRow w.heap.size 3 1 v 0 [] → K (a.put (some d) v) W') : op.wp Try.prog a w K Q := by
  have h1 := h (.slice (some ⟨w.heap.size, 0, none⟩) 0 0) (w.alloc (.cells #[] 3)) (belI_box _ _)
    ⟨rfl, .inr ⟨w.heap.size, 0, #[], rfl, Nat.le_refl _, heap_alloc_new w _, Nat.le_refl _, by unfold maxLen; omega, rfl, rfl⟩⟩
  have hz := run_build0I w
  unfold Oper.wp execOp
  simp only [ho, List.map_toArray, List.map_nil, Sem.run_bind, hz, Result.andThen_ok, Sem.run_pure]
  rw [← hd] at h1
  exact h1
theorem run_append_noneI {P : Program} (w : World) (base : Nat) (t ty e : TypeId) (i : TypeInfo) (size : Nat) (ht : P.underlying t = some (.slice e)) (hi : P.info? e = some i)
    (v : Value) (n : Nat) (xs : List Value) (hown : w.ownsRow base e size v n xs) :
    (Builtin.append_ #[t, t] ty #[v, .slice none 0 0]).run P w = .ok v w := by
  rcases hown.2 with ⟨rfl, rfl⟩ | ⟨g, cap, cur, rfl, _, _, hn, _, _, _⟩
  · simp [Builtin.append_, run_underlying ht, sizeOf, typeInfo, hi, Builtin.lenOf, Builtin.firstCells]
  · simp [Builtin.append_, run_underlying ht, sizeOf, typeInfo, hi, Builtin.lenOf, Builtin.firstCells, loadCells, storeCells, hn]
/-- append of a whole slice of ints (nil or not) to a slice of the call's own. -/
theorem wp_appendI {o : Oper} {a : Act} {w : World} {K : Act → World → Prop} {Q : Exit → Act → World → Prop} (s x : Operand)
    (ho : o.op = .call { callee := .builtin .append, args := #[s, x], argTypes := #[30, 30] })
    (base : Nat) (v : Value) (n : Nat) (xs : List Value) (hs : a.eval s = v) (hown : w.ownsRow base 3 1 v n xs)
    (u : Value) (L : List Int) (hx : a.eval x = u) (hu : RdI w u L) (h63 : n + L.length ≤ 17592186044416) (hbase : base ≤ w.heap.size)
    (h : ∀ v' w', w'.ownsRow base 3 1 v' (n + L.length) (xs ++ intCells L) → w.grownBy w' v.ownBlock → (v'.ownBlock = v.ownBlock ∨ v'.ownBlock = some w.heap.size) → K (a.put o.dst v') w') : o.wp Try.prog a w K Q := by
  obtain ⟨i0, hi, hz0, hz1, hz2⟩ := info_parts infoInt
  rcases hu with ⟨rfl, rfl⟩ | ⟨g, c, rfl, hm, hlc, hc⟩
  · have hr := run_append_noneI w base 30 o.type 3 i0 1 Try.underlying30 hi v n xs hown
    unfold Oper.wp execOp
    simp only [ho, resolve, invoke, builtin, Sem.run_bind, Sem.run_pure, Result.andThen_ok, List.map_toArray, List.map_cons, List.map_nil, hs, hx, hr]
    exact h v w (by simpa [intCells] using hown) ⟨rfl, rfl, rfl, Nat.le_refl _, fun _ _ _ => rfl⟩ (.inl rfl)
  · obtain ⟨v', w', hr, h2, h3, _, h5⟩ := run_append_own_at (P := Try.prog) w base 30 o.type 3 i0 (.int .i64 0) 1 8 Try.underlying30 hi hz0 hz1 hz2 rfl (by decide) v n xs hown ⟨g, 0, none⟩ L.length c (intCells L) (by rw [intCells_length, Nat.mul_one])
      (fun j w' hj => by
        rw [intCells_get] at hj
        obtain ⟨y, hy, rfl⟩ := Option.map_eq_some_iff.1 hj
        rw [addr_add]
        exact hc j y hy) (intCells_one _) (by unfold maxLen; omega) (by omega) hbase
    unfold Oper.wp execOp
    simp only [ho, resolve, invoke, builtin, Sem.run_bind, Sem.run_pure, Result.andThen_ok, List.map_toArray, List.map_cons, List.map_nil, hs, hx, hr]
    exact h v' w' h2 h3 h5
end Go.Proofs.Ytjjamdibgjeokaa
