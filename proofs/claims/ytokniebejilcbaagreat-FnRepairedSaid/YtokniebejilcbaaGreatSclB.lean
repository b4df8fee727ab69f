/- Scaled and tiled pictures: their pixels, and what a call keeps while it gathers them. No statement is proved here. -/
import Derived.Test.YtokniebejilcbaaGreatMA
import Derived.Test.YtokniebejilcbaaGreatMB
import Derived.Test.YtokniebejilcbaaGreatMC
import Derived.Test.YtokniebejilcbaaGreatCpyI
import Derived.Test.YtokniebejilcbaaGreatFilB
import Derived.Test.YtokniebejilcbaaGreatOrdB
import Derived.Test.YtokniebejilcbaaGreatOrdI
import Derived.Test.YtokniebejilcbaaGreatProg
import Derived.WalkKit
import Derived.ProofKit
import Derived.OpenShut
import Derived.WalkLawsBesides
import Derived.WalkSpells
import Derived.ShutString
import Derived.ChangeOld
import Derived.Below
import Derived.Lib.Hide
import Derived.Deep.MidRow
import Derived.Deep.WholeRow
import Derived.Maps.AppendAt
import Derived.BigQuiet
import Derived.Deep.QuietTactic
import Derived.Deep.OwnRows
import Derived.Handy
import Derived.Deep.Draws
import Derived.OwnWalk
import Derived.Deep.AppendLies
import Derived.Deep.LoopGhost
import Derived.Deep.Onto
import Derived.Laws.BitsAllLaws
import Derived.Lib.QuoteBits
import Derived.Deep.RegionHeld3
import Derived.Deep.DeepCutAuto
import Derived.Test.YtokniebejilcbaaGreatShelf
import Derived.Laws.CopyOwn
import Derived.Deep.RegionLaw
import Derived.Great.BuildSlice
import Derived.Laws.AppendOwn
namespace Go.Proofs.YtokniebejilcbaaGreat
open Go.RowKit
theorem tabI_succ (n : Nat) (f : Nat → Int) : tabI (n + 1) f = tabI n f ++ [f n] := by simp [tabI, List.range_succ]
def rsF (S : Nat → Nat → Nat → Nat) (W H w h : Nat) (L : List Int) : Nat → Int := fun j => L.getD (S H h (j / w) * W + S W w (j % w)) 0
open Classical in
noncomputable def rsIm (S : Nat → Nat → Nat → Nat) (X Y : Int) (L : List Int) (w h : Int) : Im := if imOk X Y L ∧ szOk w h then ⟨w, h, tabI (w.toNat * h.toNat) (rsF S X.toNat Y.toNat w.toNat h.toNat L)⟩ else zeroIm
theorem rs_yes (S : Nat → Nat → Nat → Nat) {W H w h : Nat} {L : List Int} (h1 : imOk W H L) (h2 : szOk w h) : rsIm S W H L w h = ⟨w, h, tabI (w * h) (rsF S W H w h L)⟩ := by
 unfold rsIm; rw [if_pos ⟨h1, h2⟩, Int.toNat_natCast, Int.toNat_natCast, Int.toNat_natCast, Int.toNat_natCast]
theorem rs_no (S : Nat → Nat → Nat → Nat) {X Y w h : Int} {L : List Int} (h0 : ¬ (imOk X Y L ∧ szOk w h)) : rsIm S X Y L w h = zeroIm := if_neg h0
theorem sz_nat {P Q : Int} (h : szOk P Q) : ∃ p q : Nat, P = p ∧ Q = q ∧ 1 ≤ p ∧ p ≤ 16 ∧ 1 ≤ q ∧ q ≤ 16 := by
 unfold szOk at h
 exact ⟨P.toNat, Q.toNat, by omega, by omega, by omega, by omega, by omega, by omega⟩
theorem rsF_at (S : Nat → Nat → Nat → Nat) (W H w h : Nat) (L : List Int) {x : Nat} (y : Nat) (hx : x < w) : rsF S W H w h L (y * w + x) = L.getD (S H h y * W + S W w x) 0 := by
 unfold rsF; rw [(idx_div hx).1, (idx_div hx).2]
def PlOk (S : Nat → Nat → Nat → Nat) : Prop := ∀ f t k : Nat, 1 ≤ f → k < t → S f t k < f
theorem scl_ok : PlOk sclN := fun _ _ _ h1 h2 => sclN_lt h1 h2
theorem rs_src {S : Nat → Nat → Nat → Nat} (hS : PlOk S) {W H w h x y : Nat} {L : List Int} (hL : L.length = W * H) (hW : 1 ≤ W) (hH : 1 ≤ H) (hx : x < w) (hy : y < h) :
  ∃ a b z, S W w x = a ∧ S H h y = b ∧ a < W ∧ b < H ∧ b * W + a < L.length ∧ L[b * W + a]? = some z ∧ rsF S W H w h L (y * w + x) = z := by
 have ha := hS W w x hW hx
 have hb := hS H h y hH hy
 have hk : S H h y * W + S W w x < L.length := by rw [hL]; exact plc_lt ha hb
 refine ⟨_, _, _, rfl, rfl, ha, hb, hk, List.getElem?_eq_getElem hk, ?_⟩
 rw [rsF_at S W H w h L y hx, List.getD_eq_getElem?_getD, List.getElem?_eq_getElem hk]; rfl
theorem RdI.cell {w : World} {g n c k : Nat} {L : List Int} {x : Int} (h : RdI w (.slice (some ⟨g, 0, none⟩) n c) L) (hx : L[k]? = some x) : w.cell? ⟨g, k, none⟩ = some (.int .i64 x) := by
 have hk : k < L.length := (List.getElem?_eq_some_iff.1 hx).1
 rcases h with ⟨_, rfl⟩ | ⟨g', c', he, hm, hlc, hc⟩
 ·simp at hk
 ·injection he with e1 e2 e3
  injection e1 with e1
  injection e1 with e1
  subst e1
  exact hc k x hx
theorem RdI.one {w : World} {g : Nat} {t : TypeId} {z : Int} (h : w.heap[g]? = some (.cells #[.int .i64 z] t (0, 0))) : RdI w (.slice (some ⟨g, 0, none⟩) 1 1) [z] := by
 refine .inr ⟨g, 1, rfl, by unfold maxLen; simp, by simp, fun k x hx => ?_⟩
 cases k with
 | zero => injection hx with hx; subst hx; simp [World.cell?, h]
 | succ k => simp at hx
theorem run_build1I (z : Int) (w : World) : (Instr.buildSlice 53 1 #[(0, .int .i64 z)]).run Tryz.prog w = .ok (.slice (some ⟨w.heap.size, 0, none⟩) 1 1) (w.alloc (.cells #[.int .i64 z] 3)) := by
 kernel_rfl
theorem wp_build1I {op : Oper} {a : Act} {w : World} {K : Act → World → Prop} {Q : Exit → Act → World → Prop} (d : Nat) (x : Operand) (z : Int) (ho : op.op = .buildSlice 53 1 #[(0, x)]) (hx : a.eval x = .int .i64 z) (hd : op.dst = some d)
  (h : ∀ g W', Below w.heap.size w W' → RdI W' (.slice (some ⟨g, 0, none⟩) 1 1) [z] → K (a.put (some d) (.slice (some ⟨g, 0, none⟩) 1 1)) W') : op.wp Tryz.prog a w K Q := by
 have h1 := h w.heap.size (w.alloc (.cells #[.int .i64 z] 3)) (belI_box _ _) (RdI.one (heap_alloc_new w _))
 have hz := run_build1I z w
 unfold Oper.wp execOp
 simp only [ho, List.map_toArray, List.map_cons, List.map_nil, hx, Sem.run_bind, hz, Result.andThen_ok, Sem.run_pure]
 rw [← hd] at h1
 exact h1
theorem wp_append1I {o : Oper} {a : Act} {w : World} {K : Act → World → Prop} {Q : Exit → Act → World → Prop} (s x : Operand)
  (ho : o.op = .call { callee := .builtin .append, args := #[s, x], argTypes := #[53, 53] })
  (base : Nat) (v : Value) (n : Nat) (M : List Int) (hs : a.eval s = v) (hown : w.ownsRow base 3 1 v n (intCells M)) (g : Nat) (z : Int)
  (hx : a.eval x = .slice (some ⟨g, 0, none⟩) 1 1) (hu : RdI w (.slice (some ⟨g, 0, none⟩) 1 1) [z]) (h63 : n ≤ 1000000) (hbase : base ≤ w.heap.size)
  (h : ∀ g' c' w', w'.ownsRow base 3 1 (.slice (some ⟨g', 0, none⟩) (n + 1) c') (n + 1) (intCells (M ++ [z])) → w.grownBy w' v.ownBlock → K (a.put o.dst (.slice (some ⟨g', 0, none⟩) (n + 1) c')) w') : o.wp Tryz.prog a w K Q := by
 refine wp_appendI s x ho base v n (intCells M) hs hown (.slice (some ⟨g, 0, none⟩) 1 1) [z] hx hu (by simp; omega) hbase (fun v' w' h1 h2 _ => ?_)
 rw [← intCells_append, show n + [z].length = n + 1 from rfl] at h1
 obtain ⟨g', c', rfl, _, _⟩ := h1.form (by omega)
 exact h g' c' w' h1 h2
theorem OrA.own {w : World} {X Y : Int} {v : Value} {L : List Int} {W W' : World} {row : Option Nat} (h : OrA w X Y v L W) (hv : ∀ g, v.ownBlock = some g → g < w.heap.size) (hg : W.grownBy W' row) (hk : ∀ k, row = some k → w.heap.size + 2 ≤ k) : OrA w X Y v L W' :=
 ⟨h.a.grown hg (fun e => by have := hk _ e.symm; omega), h.r.grown hg (fun e => by have := hk _ e.symm; omega), h.rd.grown hg (fun g hg2 e => by have := hk _ e.symm; have := hv _ hg2; omega), h.bw.grown hg h.bw.size (fun k e => by have := hk _ e; omega)⟩
structure RsI (w : World) (X Y : Int) (v : Value) (L : List Int) (u : Value) (q : Nat) (M : List Int) (V : World) : Prop where
 o : OrA w X Y v L V
 own : V.ownsRow (w.heap.size + 2) 3 1 u q (intCells M)
theorem RsI.start {w : World} {X Y : Int} {v : Value} {L : List Int} {u : Value} {V V' : World} (h : OrA w X Y v L V) (hv : ∀ g, v.ownBlock = some g → g < w.heap.size) (ho : V'.ownsRow (w.heap.size + 2) 3 1 u 0 []) (hg : V.grownBy V' none) : RsI w X Y v L u 0 [] V' :=
 ⟨h.own hv hg (fun k hk => by cases hk), ho⟩
structure RsS (w : World) (X Y : Int) (v : Value) (L : List Int) (P Q : Int) (bo : Nat) (u : Value) (q : Nat) (M : List Int) (V : World) : Prop where
 o : OrA w X Y v L V
 im : ImAt V bo 55 P Q u
 own : V.ownsRow (bo + 1) 3 1 u q (intCells M)
end Go.Proofs.YtokniebejilcbaaGreat
