/- What CopyRegion keeps in memory, of the program and of its model. No statement is proved here. -/
import Derived.Test.YtmjndoedchiggaaMA
import Derived.Test.YtmjndoedchiggaaImR
import Derived.Test.YtmjndoedchiggaaImL
import Derived.Test.YtmjndoedchiggaaImC
import Derived.Test.YtmjndoedchiggaaImV
import Derived.Test.YtmjndoedchiggaaProg
import Derived.WalkKit
import Derived.ProofKit
import Derived.OpenShut
import Derived.WalkLawsBesides
import Derived.WalkSpells
import Derived.ShutString
import Derived.ChangeOld
import Derived.Below
import Derived.Lib.Hide
import Derived.BigQuiet
import Derived.Deep.QuietTactic
import Derived.Maps.AppendAt
import Derived.Deep.OwnRows
import Derived.Handy
import Derived.Deep.Draws
import Derived.OwnWalk
import Derived.Deep.AppendLies
import Derived.Deep.LoopGhost
import Derived.Deep.Onto
import Derived.Laws.BitsAllLaws
import Derived.Lib.QuoteBits
import Derived.Test.YtmjndoedchiggaaShelf
import Derived.Laws.CopyOwn
import Derived.Deep.RegionLaw
import Derived.Deep.RegionHeld3
import Derived.Deep.DeepCutAuto
import Derived.Great.BuildSlice
import Derived.Deep.MidRow
import Derived.Deep.WholeRow
import Derived.Laws.AppendOwn
namespace Go.Proofs.Ytmjndoedchiggaa
open Go.RowKit
/-- Block g is a variable of a region. -/
def RgAt (w : World) (g : Nat) (v : Value) : Prop := w.heap[g]? = some (.cells #[v] 34 (0, 0))
theorem RgAt.lt {w : World} {g : Nat} {v : Value} (h : RgAt w g v) : g < w.heap.size := (Array.getElem?_eq_some_iff.1 h).1
theorem RgAt.cell {w : World} {g : Nat} {v : Value} (h : RgAt w g v) : w.cell? ⟨g, 0, none⟩ = some v := by rw [cell_of_row _ _ _ _ _ _ h]; rfl
theorem RgAt.call {w w' : World} {g : Nat} {v : Value} (h : RgAt w g v) (hb : Below w.heap.size w w') : RgAt w' g v := (hb.block g h.lt).trans h
theorem RgAt.alloc {w : World} {g : Nat} {v : Value} (h : RgAt w g v) (o : Obj) : RgAt (w.alloc o) g v := (Below.heap_alloc w o g h.lt).trans h
theorem RgAt.newAt {w : World} {g : Nat} (h : w.heap.size = g) (v : Value) : RgAt (w.alloc (.cells #[v] 34)) g v := h ▸ heap_alloc_new w _
/-- The variables of CopyRegion: the two images, the region, the result. -/
structure CsB (w : World) (X Y : Int) (v : Value) (X2 Y2 : Int) (u : Value) (F : List Int) (vr : Value) (R : List Rc) (W : World) : Prop where
  a : ImAt W w.heap.size 26 X Y v
  b : ImAt W (w.heap.size + 1) 26 X2 Y2 u
  c : RgAt W (w.heap.size + 2) vr
  d : ImAt W (w.heap.size + 3) 26 0 0 (.slice none 0 0)
  ru : RdI W u F
  rr : RdR W vr R
  bw : Below w.heap.size w W
theorem CsB.call {w : World} {X Y : Int} {v : Value} {X2 Y2 : Int} {u : Value} {F : List Int} {vr : Value} {R : List Rc} {W W' : World} (h : CsB w X Y v X2 Y2 u F vr R W) (k : Below W.heap.size W W') : CsB w X Y v X2 Y2 u F vr R W' :=
  ⟨h.a.call k, h.b.call k, h.c.call k, h.d.call k, h.ru.call k, h.rr.call k, belI_call h.bw k⟩
theorem CsB.born (w : World) (X Y : Int) (v : Value) (X2 Y2 : Int) (u : Value) (F : List Int) (vr : Value) (R : List Rc) (hu : RdI w u F) (hr : RdR w vr R) :
    CsB w X Y v X2 Y2 u F vr R ((((w.alloc (.cells #[.int .i64 X, .int .i64 Y, v] 26)).alloc (.cells #[.int .i64 X2, .int .i64 Y2, u] 26)).alloc (.cells #[vr] 34)).alloc (.cells #[.int .i64 0, .int .i64 0, .slice none 0 0] 26)) :=
  ⟨(((ImAt.new w _ _ _ _).alloc _).alloc _).alloc _, ((ImAt.newAt (w := w.alloc (.cells #[.int .i64 X, .int .i64 Y, v] 26)) (by simp) _ _ _ _).alloc _).alloc _, (RgAt.newAt (w := (w.alloc (.cells #[.int .i64 X, .int .i64 Y, v] 26)).alloc (.cells #[.int .i64 X2, .int .i64 Y2, u] 26)) (by simp) _).alloc _,
    ImAt.newAt (w := ((w.alloc (.cells #[.int .i64 X, .int .i64 Y, v] 26)).alloc (.cells #[.int .i64 X2, .int .i64 Y2, u] 26)).alloc (.cells #[vr] 34)) (by simp) _ _ _ _,
    (((hu.alloc _).alloc _).alloc _).alloc _, (((hr.alloc _).alloc _).alloc _).alloc _, belI_call (belI_call (belI_call (belI_box _ _) (belI_box _ _)) (belI_box _ _)) (belI_box _ _)⟩
/-- The result is written whole into its variable. -/
theorem ans_set {w W : World} {lo b n : Nat} {X Y : Int} {A : Option Addr} {c : Nat} {L : List Int} (h : W.ownsRow lo 3 1 (.slice A n c) n (intCells L)) (hn : L.length = n) (hb1 : w.heap.size ≤ b) (hb2 : b < lo) (K : Below w.heap.size w W) :
    ImAns X Y L w (.returned (.agg #[.int .i64 X, .int .i64 Y, .slice A n c])) (((W.setCell ⟨b, 0, none⟩ (.int .i64 X)).setCell ⟨b, 1, none⟩ (.int .i64 Y)).setCell ⟨b, 2, none⟩ (.slice A n c)) := by
  subst hn
  have hlt := fun g hg => (h.lt g hg).1
  exact ⟨_, rfl, ownI_far (ownI_far (ownI_far (h.mono (by omega)) (fun g hg => by have := hlt g hg; dsimp only; omega) _) (fun g hg => by have := hlt g hg; dsimp only; omega) _) (fun g hg => by have := hlt g hg; dsimp only; omega) _, ((K.setCell hb1 _).setCell hb1 _).setCell hb1 _⟩
theorem cell_grown {W V : World} {g o : Nat} {v : Value} {row : Option Nat} (h : W.cell? ⟨g, o, none⟩ = some v) (hg : W.grownBy V row) (hr : some g ≠ row) : V.cell? ⟨g, o, none⟩ = some v :=
  (World.cell?_of_block (hg.block g (World.block_lt_of_cell? W _ h) hr)).trans h
theorem GrAt.grownI {w w' : World} {b : Nat} {t : TypeId} {g : Nat → Bool} {row : Option Nat} (h : GrAt w b t g) (hb : w.grownBy w' row) (hr : some b ≠ row) : GrAt w' b t g := (hb.block b h.lt hr).trans h
theorem grown_setI (w : World) (g o : Nat) (v : Value) : w.grownBy (w.setCell ⟨g, o, none⟩ v) (some g) :=
  ⟨rfl, rfl, rfl, by simp, fun k _ hk => Below.heap_setCell w ⟨g, o, none⟩ v k (fun e => hk (by rw [e]))⟩
theorem zeroRc (w : World) : (zeroValue 31).run Try.prog w = .ok (.agg #[.int .i64 0, .int .i64 0, .int .i64 0, .int .i64 0]) w := by kernel_rfl
theorem sizeRc : (Try.prog.info? 31).map (·.size) = some 4 := by kernel_rfl
theorem wp_alloc_rc {op : Oper} {a : Act} {w : World} {K : Act → World → Prop} {Q : Exit → Act → World → Prop} (d : Nat) (ho : op.op = .alloc 31) (hd : op.dst = some d)
    (h : ∀ b W', Below w.heap.size w W' → RcAt W' b ⟨0, 0, 0, 0⟩ → w.heap.size ≤ b → K (a.put (some d) (.pointer (some ⟨b, 0, none⟩))) W') : op.wp Try.prog a w K Q := by
  have h1 := h w.heap.size (w.alloc (.cells #[.int .i64 0, .int .i64 0, .int .i64 0, .int .i64 0] 31)) (belI_box _ _) (RcAt.new w ⟨0, 0, 0, 0⟩) (Nat.le_refl _)
  have hz := zeroRc w
  unfold Oper.wp execOp
  simp only [ho, Instr.alloc, Sem.run_bind, hz, Result.andThen_ok, Sem.run_pure]
  rw [← hd] at h1
  exact h1
theorem wp_store_rc {op : Oper} {a : Act} {w : World} {K : Act → World → Prop} {Q : Exit → Act → World → Prop} (x y : Operand) (ho : op.op = .store 31 x y)
    (b : Nat) (r0 r : Rc) (hx : a.eval x = .pointer (some ⟨b, 0, none⟩)) (hy : a.eval y = .agg #[.int .i64 r.x, .int .i64 r.y, .int .i64 r.w, .int .i64 r.h]) (hI : RcAt w b r0)
    (h : ∀ W', RcAt W' b r → w.grownBy W' (some b) → K (a.put op.dst undef) W') : op.wp Try.prog a w K Q := by
  have hs : (storeVar 31 ⟨b, 0, none⟩ (.agg #[.int .i64 r.x, .int .i64 r.y, .int .i64 r.w, .int .i64 r.h])).run Try.prog w = .ok () (w.setRow b #[.int .i64 r.x, .int .i64 r.y, .int .i64 r.w, .int .i64 r.h]) :=
    run_storeVar_row w b _ _ #[.int .i64 r0.x, .int .i64 r0.y, .int .i64 r0.w, .int .i64 r0.h] #[.int .i64 r.x, .int .i64 r.y, .int .i64 r.w, .int .i64 r.h] hI sizeRc rfl (by simp [Value.oneCell'])
  have h1 := h (w.setRow b #[.int .i64 r.x, .int .i64 r.y, .int .i64 r.w, .int .i64 r.h]) (setRow_heap w b _ _ _ _ hI) ⟨rfl, rfl, rfl, by simp [World.setRow], fun k _ hk => setRow_other w b k _ (fun e => hk (by rw [e]))⟩
  unfold Oper.wp execOp
  simp only [ho, hx, hy, Instr.storeAt, Instr.sureAddr, Sem.run_bind, Sem.run_pure, Result.andThen_ok, hs]
  exact h1
theorem wp_copy_mine {P : Program} {o : Oper} {a : Act} {w : World} {K : Act → World → Prop} {Q : Exit → Act → World → Prop} (d s : Operand) (dT sT : TypeId)
    (ho : o.op = .call { callee := .builtin .copy, args := #[d, s], argTypes := #[dT, sT] }) (elem : TypeId) (hu : P.underlying dT = some (.slice elem)) (hsz : (P.info? elem).map (·.size) = some 1)
    (base g off n cap dLen dCap : Nat) (ad : Addr) (sLen sCap : Nat) (xs cs : List Value) (m : Nat) (hcm : cs.length = m) (hd : a.eval d = .slice (some ⟨g, off, none⟩) dLen dCap) (hs : a.eval s = .slice (some ad) sLen sCap)
    (hown : w.ownsRow base elem 1 (.slice (some ⟨g, 0, none⟩) n cap) n xs) (hn : m = Nat.min sLen dLen)
    (hsrc : ∀ j v, cs[j]? = some v → w.cell? (ad.add j) = some v) (hfit : off + m ≤ n) (h1 : ∀ v ∈ cs, v.oneCell' = true)
    (h : ∀ w', Hid (w'.ownsRow base elem 1 (.slice (some ⟨g, 0, none⟩) n cap) n (splice xs off cs)) → Hid (w.grownBy w' (some g)) → K (a.put o.dst (goInt m)) w') : o.wp P a w K Q := by
  obtain ⟨w', hrun, h2, h3⟩ := run_copy_own (P := P) w dT sT o.type elem base g off n cap dLen dCap ad sLen sCap xs cs m hcm hu hsz hown hn hsrc hfit h1
  unfold Oper.wp
  simp [execOp, ho, resolve, invoke, builtin, hd, hs, hrun, Result.andThen]
  exact h w' h2 h3
theorem RcAt.grownI {w w' : World} {g : Nat} {row : Option Nat} {r : Rc} (h : RcAt w g r) (hb : w.grownBy w' row) (hg : some g ≠ row) : RcAt w' g r := (hb.block g h.lt hg).trans h
theorem grown_drewI (w : World) (row : Option Nat) : w.grownBy w.drew row := ⟨rfl, rfl, rfl, Nat.le_refl _, fun _ _ _ => rfl⟩
theorem own_cap {w : World} {B g n cap : Nat} {e : TypeId} {xs : List Value} (h : w.ownsRow B e 1 (.slice (some ⟨g, 0, none⟩) n cap) n xs) : n ≤ cap := by
  rcases h.2 with ⟨h, _⟩ | ⟨g', cap', cur, he, _, _, hnc, _⟩
  · cases h
  · cases he; exact hnc
theorem rd_block {w : World} {u : Value} {F : List Int} (h : RdI w u F) (h0 : 0 < F.length) : ∃ g c, u = .slice (some ⟨g, 0, none⟩) F.length c ∧ g < w.heap.size ∧ F.length ≤ c := by
  rcases h with ⟨_, rfl⟩ | ⟨g, c, rfl, hm, hlc, hc⟩
  · simp at h0
  · exact ⟨g, c, rfl, World.block_lt_of_cell? w _ (hc 0 _ (List.getElem?_eq_getElem h0)), hlc⟩
end Go.Proofs.Ytmjndoedchiggaa
