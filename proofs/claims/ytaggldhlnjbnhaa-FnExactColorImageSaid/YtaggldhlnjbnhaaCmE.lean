/- The laws' helpers over color maps: sizes, copies, comparisons, marks; what they keep in memory. No statement is proved here. -/
import Derived.Test.YtaggldhlnjbnhaaBase
import Derived.Test.YtaggldhlnjbnhaaRd
import Derived.Test.YtaggldhlnjbnhaaIntR
import Derived.Test.YtaggldhlnjbnhaaFrame
import Derived.Test.YtaggldhlnjbnhaaImR
import Derived.Test.YtaggldhlnjbnhaaPixM
import Derived.Test.YtaggldhlnjbnhaaImL
import Derived.Test.YtaggldhlnjbnhaaImV
import Derived.Test.YtaggldhlnjbnhaaBlk4
import Derived.Test.YtaggldhlnjbnhaaRectEq
import Derived.Test.YtaggldhlnjbnhaaLaw
import Derived.Test.YtaggldhlnjbnhaaPixA
import Derived.Test.YtaggldhlnjbnhaaBk
import Derived.Test.YtaggldhlnjbnhaaHasC
import Derived.Test.YtaggldhlnjbnhaaRds
import Derived.Test.YtaggldhlnjbnhaaFilB
import Derived.Test.YtaggldhlnjbnhaaCrpB
import Derived.Test.YtaggldhlnjbnhaaSclB
import Derived.Test.YtaggldhlnjbnhaaCmB
import Derived.Test.YtaggldhlnjbnhaaCmP
import Derived.Test.YtaggldhlnjbnhaaCmQ
import Derived.Test.YtaggldhlnjbnhaaCmJ
import Derived.Test.YtaggldhlnjbnhaaProg
import Derived.WalkKit
import Derived.ProofKit
import Derived.OpenShut
import Derived.WalkLawsBesides
import Derived.WalkSpells
import Derived.ShutString
import Derived.ChangeOld
import Derived.Below
import Derived.Lib.Hide
import Derived.BigQuiet
import Derived.Deep.QuietTactic
import Derived.Maps.AppendAt
import Derived.Deep.OwnRows
import Derived.Handy
import Derived.Deep.Draws
import Derived.OwnWalk
import Derived.Deep.AppendLies
import Derived.Deep.LoopGhost
import Derived.Deep.Onto
import Derived.Laws.BitsAllLaws
import Derived.Lib.QuoteBits
import Derived.Test.YtaggldhlnjbnhaaShelf
import Derived.Laws.CopyOwn
import Derived.Deep.RegionLaw
import Derived.Deep.RegionHeld3
import Derived.Deep.DeepCutAuto
import Derived.Great.BuildSlice
import Derived.Deep.MidRow
import Derived.Deep.WholeRow
import Derived.Laws.AppendOwn
import Derived.ChangeKeysEq
namespace Go.Proofs.Ytaggldhlnjbnhaa
open Go.RowKit
/-- Block b holds a color map that came in; its slices read M and C. -/
structure CmA (b : Nat) (u v : Value) (M C : List Int) (W : World) : Prop where
  at_ : BkAt W b 46 #[u, v]
  rm : Rd W u M.length (intCells M)
  rc : Rd W v C.length (intCells C)
theorem CmA.call {b : Nat} {u v : Value} {M C : List Int} {W W' : World} (h : CmA b u v M C W) (hb : Below W.heap.size W W') : CmA b u v M C W' := ⟨h.at_.call hb, h.rm.call hb, h.rc.call hb⟩
theorem CmA.cells {b : Nat} {u v : Value} {M C : List Int} {W : World} (h : CmA b u v M C W) : W.cell? ⟨b, 0, none⟩ = some u ∧ W.cell? ⟨b, 1, none⟩ = some v := ⟨h.at_.cell 0 rfl, h.at_.cell 1 rfl⟩
theorem CmA.lt {b : Nat} {u v : Value} {M C : List Int} {W : World} (h : CmA b u v M C W) : b < W.heap.size := h.at_.lt
theorem cmA_at {w : World} {g : Nat} (h : w.heap.size = g) (u v : Value) : BkAt (w.alloc (.cells #[u, v] 46)) g 46 #[u, v] := BkAt.newAt h _ _
/-- A color map in a variable of its own, born between the sizes lo and hi of the memory. -/
structure CmV (lo hi b : Nat) (u v : Value) (M C : List Int) (W : World) : Prop where
  at_ : BkAt W b 49 #[u, v]
  o1 : W.ownsRow lo 3 1 u M.length (intCells M)
  o2 : W.ownsRow lo 3 1 v C.length (intCells C)
  lb : lo ≤ b
  hb : b < hi
  hk : ∀ k, u.ownBlock = some k ∨ v.ownBlock = some k → k < hi ∧ k ≠ b
  ne : ∀ k, u.ownBlock = some k → v.ownBlock ≠ some k
  hs : hi ≤ W.heap.size
section
variable {lo hi b : Nat} {u v : Value} {M C : List Int} {W W' : World}
theorem CmV.lt (h : CmV lo hi b u v M C W) : b < W.heap.size := h.at_.lt
theorem CmV.call (h : CmV lo hi b u v M C W) (k : Below W.heap.size W W') : CmV lo hi b u v M C W' :=
  ⟨h.at_.call k, ownI_call h.o1 k, ownI_call h.o2 k, h.lb, h.hb, h.hk, h.ne, Nat.le_trans h.hs k.size⟩
theorem CmV.rm (h : CmV lo hi b u v M C W) : RdI W u M := RdI.of_own h.o1
theorem CmV.rc (h : CmV lo hi b u v M C W) : RdI W v C := RdI.of_own h.o2
theorem CmV.cells (h : CmV lo hi b u v M C W) : W.cell? ⟨b, 0, none⟩ = some u ∧ W.cell? ⟨b, 1, none⟩ = some v := ⟨h.at_.cell 0 rfl, h.at_.cell 1 rfl⟩
theorem CmV.row (h : CmV lo hi b u v M C W) : ∀ k, u.ownBlock = some k ∨ v.ownBlock = some k → lo ≤ k ∧ k < hi := fun k hk => ⟨hk.elim (fun e => (h.o1.lt k e).1) (fun e => (h.o2.lt k e).1), (h.hk k hk).1⟩
theorem own_other {x : Value} {n : Nat} {xs : List Value} {row : Option Nat} (h : W.ownsRow lo 3 1 x n xs) (hg : W.grownBy W' row) (hx : ∀ k, x.ownBlock = some k → row ≠ some k) : W'.ownsRow lo 3 1 x n xs := by
  refine h.kept hg ?_
  by_cases hv : x.ownBlock = none
  · exact .inl hv
  · obtain ⟨k, hk⟩ := Option.ne_none_iff_exists'.1 hv
    exact .inr fun e => hx k hk (by rw [← e, hk])
theorem CmV.other {row : Option Nat} (h : CmV lo hi b u v M C W) (hg : W.grownBy W' row) (hr : ∀ k, row = some k → k < lo ∨ hi ≤ k) : CmV lo hi b u v M C W' :=
  ⟨h.at_.grown hg (fun e => by have := hr _ e.symm; have := h.lb; have := h.hb; omega), own_other h.o1 hg (fun k hk e => by have := hr k e; have := h.row k (.inl hk); omega), own_other h.o2 hg (fun k hk e => by have := hr k e; have := h.row k (.inr hk); omega), h.lb, h.hb, h.hk, h.ne, Nat.le_trans h.hs hg.size⟩
theorem CmV.mark {M' C' : List Int} {Wm : World} (h : CmV lo hi b u v M C W) (h1 : W'.ownsRow lo 3 1 u M.length (intCells M')) (h2 : W'.ownsRow lo 3 1 v C.length (intCells C')) (l1 : M'.length = M.length) (l2 : C'.length = C.length) (g1 : W.grownBy Wm u.ownBlock) (g2 : Wm.grownBy W' v.ownBlock) : CmV lo hi b u v M' C' W' :=
  ⟨(h.at_.grown g1 (fun e => (h.hk _ (.inl e.symm)).2 rfl)).grown g2 (fun e => (h.hk _ (.inr e.symm)).2 rfl), by rw [l1]; exact h1, by rw [l2]; exact h2, h.lb, h.hb, h.hk, h.ne, Nat.le_trans h.hs (Nat.le_trans g1.size g2.size)⟩
theorem CmV.born (hk : Below W.heap.size W W') (h1 : W'.ownsRow W.heap.size 3 1 u M.length (intCells M)) (h2 : W'.ownsRow W.heap.size 3 1 v C.length (intCells C)) (hne : ∀ k, u.ownBlock = some k → v.ownBlock ≠ some k) :
    CmV W.heap.size (W'.heap.size + 1) W'.heap.size u v M C (W'.alloc (.cells #[u, v] 49)) :=
  ⟨BkAt.new _ _ _, h1.alloc _, h2.alloc _, hk.size, Nat.lt_succ_self _, fun k hk => hk.elim (fun e => by have := h1.lt k e; omega) (fun e => by have := h2.lt k e; omega), hne, by simp⟩
theorem CmV.made {W V : World} (hat : BkAt V b 49 #[u, v]) (h1 : V.ownsRow W.heap.size 3 1 u M.length (intCells M)) (h2 : V.ownsRow W.heap.size 3 1 v C.length (intCells C)) (hne : ∀ k, u.ownBlock = some k → v.ownBlock ≠ some k) (hb : W.heap.size ≤ b) (hn : ∀ k, u.ownBlock = some k ∨ v.ownBlock = some k → k ≠ b) :
    CmV W.heap.size V.heap.size b u v M C V := ⟨hat, h1, h2, hb, hat.lt, fun k hk => ⟨hk.elim (fun e => (h1.lt k e).2) (fun e => (h2.lt k e).2), hn k hk⟩, hne, Nat.le_refl _⟩
theorem belC_mark {w Wm : World} (hw : Below w.heap.size w W) (h : CmV lo hi b u v M C W) (hlo : w.heap.size ≤ lo) (g1 : W.grownBy Wm u.ownBlock) (g2 : Wm.grownBy W' v.ownBlock) : Below w.heap.size w W' :=
  (hw.grown g1 hw.size (fun k hk => by have := (h.row k (.inl hk)).1; omega)).grown g2 (Nat.le_trans hw.size g1.size) (fun k hk => by have := (h.row k (.inr hk)).1; omega)
end
theorem szCm_yes (n m : Nat) (A B : Option Addr) (c d : Nat) (l : Int) (h : ((n + m : Nat) : Int) ≤ l) (hl : l ≤ 2097152) (w : World) :
    Calls Try.prog 41 #[.agg #[.slice A n c, .slice B m d], .int .i64 l] w fun e w' => e = .returned (.int .i64 (l - ((n + m : Nat) : Int))) ∧ Below w.heap.size w w' := by
  have h0 : ¬ (l - (n : Int) < 0) := by omega
  have h1 : ¬ (l - (n : Int) - (m : Int) < 0) := by omega
  go_enter Try.func41, Try.ntmps41
  go_wp2_with fail
  refine (szIS_yes n A c l (by omega) hl _).mono ?_
  rintro e w1 ⟨rfl, rfl⟩
  go_wp2_with fail
  refine (szIS_yes m B d _ (by omega) (by omega) _).mono ?_
  rintro e w1 ⟨rfl, rfl⟩
  go_wp2_with fail
  go_ret
  exact ⟨ret_int (by omega), belI_box _ _⟩
theorem szCm_no (n m : Nat) (A B : Option Addr) (c d : Nat) (hn : n ≤ maxLen) (hm : m ≤ maxLen) (l : Int) (h0 : 0 ≤ l) (hl : l ≤ 2097152) (h : l < ((n + m : Nat) : Int)) (w : World) :
    Calls Try.prog 41 #[.agg #[.slice A n c, .slice B m d], .int .i64 l] w fun e w' => e = .returned (.int .i64 (-1)) ∧ Below w.heap.size w w' := by
  by_cases h1 : (n : Int) ≤ l
  · have h2 : ¬ (l - (n : Int) < 0) := by omega
    have Hm := Lib.hid hm
    clear hm hn
    go_enter Try.func41, Try.ntmps41
    go_wp2_with fail
    refine (szIS_yes n A c l h1 hl _).mono ?_
    rintro e w1 ⟨rfl, rfl⟩
    go_wp2_with fail
    refine (szIS_no m B d Hm.out _ (by omega) (by omega) _).mono ?_
    rintro e w1 ⟨rfl, rfl⟩
    go_wp2_with fail
    go_ret
    exact ⟨rfl, belI_box _ _⟩
  · have Hn := Lib.hid hn
    clear hm hn
    go_enter Try.func41, Try.ntmps41
    go_wp2_with fail
    refine (szIS_no n A c Hn.out l h0 (by omega) _).mono ?_
    rintro e w1 ⟨rfl, rfl⟩
    go_wp2_with fail
    go_ret
    exact ⟨rfl, belI_box _ _⟩
/-- What toColorMap keeps in memory while it copies. -/
structure TcS (w : World) (u v : Value) (M C : List Int) (x y : Value) (V : World) : Prop where
  a : CmA w.heap.size u v M C V
  r : BkAt V (w.heap.size + 1) 49 #[.slice none 0 0, .slice none 0 0]
  o : BkAt V (w.heap.size + 2) 49 #[x, y]
  bw : Below w.heap.size w V
theorem TcS.call {w : World} {u v : Value} {M C : List Int} {x y : Value} {V V' : World} (h : TcS w u v M C x y V) (hb : Below V.heap.size V V') : TcS w u v M C x y V' := ⟨h.a.call hb, h.r.call hb, h.o.call hb, belI_call h.bw hb⟩
theorem TcS.put {w : World} {u v : Value} {M C : List Int} {x y x' y' : Value} {V : World} (h : TcS w u v M C x y V) (hu : Rd w u M.length (intCells M)) (hv : Rd w v C.length (intCells C)) (i : Nat) (z : Value) (hz : #[x, y].setIfInBounds i z = #[x', y']) : TcS w u v M C x' y' (V.setCell ⟨w.heap.size + 2, i, none⟩ z) := by
  have hb : Below w.heap.size w (V.setCell ⟨w.heap.size + 2, i, none⟩ z) := h.bw.setCell (by dsimp only; omega) _
  exact ⟨⟨h.a.at_.far (by dsimp only; omega) _, hu.call hb, hv.call hb⟩, h.r.far (by dsimp only; omega) _, by have := h.o.set i z; rwa [hz] at this, hb⟩
set_option maxHeartbeats 1000000 in
set_option maxRecDepth 10000 in
theorem toCm (u v : Value) (M C : List Int) (w : World) (hm : M.length ≤ 1048576) (hc : C.length ≤ 1048576) (hu : Rd w u M.length (intCells M)) (hv : Rd w v C.length (intCells C)) :
    Calls Try.prog 43 #[.agg #[u, v]] w (CmAns M C w) := by
  have hS : TcS w u v M C (.slice none 0 0) (.slice none 0 0) (((w.alloc (.cells #[u, v] 46)).alloc (.cells #[.slice none 0 0, .slice none 0 0] 49)).alloc (.cells #[.slice none 0 0, .slice none 0 0] 49)) :=
    ⟨⟨((BkAt.new _ _ _).alloc _).alloc _, ((hu.alloc _).alloc _).alloc _, ((hv.alloc _).alloc _).alloc _⟩, (BkAt.newAt (by simp) _ _).alloc _, BkAt.newAt (by simp) _ _, belI_call (belI_call (belI_box _ _) (belI_box _ _)) (belI_box _ _)⟩
  have Hu := Lib.hid hu
  have Hv := Lib.hid hv
  have Hm := Lib.hid hm
  have Hc := Lib.hid hc
  obtain ⟨A, c, rfl⟩ := hu.form
  obtain ⟨B, d, rfl⟩ := hv.form
  clear hu hv hm hc
  obtain ⟨a0, a1⟩ := hS.a.cells
  go_enter Try.func43, Try.ntmps43
  go_wp2_with fail
  refine (toIO _ M _ Hm.out hS.a.rm).mono ?_
  rintro e w1 ⟨x, rfl, hown, hb1⟩
  have hsz := hS.bw.size
  have hsz3 := hS.o.lt
  replace hS := hS.call hb1
  obtain ⟨A1, k1, hx⟩ := ownI_shape hown
  subst hx
  have hown := hown.mono (show w.heap.size + 3 ≤ _ by omega)
  clear a0 a1 hb1 hsz hsz3
  have o0 := hS.o.cell 0 rfl
  have o1 := hS.o.cell 1 rfl
  have f0 := hS.o.frozen 0
  have f1 := hS.o.frozen 1
  have hS2 := hS.put Hu.out Hv.out 0 (.slice A1 M.length k1) rfl
  have hown2 := ownI_far (p := ⟨w.heap.size + 2, 0, none⟩) hown (fun g hg => by have := (hown.lt g hg).1; dsimp only; omega) (.slice A1 M.length k1)
  have HS := Lib.hid hS2
  have HO := Lib.hid hown2
  have a1 := hS2.a.cells.2
  clear hS hown hS2 hown2
  go_wp2_with fail
  refine (toIO _ C _ Hc.out HS.out.a.rc).mono ?_
  rintro e w2 ⟨y, rfl, hown3, hb2⟩
  have hsz := HS.out.bw.size
  have hsz3 := HS.out.o.lt
  have hS := HS.out.call hb2
  have hown1 := ownI_call HO.out hb2
  obtain ⟨A2, k2, hy⟩ := ownI_shape hown3
  subst hy
  have hlt1 := fun k hk => (HO.out.lt k hk).2
  have hlt2 := fun k hk => (hown3.lt k hk).1
  have hne : ∀ k, (Value.slice A1 M.length k1).ownBlock = some k → (Value.slice A2 C.length k2).ownBlock ≠ some k := fun k hk e => by have h1 := hlt1 k hk; have h2 := hlt2 k e; omega
  have hown3 := hown3.mono (show w.heap.size + 3 ≤ _ by omega)
  clear a1 o0 o1 f0 f1 hb2 hsz hsz3 HS HO hlt1 hlt2
  have o0 := hS.o.cell 0 rfl
  have o1 := hS.o.cell 1 rfl
  have f0 := hS.o.frozen 0
  have f1 := hS.o.frozen 1
  have hS2 := hS.put Hu.out Hv.out 1 (.slice A2 C.length k2) rfl
  have hw1 := ownI_far (p := ⟨w.heap.size + 2, 1, none⟩) hown1 (fun g hg => by have := (hown1.lt g hg).1; dsimp only; omega) (.slice A2 C.length k2)
  have hw2 := ownI_far (p := ⟨w.heap.size + 2, 1, none⟩) hown3 (fun g hg => by have := (hown3.lt g hg).1; dsimp only; omega) (.slice A2 C.length k2)
  have HS := Lib.hid hS2
  have H1 := Lib.hid hw1
  have H2 := Lib.hid hw2
  have HN := Lib.hid hne
  have r0 := hS2.r.cell 0 rfl
  have r1 := hS2.r.cell 1 rfl
  have g0 := hS2.r.frozen 0
  have g1 := hS2.r.frozen 1
  have q0 := hS2.o.cell 0 rfl
  have q1 := hS2.o.cell 1 rfl
  have HJ := Lib.hid ((hS2.r.set 0 (.slice A1 M.length k1)).set 1 (.slice A2 C.length k2))
  clear hS hS2 hown1 hown3 hw1 hw2 hne
  go_wp2_with fail
  have s0 := HJ.out.cell 0 rfl
  have s1 := HJ.out.cell 1 rfl
  refine bodyPost_ret (v := .agg #[.slice A1 M.length k1, .slice A2 C.length k2]) (by simp [results, Try.results43, go_sem, s0, s1]) rfl ?_
  have l1 := fun g hg => (H1.out.lt g hg).1
  have l2 := fun g hg => (H2.out.lt g hg).1
  exact ⟨_, _, rfl, ownI_far (ownI_far (H1.out.mono (by omega)) (fun g hg => by have := l1 g hg; dsimp only; omega) _) (fun g hg => by have := l1 g hg; dsimp only; omega) _,
    ownI_far (ownI_far (H2.out.mono (by omega)) (fun g hg => by have := l2 g hg; dsimp only; omega) _) (fun g hg => by have := l2 g hg; dsimp only; omega) _, HN.out, (HS.out.bw.setCell (by dsimp only; omega) _).setCell (by dsimp only; omega) _⟩
set_option maxHeartbeats 600000 in
set_option maxRecDepth 10000 in
theorem eqCm_same (u v x y : Value) (M C : List Int) (w : World) (hu : RdI w u M) (hv : RdI w v C) (hx : RdI w x M) (hy : RdI w y C) :
    Calls Try.prog 45 #[.agg #[u, v], .agg #[x, y]] w fun e w' => e = .returned (.bool true) ∧ Below w.heap.size w w' := by
  have hb := belI_call (belI_box w (.cells #[u, v] 49)) (belI_box _ (.cells #[x, y] 49))
  have h1 : CmB w.heap.size u v M C ((w.alloc (.cells #[u, v] 49)).alloc (.cells #[x, y] 49)) := (CmB.born hu hv).call (belI_box _ _)
  have h2 : CmB (w.heap.size + 1) x y M C ((w.alloc (.cells #[u, v] 49)).alloc (.cells #[x, y] 49)) := CmB.bornAt (by simp) (hx.alloc _) (hy.alloc _)
  obtain ⟨a0, a1⟩ := h1.cells
  obtain ⟨b0, b1⟩ := h2.cells
  obtain ⟨A, c, rfl⟩ := hu.form
  obtain ⟨B, d, rfl⟩ := hv.form
  obtain ⟨A', c', rfl⟩ := hx.form
  obtain ⟨B', d', rfl⟩ := hy.form
  have H1 := Lib.hid h1
  have H2 := Lib.hid h2
  have HB := Lib.hid hb
  clear hu hv hx hy h1 h2 hb
  go_enter Try.func45, Try.ntmps45
  go_wp2_with fail
  refine (eqIS_same _ _ M _ H1.out.rm.rd H2.out.rm.rd).mono ?_
  rintro e w1 ⟨rfl, q, rfl⟩
  go_wp2_with fail
  refine (eqIS_same _ _ C _ (H1.out.rc.drewN q).rd (H2.out.rc.drewN q).rd).mono ?_
  rintro e w2 ⟨rfl, q2, rfl⟩
  go_wp2_with fail
  go_ret
  exact ⟨rfl, below_drewN HB.out (q + q2)⟩
set_option maxHeartbeats 600000 in
set_option maxRecDepth 10000 in
theorem markCm (lo : Nat) (u v : Value) (M C : List Int) (k0 : Nat) (ki : Int) (w : World) (hm : k0 + (M.length + C.length) ≤ 1000000000) (hki : ki = (k0 : Nat)) (h1 : w.ownsRow lo 3 1 u M.length (intCells M)) (h2 : w.ownsRow lo 3 1 v C.length (intCells C)) (hne : ∀ k, u.ownBlock = some k → v.ownBlock ≠ some k) :
    Calls Try.prog 46 #[.agg #[u, v], .int .i64 ki] w fun ed w' => ed = .returned (.int .i64 ((k0 + (M.length + C.length) : Nat) : Int)) ∧ w'.ownsRow lo 3 1 u M.length (intCells (marksI k0 M.length)) ∧ w'.ownsRow lo 3 1 v C.length (intCells (marksI (k0 + M.length) C.length)) ∧ ∃ wm, w.grownBy wm u.ownBlock ∧ wm.grownBy w' v.ownBlock := by
  subst hki
  have g0 := World.grownBy_alloc w (.cells #[u, v] 49) u.ownBlock
  have hB : BkAt (w.alloc (.cells #[u, v] 49)) w.heap.size 49 #[u, v] := BkAt.new _ _ _
  have hbu : ∀ k, u.ownBlock = some k → k < w.heap.size := fun k hk => (h1.lt k hk).2
  have h1 := h1.alloc (.cells #[u, v] 49)
  have h2 := h2.alloc (.cells #[u, v] 49)
  obtain ⟨A, c, rfl⟩ := ownI_shape h1
  obtain ⟨B, d, rfl⟩ := ownI_shape h2
  have a0 := hB.cell 0 rfl
  have a1 := hB.cell 1 rfl
  have H1 := Lib.hid h1
  have H2 := Lib.hid h2
  have HB := Lib.hid hB
  have H0 := Lib.hid g0
  have HN := Lib.hid hne
  have HU := Lib.hid hbu
  clear h1 h2 hB g0 hne hbu
  go_enter Try.func46, Try.ntmps46
  go_wp2_with fail
  refine (markIS lo _ _ M k0 _ (by omega) H1.out).mono ?_
  rintro e w1 ⟨rfl, hm1, hg1⟩
  have hB := HB.out.grown hg1 (fun e => by have := HU.out _ e.symm; omega)
  have h2 := own_other H2.out hg1 (fun k hk e => HN.out k e hk)
  clear a0 a1
  have a0 := hB.cell 0 rfl
  have a1 := hB.cell 1 rfl
  have HM1 := Lib.hid hm1
  have HG1 := Lib.hid hg1
  have H2b := Lib.hid h2
  clear hm1 hg1 hB h2
  go_wp2_with fail
  refine (markIS lo _ _ C (k0 + M.length) _ (by omega) H2b.out).mono ?_
  rintro e w2 ⟨rfl, hm2, hg2⟩
  have hm1 := own_other HM1.out hg2 (fun k hk e => HN.out k hk e)
  have HM2 := Lib.hid hm2
  have HG2 := Lib.hid hg2
  have HM3 := Lib.hid hm1
  clear hm1 hm2 hg2
  go_wp2_with fail
  go_ret
  exact ⟨ret_int (by omega), HM3.out, HM2.out, w1, H0.out.trans HG1.out, HG2.out⟩
end Go.Proofs.Ytaggldhlnjbnhaa
