/- Texts of mine in one file: CmE, CoK, DitC. No statement is proved here. -/
import Derived.Test.YtnndifemkichmaaGreatMA
import Derived.Test.YtnndifemkichmaaGreatMAv0
import Derived.Test.YtnndifemkichmaaGreatMBv0
import Derived.Test.YtnndifemkichmaaGreatCmQv0
import Derived.Test.YtnndifemkichmaaGreatMB
import Derived.Test.YtnndifemkichmaaGreatB1sa
import Derived.Test.YtnndifemkichmaaGreatThrCv0
import Derived.Test.YtnndifemkichmaaGreatProg
import Derived.WalkKit
import Derived.ProofKit
import Derived.OpenShut
import Derived.WalkLawsBesides
import Derived.WalkSpells
import Derived.ShutString
import Derived.ChangeOld
import Derived.Below
import Derived.Lib.Hide
import Derived.BigQuiet
import Derived.Deep.QuietTactic
import Derived.Maps.AppendAt
import Derived.Deep.OwnRows
import Derived.Handy
import Derived.Deep.Draws
import Derived.OwnWalk
import Derived.Deep.AppendLies
import Derived.Deep.LoopGhost
import Derived.Deep.Onto
import Derived.Laws.BitsAllLaws
import Derived.Lib.QuoteBits
import Derived.Test.YtnndifemkichmaaGreatShelf
import Derived.Laws.CopyOwn
import Derived.Deep.RegionLaw
import Derived.Deep.RegionHeld3
import Derived.Deep.DeepCutAuto
import Derived.Great.BuildSlice
import Derived.Deep.MidRow
import Derived.Deep.WholeRow
import Derived.Laws.AppendOwn
import Derived.ChangeKeysEq
import Derived.Carry
import Derived.Maps.Own
namespace Go.Proofs.YtnndifemkichmaaGreat
open Go.RowKit
structure CmA (b : Nat) (u v : Value) (M C : List Int) (W : World) : Prop where
 at_ : BkAt W b 88 #[u, v]
 rm : Rd W u M.length (intCells M)
 rc : Rd W v C.length (intCells C)
theorem CmA.call {b : Nat} {u v : Value} {M C : List Int} {W W' : World} (h : CmA b u v M C W) (hb : Below W.heap.size W W') : CmA b u v M C W' := ⟨h.at_.call hb, h.rm.call hb, h.rc.call hb⟩
theorem CmA.cells {b : Nat} {u v : Value} {M C : List Int} {W : World} (h : CmA b u v M C W) : W.cell? ⟨b, 0, none⟩ = some u ∧ W.cell? ⟨b, 1, none⟩ = some v := ⟨h.at_.cell 0 rfl, h.at_.cell 1 rfl⟩
theorem CmA.lt {b : Nat} {u v : Value} {M C : List Int} {W : World} (h : CmA b u v M C W) : b < W.heap.size := h.at_.lt
section
variable {lo hi b : Nat} {u v : Value} {M C : List Int} {W W' : World}
theorem own_other {x : Value} {n : Nat} {xs : List Value} {row : Option Nat} (h : W.ownsRow lo 3 1 x n xs) (hg : W.grownBy W' row) (hx : ∀ k, x.ownBlock = some k → row ≠ some k) : W'.ownsRow lo 3 1 x n xs := by
 refine h.kept hg ?_
 by_cases hv : x.ownBlock = none
 ·exact .inl hv
 ·obtain ⟨k, hk⟩ := Option.ne_none_iff_exists'.1 hv
  exact .inr fun e => hx k hk (by rw [← e, hk])
end
theorem szCm_yes (n m : Nat) (A B : Option Addr) (c d : Nat) (l : Int) (h : ((n + m : Nat) : Int) ≤ l) (hl : l ≤ 2097152) (w : World) :
  Calls Tryz.prog 48 #[.agg #[.slice A n c, .slice B m d], .int .i64 l] w fun e w' => e = .returned (.int .i64 (l - ((n + m : Nat) : Int))) ∧ Below w.heap.size w w' := by
 have h0 : ¬ (l - (n : Int) < 0) := by omega
 have h1 : ¬ (l - (n : Int) - (m : Int) < 0) := by omega
 go_enter Tryz.func48, Tryz.ntmps48
 go_wp2_with fail
 refine (szIS_yes n A c l (by omega) hl _).mono ?_
 rintro e w1 ⟨rfl, rfl⟩
 go_wp2_with fail
 refine (szIS_yes m B d _ (by omega) (by omega) _).mono ?_
 rintro e w1 ⟨rfl, rfl⟩
 go_wp2_with fail
 go_ret
 exact ⟨ret_int (by omega), belI_box _ _⟩
theorem szCm_no (n m : Nat) (A B : Option Addr) (c d : Nat) (hn : n ≤ maxLen) (hm : m ≤ maxLen) (l : Int) (h0 : 0 ≤ l) (hl : l ≤ 2097152) (h : l < ((n + m : Nat) : Int)) (w : World) :
  Calls Tryz.prog 48 #[.agg #[.slice A n c, .slice B m d], .int .i64 l] w fun e w' => e = .returned (.int .i64 (-1)) ∧ Below w.heap.size w w' := by
 by_cases h1 : (n : Int) ≤ l
 ·have h2 : ¬ (l - (n : Int) < 0) := by omega
  have Hm := Lib.hid hm
  clear hm hn
  go_enter Tryz.func48, Tryz.ntmps48
  go_wp2_with fail
  refine (szIS_yes n A c l h1 hl _).mono ?_
  rintro e w1 ⟨rfl, rfl⟩
  go_wp2_with fail
  refine (szIS_no m B d Hm.out _ (by omega) (by omega) _).mono ?_
  rintro e w1 ⟨rfl, rfl⟩
  go_wp2_with fail
  go_ret
  exact ⟨rfl, belI_box _ _⟩
 ·have Hn := Lib.hid hn
  clear hm hn
  go_enter Tryz.func48, Tryz.ntmps48
  go_wp2_with fail
  refine (szIS_no n A c Hn.out l h0 (by omega) _).mono ?_
  rintro e w1 ⟨rfl, rfl⟩
  go_wp2_with fail
  go_ret
  exact ⟨rfl, belI_box _ _⟩
structure TcS (w : World) (u v : Value) (M C : List Int) (x y : Value) (V : World) : Prop where
 a : CmA w.heap.size u v M C V
 r : BkAt V (w.heap.size + 1) 91 #[.slice none 0 0, .slice none 0 0]
 o : BkAt V (w.heap.size + 2) 91 #[x, y]
 bw : Below w.heap.size w V
theorem TcS.call {w : World} {u v : Value} {M C : List Int} {x y : Value} {V V' : World} (h : TcS w u v M C x y V) (hb : Below V.heap.size V V') : TcS w u v M C x y V' := ⟨h.a.call hb, h.r.call hb, h.o.call hb, belI_call h.bw hb⟩
theorem TcS.put {w : World} {u v : Value} {M C : List Int} {x y x' y' : Value} {V : World} (h : TcS w u v M C x y V) (hu : Rd w u M.length (intCells M)) (hv : Rd w v C.length (intCells C)) (i : Nat) (z : Value) (hz : #[x, y].setIfInBounds i z = #[x', y']) : TcS w u v M C x' y' (V.setCell ⟨w.heap.size + 2, i, none⟩ z) := by
 have hb : Below w.heap.size w (V.setCell ⟨w.heap.size + 2, i, none⟩ z) := h.bw.setCell (by dsimp only; omega) _
 exact ⟨⟨h.a.at_.far (by dsimp only; omega) _, hu.call hb, hv.call hb⟩, h.r.far (by dsimp only; omega) _, by have := h.o.set i z; rwa [hz] at this, hb⟩
set_option maxHeartbeats 1000000 in
set_option maxRecDepth 10000 in
theorem toCm (u v : Value) (M C : List Int) (w : World) (hm : M.length ≤ 1048576) (hc : C.length ≤ 1048576) (hu : Rd w u M.length (intCells M)) (hv : Rd w v C.length (intCells C)) :
  Calls Tryz.prog 50 #[.agg #[u, v]] w (CmAns M C w) := by
 have hS : TcS w u v M C (.slice none 0 0) (.slice none 0 0) (((w.alloc (.cells #[u, v] 88)).alloc (.cells #[.slice none 0 0, .slice none 0 0] 91)).alloc (.cells #[.slice none 0 0, .slice none 0 0] 91)) :=
  ⟨⟨((BkAt.new _ _ _).alloc _).alloc _, ((hu.alloc _).alloc _).alloc _, ((hv.alloc _).alloc _).alloc _⟩, (BkAt.newAt (by simp) _ _).alloc _, BkAt.newAt (by simp) _ _, belI_call (belI_call (belI_box _ _) (belI_box _ _)) (belI_box _ _)⟩
 have Hu := Lib.hid hu
 have Hv := Lib.hid hv
 have Hm := Lib.hid hm
 have Hc := Lib.hid hc
 obtain ⟨A, c, rfl⟩ := hu.form
 obtain ⟨B, d, rfl⟩ := hv.form
 clear hu hv hm hc
 obtain ⟨a0, a1⟩ := hS.a.cells
 go_enter Tryz.func50, Tryz.ntmps50
 go_wp2_with fail
 refine (toIO _ M _ Hm.out hS.a.rm).mono ?_
 rintro e w1 ⟨x, rfl, hown, hb1⟩
 have hsz := hS.bw.size
 have hsz3 := hS.o.lt
 replace hS := hS.call hb1
 obtain ⟨A1, k1, hx⟩ := ownI_shape hown
 subst hx
 have hown := hown.mono (show w.heap.size + 3 ≤ _ by omega)
 clear a0 a1 hb1 hsz hsz3
 have o0 := hS.o.cell 0 rfl
 have o1 := hS.o.cell 1 rfl
 have f0 := hS.o.frozen 0
 have f1 := hS.o.frozen 1
 have hS2 := hS.put Hu.out Hv.out 0 (.slice A1 M.length k1) rfl
 have hown2 := ownI_far (p := ⟨w.heap.size + 2, 0, none⟩) hown (fun g hg => by have := (hown.lt g hg).1; dsimp only; omega) (.slice A1 M.length k1)
 have HS := Lib.hid hS2
 have HO := Lib.hid hown2
 have a1 := hS2.a.cells.2
 clear hS hown hS2 hown2
 go_wp2_with fail
 refine (toIO _ C _ Hc.out HS.out.a.rc).mono ?_
 rintro e w2 ⟨y, rfl, hown3, hb2⟩
 have hsz := HS.out.bw.size
 have hsz3 := HS.out.o.lt
 have hS := HS.out.call hb2
 have hown1 := ownI_call HO.out hb2
 obtain ⟨A2, k2, hy⟩ := ownI_shape hown3
 subst hy
 have hlt1 := fun k hk => (HO.out.lt k hk).2
 have hlt2 := fun k hk => (hown3.lt k hk).1
 have hne : ∀ k, (Value.slice A1 M.length k1).ownBlock = some k → (Value.slice A2 C.length k2).ownBlock ≠ some k := fun k hk e => by have h1 := hlt1 k hk; have h2 := hlt2 k e; omega
 have hown3 := hown3.mono (show w.heap.size + 3 ≤ _ by omega)
 clear a1 o0 o1 f0 f1 hb2 hsz hsz3 HS HO hlt1 hlt2
 have o0 := hS.o.cell 0 rfl
 have o1 := hS.o.cell 1 rfl
 have f0 := hS.o.frozen 0
 have f1 := hS.o.frozen 1
 have hS2 := hS.put Hu.out Hv.out 1 (.slice A2 C.length k2) rfl
 have hw1 := ownI_far (p := ⟨w.heap.size + 2, 1, none⟩) hown1 (fun g hg => by have := (hown1.lt g hg).1; dsimp only; omega) (.slice A2 C.length k2)
 have hw2 := ownI_far (p := ⟨w.heap.size + 2, 1, none⟩) hown3 (fun g hg => by have := (hown3.lt g hg).1; dsimp only; omega) (.slice A2 C.length k2)
 have HS := Lib.hid hS2
 have H1 := Lib.hid hw1
 have H2 := Lib.hid hw2
 have HN := Lib.hid hne
 have r0 := hS2.r.cell 0 rfl
 have r1 := hS2.r.cell 1 rfl
 have g0 := hS2.r.frozen 0
 have g1 := hS2.r.frozen 1
 have q0 := hS2.o.cell 0 rfl
 have q1 := hS2.o.cell 1 rfl
 have HJ := Lib.hid ((hS2.r.set 0 (.slice A1 M.length k1)).set 1 (.slice A2 C.length k2))
 clear hS hS2 hown1 hown3 hw1 hw2 hne
 go_wp2_with fail
 have s0 := HJ.out.cell 0 rfl
 have s1 := HJ.out.cell 1 rfl
 refine bodyPost_ret (v := .agg #[.slice A1 M.length k1, .slice A2 C.length k2]) (by simp [results, Tryz.results50, go_sem, s0, s1]) rfl ?_
 have l1 := fun g hg => (H1.out.lt g hg).1
 have l2 := fun g hg => (H2.out.lt g hg).1
 exact ⟨_, _, rfl, ownI_far (ownI_far (H1.out.mono (by omega)) (fun g hg => by have := l1 g hg; dsimp only; omega) _) (fun g hg => by have := l1 g hg; dsimp only; omega) _,
  ownI_far (ownI_far (H2.out.mono (by omega)) (fun g hg => by have := l2 g hg; dsimp only; omega) _) (fun g hg => by have := l2 g hg; dsimp only; omega) _, HN.out, (HS.out.bw.setCell (by dsimp only; omega) _).setCell (by dsimp only; omega) _⟩
set_option maxHeartbeats 600000 in
set_option maxRecDepth 10000 in
theorem eqCm_same (u v x y : Value) (M C : List Int) (w : World) (hu : RdI w u M) (hv : RdI w v C) (hx : RdI w x M) (hy : RdI w y C) :
  Calls Tryz.prog 53 #[.agg #[u, v], .agg #[x, y]] w fun e w' => e = .returned (.bool true) ∧ Below w.heap.size w w' := by
 have hb := belI_call (belI_box w (.cells #[u, v] 91)) (belI_box _ (.cells #[x, y] 91))
 have h1 : CmB w.heap.size u v M C ((w.alloc (.cells #[u, v] 91)).alloc (.cells #[x, y] 91)) := (CmB.born hu hv).call (belI_box _ _)
 have h2 : CmB (w.heap.size + 1) x y M C ((w.alloc (.cells #[u, v] 91)).alloc (.cells #[x, y] 91)) := CmB.bornAt (by simp) (hx.alloc _) (hy.alloc _)
 obtain ⟨a0, a1⟩ := h1.cells
 obtain ⟨b0, b1⟩ := h2.cells
 obtain ⟨A, c, rfl⟩ := hu.form
 obtain ⟨B, d, rfl⟩ := hv.form
 obtain ⟨A', c', rfl⟩ := hx.form
 obtain ⟨B', d', rfl⟩ := hy.form
 have H1 := Lib.hid h1
 have H2 := Lib.hid h2
 have HB := Lib.hid hb
 clear hu hv hx hy h1 h2 hb
 go_enter Tryz.func53, Tryz.ntmps53
 go_wp2_with fail
 refine (eqIS_same _ _ M _ H1.out.rm.rd H2.out.rm.rd).mono ?_
 rintro e w1 ⟨rfl, q, rfl⟩
 go_wp2_with fail
 refine (eqIS_same _ _ C _ (H1.out.rc.drewN q).rd (H2.out.rc.drewN q).rd).mono ?_
 rintro e w2 ⟨rfl, q2, rfl⟩
 go_wp2_with fail
 go_ret
 exact ⟨rfl, below_drewN HB.out (q + q2)⟩
set_option maxHeartbeats 600000 in
set_option maxRecDepth 10000 in
theorem markCm (lo : Nat) (u v : Value) (M C : List Int) (k0 : Nat) (ki : Int) (w : World) (hm : k0 + (M.length + C.length) ≤ 1000000000) (hki : ki = (k0 : Nat)) (h1 : w.ownsRow lo 3 1 u M.length (intCells M)) (h2 : w.ownsRow lo 3 1 v C.length (intCells C)) (hne : ∀ k, u.ownBlock = some k → v.ownBlock ≠ some k) :
  Calls Tryz.prog 54 #[.agg #[u, v], .int .i64 ki] w fun ed w' => ed = .returned (.int .i64 ((k0 + (M.length + C.length) : Nat) : Int)) ∧ w'.ownsRow lo 3 1 u M.length (intCells (marksI k0 M.length)) ∧ w'.ownsRow lo 3 1 v C.length (intCells (marksI (k0 + M.length) C.length)) ∧ ∃ wm, w.grownBy wm u.ownBlock ∧ wm.grownBy w' v.ownBlock := by
 subst hki
 have g0 := World.grownBy_alloc w (.cells #[u, v] 91) u.ownBlock
 have hB : BkAt (w.alloc (.cells #[u, v] 91)) w.heap.size 91 #[u, v] := BkAt.new _ _ _
 have hbu : ∀ k, u.ownBlock = some k → k < w.heap.size := fun k hk => (h1.lt k hk).2
 have h1 := h1.alloc (.cells #[u, v] 91)
 have h2 := h2.alloc (.cells #[u, v] 91)
 obtain ⟨A, c, rfl⟩ := ownI_shape h1
 obtain ⟨B, d, rfl⟩ := ownI_shape h2
 have a0 := hB.cell 0 rfl
 have a1 := hB.cell 1 rfl
 have H1 := Lib.hid h1
 have H2 := Lib.hid h2
 have HB := Lib.hid hB
 have H0 := Lib.hid g0
 have HN := Lib.hid hne
 have HU := Lib.hid hbu
 clear h1 h2 hB g0 hne hbu
 go_enter Tryz.func54, Tryz.ntmps54
 go_wp2_with fail
 refine (markIS lo _ _ M k0 _ (by omega) H1.out).mono ?_
 rintro e w1 ⟨rfl, hm1, hg1⟩
 have hB := HB.out.grown hg1 (fun e => by have := HU.out _ e.symm; omega)
 have h2 := own_other H2.out hg1 (fun k hk e => HN.out k e hk)
 clear a0 a1
 have a0 := hB.cell 0 rfl
 have a1 := hB.cell 1 rfl
 have HM1 := Lib.hid hm1
 have HG1 := Lib.hid hg1
 have H2b := Lib.hid h2
 clear hm1 hg1 hB h2
 go_wp2_with fail
 refine (markIS lo _ _ C (k0 + M.length) _ (by omega) H2b.out).mono ?_
 rintro e w2 ⟨rfl, hm2, hg2⟩
 have hm1 := own_other HM1.out hg2 (fun k hk e => HN.out k hk e)
 have HM2 := Lib.hid hm2
 have HG2 := Lib.hid hg2
 have HM3 := Lib.hid hm1
 clear hm1 hm2 hg2
 go_wp2_with fail
 go_ret
 exact ⟨ret_int (by omega), HM3.out, HM2.out, w1, H0.out.trans HG1.out, HG2.out⟩
end Go.Proofs.YtnndifemkichmaaGreat
namespace Go.Proofs.YtnndifemkichmaaGreat
open Go.RowKit
structure Cm where
 u : List Int
 v : List Int
def repCm : Rep Cm where
 R := fun w m vs bs => ∃ a b b1 b2, vs = [a, b] ∧ repInts.R w m.u [a] b1 ∧ repInts.R w m.v [b] b2 ∧ bs = b1 ++ b2
 ex := by
  rintro w m vs bs ⟨a, b, b1, b2, rfl, h1, h2, rfl⟩ k hk
  rcases List.mem_append.1 hk with hk | hk
  ·exact repInts.ex h1 k hk
  ·exact repInts.ex h2 k hk
 keep := by
  rintro w w' m vs bs ⟨a, b, b1, b2, rfl, h1, h2, rfl⟩ hk
  exact ⟨a, b, b1, b2, rfl, repInts.keep h1 fun k h => hk k (by simp [h]), repInts.keep h2 fun k h => hk k (by simp [h]), rfl⟩
def wkCm : Wk Cm where
 R := fun w m vs => ∃ a b, vs = [a, b] ∧ Rd w a m.u.length (intCells m.u) ∧ Rd w b m.v.length (intCells m.v)
 call := by rintro w w' m vs ⟨a, b, rfl, h1, h2⟩ hb; exact ⟨a, b, rfl, h1.call hb, h2.call hb⟩
def sizCm (m : Cm) : Nat := m.u.length + m.v.length
def mkCm (k : Nat) (m : Cm) : Cm := ⟨marksI k m.u.length, marksI (k + m.u.length) m.v.length⟩
theorem wr_cm {w : World} {m : Cm} {a b : Value} (h : wkCm.R w m [a, b]) : Rd w a m.u.length (intCells m.u) ∧ Rd w b m.v.length (intCells m.v) := by
 obtain ⟨a', b', e, h⟩ := h
 simp at e
 obtain ⟨rfl, rfl⟩ := e
 exact h
theorem wform_cm {w : World} {m : Cm} {a b : Value} (h : wkCm.R w m [a, b]) : ∃ A0 c0 A1 c1, a = .slice A0 m.u.length c0 ∧ b = .slice A1 m.v.length c1 := by
 obtain ⟨h1, h2⟩ := wr_cm h
 obtain ⟨A0, c0, e0⟩ := h1.form
 obtain ⟨A1, c1, e1⟩ := h2.form
 exact ⟨A0, c0, A1, c1, e0, e1⟩
theorem r_cm {w : World} {m : Cm} {a b : Value} {bs : List Nat} (h : repCm.R w m [a, b] bs) : ∃ b1 b2, repInts.R w m.u [a] b1 ∧ repInts.R w m.v [b] b2 ∧ bs = b1 ++ b2 := by
 obtain ⟨a', b', b1, b2, e, h⟩ := h
 simp at e
 obtain ⟨rfl, rfl⟩ := e
 exact ⟨b1, b2, h⟩
theorem rd_cm {w : World} {m : Cm} {a b : Value} {bs : List Nat} (h : repCm.R w m [a, b] bs) : RdI w a m.u ∧ RdI w b m.v := by
 obtain ⟨b1, b2, h1, h2, _⟩ := r_cm h
 exact ⟨repInts_rd h1, repInts_rd h2⟩
theorem form_cm {w : World} {m : Cm} {a b : Value} {bs : List Nat} (h : repCm.R w m [a, b] bs) : ∃ A0 c0 A1 c1, a = .slice A0 m.u.length c0 ∧ b = .slice A1 m.v.length c1 := by
 obtain ⟨h1, h2⟩ := rd_cm h
 obtain ⟨A0, c0, e0⟩ := h1.form
 obtain ⟨A1, c1, e1⟩ := h2.form
 exact ⟨A0, c0, A1, c1, e0, e1⟩
theorem sz_cm_yes (f : Cm) (a b : Value) (l : Int) (w : World) (hr : wkCm.R w f [a, b]) (h : (((sizCm f) : Nat) : Int) ≤ l) (hl : l ≤ 2097152) : Calls Tryz.prog 48 #[.agg #[a, b], .int .i64 l] w fun e w' => e = .returned (.int .i64 (l - (((sizCm f) : Nat) : Int))) ∧ Below w.heap.size w w' := by
 obtain ⟨A0, c0, A1, c1, rfl, rfl⟩ := wform_cm hr
 exact szCm_yes _ _ _ _ _ _ l h hl w
theorem sz_cm_no (f : Cm) (a b : Value) (l : Int) (w : World) (hr : wkCm.R w f [a, b]) (h0 : 0 ≤ l) (h : l < (((sizCm f) : Nat) : Int)) (hl : l ≤ 2097152) : Calls Tryz.prog 48 #[.agg #[a, b], .int .i64 l] w fun e w' => e = .returned (.int .i64 (-1)) ∧ Below w.heap.size w w' := by
 obtain ⟨h1, h2⟩ := wr_cm hr
 have m1 := h1.len.2
 have m2 := h2.len.2
 obtain ⟨A0, c0, A1, c1, rfl, rfl⟩ := wform_cm hr
 exact szCm_no _ _ _ _ _ _ m1 m2 l h0 hl h w
theorem own_cm {B : Nat} {w : World} {m : Cm} {a b : Value} (h1 : w.ownsRow B 3 1 a m.u.length (intCells m.u)) (h2 : w.ownsRow B 3 1 b m.v.length (intCells m.v)) (hne : ∀ k, a.ownBlock = some k → b.ownBlock ≠ some k) : repCm.Own B w m [a, b] (a.ownBlock.toList ++ b.ownBlock.toList) := by
 have i1 := repInts_own h1
 have i2 := repInts_own h2
 refine ⟨⟨a, b, _, _, rfl, i1.r, i2.r, rfl⟩, List.nodup_append.2 ⟨i1.nd, i2.nd, fun x hx y hy e => ?_⟩, fun k hk => ?_⟩
 ·subst e
  exact hne x (by simpa using hx) (by simpa using hy)
 ·rcases List.mem_append.1 hk with hk | hk
  ·exact i1.lo k hk
  ·exact i2.lo k hk
theorem cm_own {B : Nat} {w : World} {m : Cm} {a b : Value} {bs : List Nat} (h : repCm.Own B w m [a, b] bs) : w.ownsRow B 3 1 a m.u.length (intCells m.u) ∧ w.ownsRow B 3 1 b m.v.length (intCells m.v) ∧ (∀ k, a.ownBlock = some k → b.ownBlock ≠ some k) ∧ bs = a.ownBlock.toList ++ b.ownBlock.toList := by
 obtain ⟨b1, b2, h1, h2, rfl⟩ := r_cm h.r
 obtain ⟨n1, n2, n3⟩ := List.nodup_append.1 h.nd
 obtain ⟨o1, rfl⟩ := rep_ints_own (B := B) ⟨h1, n1, fun k hk => h.lo k (by simp [hk])⟩
 obtain ⟨o2, rfl⟩ := rep_ints_own (B := B) ⟨h2, n2, fun k hk => h.lo k (by simp [hk])⟩
 exact ⟨o1, o2, fun k e1 e2 => n3 k (by simp [e1]) k (by simp [e2]) rfl, rfl⟩
theorem to_cm (f : Cm) (a b : Value) (w : World) (hr : wkCm.R w f [a, b]) (hm : sizCm f ≤ 1048576) : Calls Tryz.prog 50 #[.agg #[a, b]] w fun en w' => ∃ u0 u1 bs, en = .returned (.agg #[u0, u1]) ∧ repCm.Own w.heap.size w' f [u0, u1] bs ∧ Below w.heap.size w w' := by
 obtain ⟨h1, h2⟩ := wr_cm hr
 unfold sizCm at hm
 refine (toCm a b f.u f.v w (by omega) (by omega) h1 h2).mono ?_
 rintro e w' ⟨u, v, rfl, o1, o2, hne, hb⟩
 exact ⟨u, v, _, rfl, own_cm o1 o2 hne, hb⟩
theorem eq_cm (f : Cm) (a b a' b' : Value) (bs cs : List Nat) (w : World) (h1 : repCm.R w f [a, b] bs) (h2 : repCm.R w f [a', b'] cs) : Calls Tryz.prog 53 #[.agg #[a, b], .agg #[a', b']] w fun e w' => e = .returned (.bool true) ∧ Below w.heap.size w w' :=
 eqCm_same a b a' b' f.u f.v w (rd_cm h1).1 (rd_cm h1).2 (rd_cm h2).1 (rd_cm h2).2
theorem mark_cm (B : Nat) (f : Cm) (a b : Value) (bs : List Nat) (k0 : Nat) (w : World) (hm : k0 + (sizCm f) ≤ 1000000000) (ho : repCm.Own B w f [a, b] bs) : Calls Tryz.prog 54 #[.agg #[a, b], .int .i64 k0] w fun en w' => en = .returned (.int .i64 ((k0 + (sizCm f) : Nat) : Int)) ∧ repCm.R w' (mkCm k0 f) [a, b] bs ∧ Chg w w' bs := by
 obtain ⟨o1, o2, hne, rfl⟩ := cm_own ho
 refine (markCm B a b f.u f.v k0 _ w hm rfl o1 o2 hne).mono ?_
 rintro e w' ⟨rfl, p1, p2, wm, g1, g2⟩
 refine ⟨rfl, ⟨a, b, _, _, rfl, ⟨a, rfl, ?_, rfl⟩, ⟨b, rfl, ?_, rfl⟩, rfl⟩, ?_⟩
 ·show w'.ownsRow 0 _ 1 a (marksI k0 f.u.length).length _
  rw [marksI_length]; exact own_rebase p1 fun _ _ => Nat.zero_le _
 ·show w'.ownsRow 0 _ 1 b (marksI (k0 + f.u.length) f.v.length).length _
  rw [marksI_length]; exact own_rebase p2 fun _ _ => Nat.zero_le _
 ·exact ((Chg.of_grown g1).mono fun k hk => by simp [hk]).trans ((Chg.of_grown g2).mono fun k hk => by simp [hk])
structure VarN {α : Type} (E : Rep α) (lo hi : Nat) (a : α) (vs : List Value) (bs : List Nat) (W : World) : Prop where
 own : E.Own lo W a vs bs
 hbs : ∀ k ∈ bs, k < hi
 hs : hi ≤ W.heap.size
section
variable {α : Type} {E : Rep α} {lo hi : Nat} {a a' : α} {vs : List Value} {bs cs : List Nat} {W W' : World}
theorem VarN.call (h : VarN E lo hi a vs bs W) (k : Below W.heap.size W W') : VarN E lo hi a vs bs W' := ⟨h.own.call k, h.hbs, Nat.le_trans h.hs k.size⟩
theorem VarN.r (h : VarN E lo hi a vs bs W) : E.R W a vs bs := h.own.r
theorem VarN.rng (h : VarN E lo hi a vs bs W) : ∀ k ∈ bs, lo ≤ k ∧ k < hi := fun k hk => ⟨h.own.lo k hk, h.hbs k hk⟩
theorem VarN.chg (h : VarN E lo hi a vs bs W) (hc : Chg W W' cs) (hn : ∀ k ∈ cs, k < lo ∨ hi ≤ k) : VarN E lo hi a vs bs W' :=
 ⟨h.own.chg hc fun k hk e => by have := hn k e; have := h.rng k hk; omega, h.hbs, Nat.le_trans h.hs hc.size⟩
theorem VarN.mark (h : VarN E lo hi a vs bs W) (hr : E.R W' a' vs bs) (hc : Chg W W' bs) : VarN E lo hi a' vs bs W' := ⟨⟨hr, h.own.nd, h.own.lo⟩, h.hbs, Nat.le_trans h.hs hc.size⟩
theorem VarN.born {w : World} (_ : Below w.heap.size w W) (ho : E.Own w.heap.size W a vs bs) : VarN E w.heap.size W.heap.size a vs bs W := ⟨ho, fun k hk => E.ex ho.r k hk, Nat.le_refl _⟩
theorem VarN.below {w : World} (h : VarN E lo hi a vs bs W) (hw : Below w.heap.size w W) (hlo : w.heap.size ≤ lo) (hc : Chg W W' bs) : Below w.heap.size w W' :=
 hc.below hw hw.size fun k hk => Nat.le_trans hlo (h.rng k hk).1
end
def mkIl (k : Nat) (L : List Int) : List Int := marksI k L.length
theorem form_il {w : World} {L : List Int} {v : Value} {bs : List Nat} (h : repInts.R w L [v] bs) : ∃ A c, v = .slice A L.length c := (ints_form h).1
theorem eq_il (f : List Int) (d u : Value) (bs cs : List Nat) (w : World) (h1 : repInts.R w f [d] bs) (h2 : repInts.R w f [u] cs) : Calls Tryz.prog 52 #[d, u] w fun e w' => e = .returned (.bool true) ∧ Below w.heap.size w w' := eqIS_own d u f w (repInts_rd h1) (repInts_rd h2)
theorem mark_il (B : Nat) (f : List Int) (d : Value) (bs : List Nat) (k0 : Nat) (w : World) (hm : k0 + f.length ≤ 1000000000) (ho : repInts.Own B w f [d] bs) : Calls Tryz.prog 55 #[d, .int .i64 k0] w fun en w' => en = .returned (.int .i64 ((k0 + f.length : Nat) : Int)) ∧ repInts.R w' (mkIl k0 f) [d] bs ∧ Chg w w' bs := by
 obtain ⟨h1, rfl⟩ := rep_ints_own ho
 refine (markIS B _ d f k0 w hm h1).mono ?_
 rintro e w1 ⟨rfl, h2, hg⟩
 refine ⟨rfl, ⟨d, rfl, ?_, rfl⟩, Chg.of_grown hg⟩
 show w1.ownsRow 0 _ 1 d (marksI k0 f.length).length _
 rw [marksI_length]; exact own_rebase h2 fun _ _ => Nat.zero_le _
theorem held_il (f : List Int) (d : Value) (bs : List Nat) (k0 : Nat) (w : World) (hm : k0 + f.length ≤ 1000000000) (hr : repInts.R w (mkIl k0 f) [d] bs) : Calls Tryz.prog 56 #[d, .int .i64 k0] w fun e w' => e = .returned (.int .i64 ((k0 + f.length : Nat) : Int)) ∧ Below w.heap.size w w' := by
 refine (heldIS d k0 f.length w hm (repInts_rd (L := mkIl k0 f) hr)).mono ?_
 rintro e w1 ⟨rfl, rfl⟩
 exact ⟨rfl, Below.refl _ _⟩
end Go.Proofs.YtnndifemkichmaaGreat
namespace Go.Proofs.YtnndifemkichmaaGreat
open Go.RowKit
theorem lev_join {a b c : Int} (ha : 0 ≤ a ∧ a ≤ 63) (hb : 0 ≤ b ∧ b ≤ 63) (hc : 0 ≤ c ∧ c ≤ 63) :
  bits .or .i64 (a * 64) b = a * 64 + b ∧ bits .or .i64 ((a * 64 + b) * 64) c = a * 4096 + b * 64 + c := by
 refine ⟨or_join 6 (a * 64) b (by omega) (by omega) (by omega) (by omega) (by omega) (by omega), ?_⟩
 rw [or_join 6 ((a * 64 + b) * 64) c (by omega) (by omega) (by omega) (by omega) (by omega) (by omega)]
 omega
set_option maxHeartbeats 2000000 in
theorem dpxI (p x y : Int) (w : World) : Calls Tryz.prog 190 #[.int .i64 p, .int .i64 x, .int .i64 y] w fun e w' => e = .returned (.int .i64 (dotV p x y)) ∧ Below w.heap.size w w' := by
 by_cases hp : pixOk p
 ·obtain ⟨t, ht⟩ : ∃ t, t = thr x y := ⟨_, rfl⟩
  obtain ⟨t0, t1⟩ : 0 ≤ t ∧ t ≤ 3 := by rw [ht]; exact thr_bd x y
  have HT := Lib.hid (thrI x y)
  rw [← ht] at HT
  have HU := Lib.hid (unpackedI p hp)
  obtain ⟨r, hr⟩ : ∃ r, r = p / 65536 % 256 := ⟨_, rfl⟩
  obtain ⟨g, hg⟩ : ∃ g, g = p / 256 % 256 := ⟨_, rfl⟩
  obtain ⟨b, hb⟩ : ∃ b, b = p % 256 := ⟨_, rfl⟩
  obtain ⟨a, ha⟩ : ∃ a, a = p / 16777216 := ⟨_, rfl⟩
  have cr : chOk r := by rw [hr]; exact ch_1 p
  have cg : chOk g := by rw [hg]; exact ch_2 p
  have cb : chOk b := by rw [hb]; exact ch_3 p
  have hV : dotV p x y = lev r t * 4096 + lev g t * 64 + lev b t := by rw [dotV_yes hp, ← ht, hr, hg, hb]; rfl
  rw [← hr, ← hg, ← hb, ← ha] at HU
  have hlr := lev_bd cr t0 t1
  have hlg := lev_bd cg t0 t1
  have hlb := lev_bd cb t0 t1
  have HR := Lib.hid (dlvI r t cr t0 t1)
  have HG := Lib.hid (dlvI g t cg t0 t1)
  have HB := Lib.hid (dlvI b t cb t0 t1)
  obtain ⟨l1, e1⟩ : ∃ l, l = lev r t := ⟨_, rfl⟩
  obtain ⟨l2, e2⟩ : ∃ l, l = lev g t := ⟨_, rfl⟩
  obtain ⟨l3, e3⟩ : ∃ l, l = lev b t := ⟨_, rfl⟩
  rw [← e1] at HR hV hlr
  rw [← e2] at HG hV hlg
  rw [← e3] at HB hV hlb
  obtain ⟨o2, o3⟩ := lev_join hlr hlg hlb
  have o1 : bits .or .i64 0 l1 = l1 := by have := or_join 6 0 l1 (by omega) (by omega) (by omega) (by omega) (by omega) (by omega); omega
  obtain ⟨a0, a1⟩ := hlr
  obtain ⟨b0, b1⟩ := hlg
  have HV := Lib.hid hV
  have HO2 := Lib.hid o2
  have HO3 := Lib.hid o3
  have Hp := Lib.hid hp
  clear hp ht hr hg hb ha cr cg cb hV e1 e2 e3 hlb o2 o3
  go_enter Tryz.func190, Tryz.ntmps190
  go_wp2_with fail
  refine (pixI_yes p Hp.out _).mono ?_
  rintro e w' ⟨rfl, rfl⟩
  go_wp2_with fail
  refine (HU.out _).mono ?_
  rintro e w1 ⟨rfl, h1⟩
  go_wp2_with fail
  refine (HT.out _).mono ?_
  rintro e w2 ⟨rfl, h2⟩
  have K := px_call h1 h2
  clear h1 h2
  have HK := Lib.hid K
  clear K
  go_wp2_with fail
  go_loopw [22, 9] (fun i d wr => ∃ k : Nat, k ≤ 3 ∧ i = .int .i64 k ∧ Hid (d = .int .i64 (if k = 0 then 0 else if k = 1 then l1 else if k = 2 then l1 * 64 + l2 else l1 * 4096 + l2 * 64 + l3)) ∧ ChAt wr w2.heap.size a r g b ∧ Below w.heap.size w wr) (fun i _ _ => 3 - (intOf i).toNat)
  case atStart => exact ⟨0, by omega, rfl, Lib.hid rfl, ChAt.new w2 a r g b, HK.out.alloc HK.out.size _⟩
  case round =>
   obtain ⟨k, hk, rfl, Hd, hC, K⟩ := hrel
   have hsz := hC.lt
   obtain ⟨d0, d1, d2, d3⟩ := hC.cells
   have HC := Lib.hid hC
   have HK2 := Lib.hid K
   clear hC K
   obtain rfl | rfl | rfl | rfl : k = 0 ∨ k = 1 ∨ k = 2 ∨ k = 3 := by omega
   ·obtain rfl := Hd.out
    go_wp2_with fail
    refine (HR.out _).mono ?_
    rintro e w3 ⟨rfl, rfl⟩
    go_wp2_with fail
    go_roundw
    case rel => exact ⟨1, by omega, rfl, Lib.hid rfl, HC.out, HK2.out⟩
    case measure => simp [intOf]
   ·obtain rfl := Hd.out
    have o2 := HO2.out
    go_wp2_with fail
    refine (HG.out _).mono ?_
    rintro e w3 ⟨rfl, rfl⟩
    go_wp2_with fail
    go_roundw
    case rel => exact ⟨2, by omega, rfl, Lib.hid rfl, HC.out, HK2.out⟩
    case measure => simp [intOf]
   ·obtain rfl := Hd.out
    have o3 := HO3.out
    go_wp2_with fail
    refine (HB.out _).mono ?_
    rintro e w3 ⟨rfl, rfl⟩
    go_wp2_with fail
    go_roundw
    case rel => exact ⟨3, by omega, rfl, Lib.hid rfl, HC.out, HK2.out⟩
    case measure => simp [intOf]
   ·obtain rfl := Hd.out
    go_wp2_with fail
    go_ret
    exact ⟨ret_int HV.out.symm, HK2.out⟩
 ·have HV : Hid (dotV p x y = -1) := Lib.hid (dotV_no hp _ _)
  have Hp := Lib.hid hp
  clear hp
  go_enter Tryz.func190, Tryz.ntmps190
  go_wp2_with fail
  refine (pixI_no p Hp.out _).mono ?_
  rintro e w' ⟨rfl, rfl⟩
  go_wp2_with fail
  go_ret
  exact ⟨ret_int HV.out.symm, Below.refl _ _⟩
theorem dpxS (p x y : Int) (w : World) : Calls Tryz.prog 188 #[.int .i64 p, .int .i64 x, .int .i64 y] w fun e w' => e = .returned (.int .i64 (dotV p x y)) ∧ w = w' := by
 by_cases hp : pixOk p
 ·obtain ⟨t0, t1⟩ := thr_bd x y
  have C1 := Lib.hid (chS_in p 1 hp (by omega) (by omega))
  have C2 := Lib.hid (chS_in p 2 hp (by omega) (by omega))
  have C3 := Lib.hid (chS_in p 3 hp (by omega) (by omega))
  rw [chan_1 hp] at C1
  rw [chan_2 hp] at C2
  rw [chan_3 hp] at C3
  have D1 := Lib.hid (dleS (p / 65536 % 256) x y)
  have D2 := Lib.hid (dleS (p / 256 % 256) x y)
  have D3 := Lib.hid (dleS (p % 256) x y)
  rw [levV_yes (ch_1 p)] at D1
  rw [levV_yes (ch_2 p)] at D2
  rw [levV_yes (ch_3 p)] at D3
  obtain ⟨a0, a1⟩ := lev_bd (ch_1 p) t0 t1
  obtain ⟨b0, b1⟩ := lev_bd (ch_2 p) t0 t1
  obtain ⟨c0, c1⟩ := lev_bd (ch_3 p) t0 t1
  have hV : dotV p x y = lev (p / 65536 % 256) (thr x y) * 4096 + lev (p / 256 % 256) (thr x y) * 64 + lev (p % 256) (thr x y) := by rw [dotV_yes hp]; rfl
  generalize lev (p / 65536 % 256) (thr x y) = l1 at *
  generalize lev (p / 256 % 256) (thr x y) = l2 at *
  generalize lev (p % 256) (thr x y) = l3 at *
  generalize p / 65536 % 256 = r at *
  generalize p / 256 % 256 = g at *
  generalize p % 256 = b at *
  have HV := Lib.hid hV
  have Hp := Lib.hid hp
  clear hp hV t0 t1
  go_enter Tryz.func188, Tryz.ntmps188
  go_wp2_with fail
  refine (pixS_yes p Hp.out _).mono ?_
  rintro e w' ⟨rfl, rfl⟩
  go_wp2_with fail
  refine (C1.out _).mono ?_
  rintro e w' ⟨rfl, rfl⟩
  go_wp2_with fail
  refine (D1.out _).mono ?_
  rintro e w' ⟨rfl, rfl⟩
  go_wp2_with fail
  refine (C2.out _).mono ?_
  rintro e w' ⟨rfl, rfl⟩
  go_wp2_with fail
  refine (D2.out _).mono ?_
  rintro e w' ⟨rfl, rfl⟩
  go_wp2_with fail
  refine (C3.out _).mono ?_
  rintro e w' ⟨rfl, rfl⟩
  go_wp2_with fail
  refine (D3.out _).mono ?_
  rintro e w' ⟨rfl, rfl⟩
  go_wp2_with fail
  go_ret
  exact ⟨ret_int HV.out.symm, rfl⟩
 ·have HV : Hid (dotV p x y = -1) := Lib.hid (dotV_no hp _ _)
  have Hp := Lib.hid hp
  clear hp
  go_enter Tryz.func188, Tryz.ntmps188
  go_wp2_with fail
  refine (pixS_no p Hp.out _).mono ?_
  rintro e w' ⟨rfl, rfl⟩
  go_wp2_with fail
  go_ret
  exact ⟨ret_int HV.out.symm, rfl⟩
end Go.Proofs.YtnndifemkichmaaGreat
