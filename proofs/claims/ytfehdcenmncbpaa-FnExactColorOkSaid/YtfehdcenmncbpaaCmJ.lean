/- The contracts of IdentityColor, of the program and of its model. No statement is proved here. -/
import Derived.Test.YtfehdcenmncbpaaRd
import Derived.Test.YtfehdcenmncbpaaIntR
import Derived.Test.YtfehdcenmncbpaaImR
import Derived.Test.YtfehdcenmncbpaaRectC
import Derived.Test.YtfehdcenmncbpaaPixM
import Derived.Test.YtfehdcenmncbpaaPixA
import Derived.Test.YtfehdcenmncbpaaImL
import Derived.Test.YtfehdcenmncbpaaColM
import Derived.Test.YtfehdcenmncbpaaImV
import Derived.Test.YtfehdcenmncbpaaBk
import Derived.Test.YtfehdcenmncbpaaCmB
import Derived.Test.YtfehdcenmncbpaaBlk4
import Derived.Test.YtfehdcenmncbpaaHasC
import Derived.Test.YtfehdcenmncbpaaRectEq
import Derived.Test.YtfehdcenmncbpaaRds
import Derived.Test.YtfehdcenmncbpaaCmP
import Derived.Test.YtfehdcenmncbpaaCmQ
import Derived.Test.YtfehdcenmncbpaaFilB
import Derived.Test.YtfehdcenmncbpaaCrpB
import Derived.Test.YtfehdcenmncbpaaLaw
import Derived.Test.YtfehdcenmncbpaaSclB
import Derived.Test.YtfehdcenmncbpaaProg
import Derived.WalkKit
import Derived.ProofKit
import Derived.OpenShut
import Derived.WalkLawsBesides
import Derived.WalkSpells
import Derived.ShutString
import Derived.ChangeOld
import Derived.Below
import Derived.Lib.Hide
import Derived.BigQuiet
import Derived.Deep.QuietTactic
import Derived.Maps.AppendAt
import Derived.Deep.OwnRows
import Derived.Handy
import Derived.Deep.Draws
import Derived.OwnWalk
import Derived.Deep.AppendLies
import Derived.Deep.LoopGhost
import Derived.Deep.Onto
import Derived.Laws.BitsAllLaws
import Derived.Lib.QuoteBits
import Derived.Test.YtfehdcenmncbpaaShelf
import Derived.Laws.CopyOwn
import Derived.Deep.RegionLaw
import Derived.Deep.RegionHeld3
import Derived.Deep.DeepCutAuto
import Derived.Great.BuildSlice
import Derived.Deep.MidRow
import Derived.Deep.WholeRow
import Derived.Laws.AppendOwn
import Derived.ChangeKeysEq
namespace Go.Proofs.Ytfehdcenmncbpaa
open Go.RowKit
theorem zeroCm (w : World) : (zeroValue 26).run Try.prog w = .ok (.agg #[.slice none 0 0, .slice none 0 0]) w := by kernel_rfl
/-- What answers a color map, its memory owned. -/
def CmAns (M C : List Int) (w : World) (e : Ending) (w' : World) : Prop :=
  ∃ u v, e = .returned (.agg #[u, v]) ∧ w'.ownsRow w.heap.size 3 1 u M.length (intCells M) ∧ w'.ownsRow w.heap.size 3 1 v C.length (intCells C) ∧ (∀ k, u.ownBlock = some k → v.ownBlock ≠ some k) ∧ Below w.heap.size w w'
/-- A slice of n zeros is made, in a free order. -/
theorem wp_makeI {op : Oper} {a : Act} {w : World} {K : Act → World → Prop} {Q : Exit → Act → World → Prop} (n d : Nat) (ho : op.op = .makeSlice 24 (.const (.int .i64 (n : Int))) (.const (.int .i64 (n : Int)))) (hd : op.dst = some d) (hn : n ≤ 1000)
    (h : ∀ g W', Below w.heap.size w W' → W'.ownsRow w.heap.size 3 1 (.slice (some ⟨g, 0, none⟩) n n) n (intCells (tabI n fun _ => 0)) → w.heap.size ≤ g → g < W'.heap.size → K (a.put (some d) (.slice (some ⟨g, 0, none⟩) n n)) W') : op.wp Try.prog a w K Q := by
  have hmk := run_make_row' (P := Try.prog) 24 3 (.int .i64 0) 8 Try.underlying24 infoInt rfl .i64 .i64 n (by omega) (by omega) w
  have hown : (w.alloc (.cells (madeCells #[.int .i64 0] n) 3)).ownsRow w.heap.size 3 1 (.slice (some ⟨w.heap.size, 0, none⟩) n n) n (intCells (tabI n fun _ => 0)) :=
    own_of_rowIs (World.rowIs_made _ _ _ _) (Nat.le_refl _) (by unfold maxLen; omega) (tabI_length _ _) (fun j x hx => by
      have hj : j < n := by have := (List.getElem?_eq_some_iff.1 hx).1; rwa [tabI_length] at this
      rw [tabI_get n _ j hj] at hx
      rw [← Option.some.inj hx])
  have h1 := h w.heap.size _ (belI_box w (.cells (madeCells #[.int .i64 0] n) 3)) hown (Nat.le_refl _) (by simp)
  unfold Oper.wp execOp
  simp only [ho, Act.eval, Sem.run_bind, hmk, Result.andThen_ok, Sem.run_pure]
  rw [← hd] at h1
  exact h1
/-- The program's identity while it is built: matrix and curve in rows of their own. -/
structure IdS (w : World) (b g1 g2 : Nat) (f1 f2 : Nat → Int) (V : World) : Prop where
  res : BkAt V w.heap.size 26 #[.slice none 0 0, .slice none 0 0]
  bk : BkAt V b 26 #[.slice (some ⟨g1, 0, none⟩) 9 9, .slice (some ⟨g2, 0, none⟩) 17 17]
  o1 : V.ownsRow (w.heap.size + 1) 3 1 (.slice (some ⟨g1, 0, none⟩) 9 9) 9 (intCells (tabI 9 f1))
  o2 : V.ownsRow (w.heap.size + 1) 3 1 (.slice (some ⟨g2, 0, none⟩) 17 17) 17 (intCells (tabI 17 f2))
  bw : Below w.heap.size w V
  n12 : g1 ≠ g2
  m1 : b ≠ g1
  m2 : b ≠ g2
  lo : w.heap.size < b
theorem IdS.set1 {w : World} {b g1 g2 : Nat} {f1 f2 : Nat → Int} {V : World} (h : IdS w b g1 g2 f1 f2 V) (k : Nat) (x : Int) (f : Nat → Int) (hf : ∀ j, j < 9 → (if j = k then x else f1 j) = f j) : IdS w b g1 g2 f f2 (V.setCell ⟨g1, k, none⟩ (.int .i64 x)) := by
  obtain ⟨p1, p2⟩ := ownI_put h.o1 k x
  rw [tabI_set, tabI_congr 9 hf] at p1
  have hg1 := (h.o1.lt g1 rfl).1
  exact ⟨h.res.far (by dsimp only; omega) _, h.bk.far (by dsimp only; exact h.m1) _, p1, h.o2.kept p2 (.inr (by simp only [Value.ownBlock]; exact fun e => h.n12 (Option.some.inj e).symm)), h.bw.setCell (by dsimp only; omega) _, h.n12, h.m1, h.m2, h.lo⟩
theorem IdS.set2 {w : World} {b g1 g2 : Nat} {f1 f2 : Nat → Int} {V : World} (h : IdS w b g1 g2 f1 f2 V) (k : Nat) (x : Int) (f : Nat → Int) (hf : ∀ j, j < 17 → (if j = k then x else f2 j) = f j) : IdS w b g1 g2 f1 f (V.setCell ⟨g2, k, none⟩ (.int .i64 x)) := by
  obtain ⟨p1, p2⟩ := ownI_put h.o2 k x
  rw [tabI_set, tabI_congr 17 hf] at p1
  have hg2 := (h.o2.lt g2 rfl).1
  exact ⟨h.res.far (by dsimp only; omega) _, h.bk.far (by dsimp only; exact h.m2) _, h.o1.kept p2 (.inr (by simp only [Value.ownBlock]; exact fun e => h.n12 (Option.some.inj e))), p1, h.bw.setCell (by dsimp only; omega) _, h.n12, h.m1, h.m2, h.lo⟩
def idF (k j : Nat) : Int := if j % 4 = 0 ∧ j / 4 < k then 256 else 0
def idG (k j : Nat) : Int := if j < k then 16 * (j : Int) else 0
theorem idF_all : tabI 9 (idF 3) = idM := Eq.symm <| tabI_ext (L := idM) (n := 9) rfl fun k x hx => by
  have hk : k < 9 := (List.getElem?_eq_some_iff.1 hx).1
  have : k = 0 ∨ k = 1 ∨ k = 2 ∨ k = 3 ∨ k = 4 ∨ k = 5 ∨ k = 6 ∨ k = 7 ∨ k = 8 := by omega
  rcases this with rfl | rfl | rfl | rfl | rfl | rfl | rfl | rfl | rfl <;> (injection hx with hx)
theorem idG_all : tabI 17 (idG 17) = idC := tabI_congr 17 fun _ hj => if_pos hj
theorem cm_ans {w V : World} {u v : Value} {M C : List Int} {B1 B2 n m : Nat} (h1 : V.ownsRow B1 3 1 u n (intCells M)) (h2 : V.ownsRow B2 3 1 v m (intCells C)) (e1 : M.length = n) (e2 : C.length = m) (b1 : w.heap.size < B1) (b2 : w.heap.size < B2) (hne : ∀ k, u.ownBlock = some k → v.ownBlock ≠ some k) (K : Below w.heap.size w V) :
    CmAns M C w (.returned (.agg #[u, v])) ((V.setCell ⟨w.heap.size, 0, none⟩ u).setCell ⟨w.heap.size, 1, none⟩ v) := by
  subst e1 e2
  have l1 := fun g hg => (h1.lt g hg).1
  have l2 := fun g hg => (h2.lt g hg).1
  exact ⟨u, v, rfl, ownI_far (ownI_far (h1.mono (by omega)) (fun g hg => by have := l1 g hg; dsimp only; omega) _) (fun g hg => by have := l1 g hg; dsimp only; omega) _,
    ownI_far (ownI_far (h2.mono (by omega)) (fun g hg => by have := l2 g hg; dsimp only; omega) _) (fun g hg => by have := l2 g hg; dsimp only; omega) _, hne, (K.setCell (by simp) _).setCell (by simp) _⟩
set_option maxHeartbeats 2000000 in
set_option maxRecDepth 10000 in
theorem idI (w : World) : Calls Try.prog 17 #[] w (CmAns idM idC w) := by
  obtain ⟨w0, hw0⟩ : ∃ W, W = w.alloc (.cells #[.slice none 0 0, .slice none 0 0] 26) := ⟨_, rfl⟩
  have HR : Hid (BkAt w0 w.heap.size 26 #[.slice none 0 0, .slice none 0 0]) := Lib.hid (by rw [hw0]; exact BkAt.new _ _ _)
  have Hb : Hid (Below w.heap.size w w0) := Lib.hid (by rw [hw0]; exact belI_box _ _)
  have Hz : Hid (w0.heap.size = w.heap.size + 1) := Lib.hid (by rw [hw0]; simp)
  have HW := Lib.hid hw0
  clear hw0
  go_enter Try.func17, Try.ntmps17
  go_upto_region 1 with fail
  rw [← HW.out]
  go_cut [1] (fun s1 wx => ∃ b g1 g2, s1 = .pointer (some ⟨b, 0, none⟩) ∧ IdS w b g1 g2 (idF 0) (idG 0) wx)
  case first =>
    refine wp_region_held_drew (S := fun W => Below w0.heap.size w0 W) (by kernel_rfl) (Below.refl _ _).drew (fun hS => ?_)
    refine wpAnyH_ready (rs := [0, 1, 3]) (by kernel_rfl) (by simp) ?_
    refine (AllReadyH.cons rfl (fun K hK => ?_) (AllReadyH.cons rfl (fun K hK => ?_) (AllReadyH.cons rfl (fun K hK => ?_) AllReadyH.nil)))
    · rw [if_pos (by kernel_rfl)]
      (try simp only [List.getElem_toArray]); (try simp only [List.getElem_cons_succ]); (try simp only [List.getElem_cons_zero])
      refine wp_makeI 9 4 rfl rfl (by omega) ?_
      intro g1 W' hb O1 ge1 lt1
      replace O1 := O1.mono hS.size
      refine hK.out _ _ (belI_call hS hb) (fun hS => ?_)
      clear hK
      (try simp only [Act.put]); (try simp only [List.setIfInBounds_toArray]); (try simp only [List.set_cons_zero, List.set_cons_succ])
      refine wpAnyH_ready (rs := [1, 3]) (by kernel_rfl) (by simp) ?_
      refine (AllReadyH.cons rfl (fun K hK => ?_) (AllReadyH.cons rfl (fun K hK => ?_) AllReadyH.nil))
      · rw [if_pos (by kernel_rfl)]
        (try simp only [List.getElem_toArray]); (try simp only [List.getElem_cons_succ]); (try simp only [List.getElem_cons_zero])
        refine wp_makeI 17 5 rfl rfl (by omega) ?_
        intro g2 W' hb O2 ge2 lt2
        have n12 : g1 ≠ g2 := by have := (O1.lt g1 rfl).2; omega
        replace O2 := O2.mono hS.size
        have O1 := ownI_call O1 hb
        refine hK.out _ _ (belI_call hS hb) (fun hS => ?_)
        clear hK
        (try simp only [Act.put]); (try simp only [List.setIfInBounds_toArray]); (try simp only [List.set_cons_zero, List.set_cons_succ])
        refine wpAnyH_take (i := 2) (v := .agg #[.slice (some ⟨g1, 0, none⟩) 9 9, .slice (some ⟨g2, 0, none⟩) 17 17]) rfl (by kernel_rfl) (by kernel_rfl) (by kernel_rfl) (fun _ _ _ h => h) (Or.inl ⟨by kernel_rfl, by intro w' hSw; (try dsimp only at hSw); go_simp⟩) (by assumption) ?_
        (try simp only [Act.put]); (try simp only [List.setIfInBounds_toArray]); (try simp only [List.set_cons_zero, List.set_cons_succ])
        refine wpAnyH_ready (rs := [3]) (by kernel_rfl) (by simp) ?_
        refine (AllReadyH.cons rfl (fun K hK => ?_) AllReadyH.nil)
        · rw [if_pos (by kernel_rfl)]
          (try simp only [List.getElem_toArray]); (try simp only [List.getElem_cons_succ]); (try simp only [List.getElem_cons_zero])
          refine wp_alloc_bk 26 #[.slice none 0 0, .slice none 0 0] zeroCm rfl 1 rfl ?_
          intro bB W' hb GB lB
          have kB := Nat.le_trans hS.size lB
          have m1 : bB ≠ g1 := by have := (O1.lt g1 rfl).2; omega
          have m2 : bB ≠ g2 := by have := (O2.lt g2 rfl).2; omega
          have O1 := ownI_call O1 hb
          have O2 := ownI_call O2 hb
          refine hK.out _ _ (belI_call hS hb) (fun hS => ?_)
          clear hK
          (try simp only [Act.put]); (try simp only [List.setIfInBounds_toArray]); (try simp only [List.set_cons_zero, List.set_cons_succ])
          refine wpAnyH_ready (rs := [4]) (by kernel_rfl) (by simp) ?_
          refine (AllReadyH.cons rfl (fun K hK => ?_) AllReadyH.nil)
          · rw [if_pos (by kernel_rfl)]
            (try simp only [List.getElem_toArray]); (try simp only [List.getElem_cons_succ]); (try simp only [List.getElem_cons_zero])
            refine wp_store_bk 26 (.tmp 1) (.tmp 6) rfl bB _ #[.slice none 0 0, .slice none 0 0] #[.slice (some ⟨g1, 0, none⟩) 9 9, .slice (some ⟨g2, 0, none⟩) 17 17] (by kernel_rfl) rfl (by simp [Value.oneCell']) rfl (by first | with_reducible rfl | (go_simp; done) | rfl) GB ?_
            intro W3 IB hgB
            replace O1 := O1.kept hgB (ownA_ne fun k hk => by have : g1 = k := (by simpa [Value.ownBlock] using hk); omega)
            replace O2 := O2.kept hgB (ownA_ne fun k hk => by have : g2 = k := (by simpa [Value.ownBlock] using hk); omega)
            skip
            refine hK.out _ _ (hS.grown hgB hS.size (fun k hk => by injection hk with hk; omega)) (fun hS => ?_)
            clear hK
            (try simp only [Act.put]); (try simp only [List.setIfInBounds_toArray]); (try simp only [List.set_cons_zero, List.set_cons_succ])
            refine wpAnyH_done (by kernel_rfl) ?_ _
            go_wp2_with fail
            go_meet
            case rel => exact ⟨bB, g1, g2, rfl, ⟨HR.out.call hS, IB, by rw [← Hz.out]; exact O1, by rw [← Hz.out]; exact O2, belI_call Hb.out hS, n12, m1, m2, by have := Hz.out; omega⟩⟩
      · rw [if_pos (by kernel_rfl)]
        (try simp only [List.getElem_toArray]); (try simp only [List.getElem_cons_succ]); (try simp only [List.getElem_cons_zero])
        refine wp_alloc_bk 26 #[.slice none 0 0, .slice none 0 0] zeroCm rfl 1 rfl ?_
        intro bB W' hb GB lB
        have kB := Nat.le_trans hS.size lB
        have m1 : bB ≠ g1 := by have := (O1.lt g1 rfl).2; omega
        have O1 := ownI_call O1 hb
        refine hK.out _ _ (belI_call hS hb) (fun hS => ?_)
        clear hK
        (try simp only [Act.put]); (try simp only [List.setIfInBounds_toArray]); (try simp only [List.set_cons_zero, List.set_cons_succ])
        refine wpAnyH_ready (rs := [1]) (by kernel_rfl) (by simp) ?_
        refine (AllReadyH.cons rfl (fun K hK => ?_) AllReadyH.nil)
        · rw [if_pos (by kernel_rfl)]
          (try simp only [List.getElem_toArray]); (try simp only [List.getElem_cons_succ]); (try simp only [List.getElem_cons_zero])
          refine wp_makeI 17 5 rfl rfl (by omega) ?_
          intro g2 W' hb O2 ge2 lt2
          have n12 : g1 ≠ g2 := by have := (O1.lt g1 rfl).2; omega
          have m2 : bB ≠ g2 := by have := (Array.getElem?_eq_some_iff.1 GB).1; omega
          replace O2 := O2.mono hS.size
          have O1 := ownI_call O1 hb
          have GB := blk_call GB hb
          refine hK.out _ _ (belI_call hS hb) (fun hS => ?_)
          clear hK
          (try simp only [Act.put]); (try simp only [List.setIfInBounds_toArray]); (try simp only [List.set_cons_zero, List.set_cons_succ])
          refine wpAnyH_take (i := 2) (v := .agg #[.slice (some ⟨g1, 0, none⟩) 9 9, .slice (some ⟨g2, 0, none⟩) 17 17]) rfl (by kernel_rfl) (by kernel_rfl) (by kernel_rfl) (fun _ _ _ h => h) (Or.inl ⟨by kernel_rfl, by intro w' hSw; (try dsimp only at hSw); go_simp⟩) (by assumption) ?_
          (try simp only [Act.put]); (try simp only [List.setIfInBounds_toArray]); (try simp only [List.set_cons_zero, List.set_cons_succ])
          refine wpAnyH_ready (rs := [4]) (by kernel_rfl) (by simp) ?_
          refine (AllReadyH.cons rfl (fun K hK => ?_) AllReadyH.nil)
          · rw [if_pos (by kernel_rfl)]
            (try simp only [List.getElem_toArray]); (try simp only [List.getElem_cons_succ]); (try simp only [List.getElem_cons_zero])
            refine wp_store_bk 26 (.tmp 1) (.tmp 6) rfl bB _ #[.slice none 0 0, .slice none 0 0] #[.slice (some ⟨g1, 0, none⟩) 9 9, .slice (some ⟨g2, 0, none⟩) 17 17] (by kernel_rfl) rfl (by simp [Value.oneCell']) rfl (by first | with_reducible rfl | (go_simp; done) | rfl) GB ?_
            intro W3 IB hgB
            replace O1 := O1.kept hgB (ownA_ne fun k hk => by have : g1 = k := (by simpa [Value.ownBlock] using hk); omega)
            skip
            replace O2 := O2.kept hgB (ownA_ne fun k hk => by have : g2 = k := (by simpa [Value.ownBlock] using hk); omega)
            refine hK.out _ _ (hS.grown hgB hS.size (fun k hk => by injection hk with hk; omega)) (fun hS => ?_)
            clear hK
            (try simp only [Act.put]); (try simp only [List.setIfInBounds_toArray]); (try simp only [List.set_cons_zero, List.set_cons_succ])
            refine wpAnyH_done (by kernel_rfl) ?_ _
            go_wp2_with fail
            go_meet
            case rel => exact ⟨bB, g1, g2, rfl, ⟨HR.out.call hS, IB, by rw [← Hz.out]; exact O1, by rw [← Hz.out]; exact O2, belI_call Hb.out hS, n12, m1, m2, by have := Hz.out; omega⟩⟩
    · rw [if_pos (by kernel_rfl)]
      (try simp only [List.getElem_toArray]); (try simp only [List.getElem_cons_succ]); (try simp only [List.getElem_cons_zero])
      refine wp_makeI 17 5 rfl rfl (by omega) ?_
      intro g2 W' hb O2 ge2 lt2
      replace O2 := O2.mono hS.size
      refine hK.out _ _ (belI_call hS hb) (fun hS => ?_)
      clear hK
      (try simp only [Act.put]); (try simp only [List.setIfInBounds_toArray]); (try simp only [List.set_cons_zero, List.set_cons_succ])
      refine wpAnyH_ready (rs := [0, 3]) (by kernel_rfl) (by simp) ?_
      refine (AllReadyH.cons rfl (fun K hK => ?_) (AllReadyH.cons rfl (fun K hK => ?_) AllReadyH.nil))
      · rw [if_pos (by kernel_rfl)]
        (try simp only [List.getElem_toArray]); (try simp only [List.getElem_cons_succ]); (try simp only [List.getElem_cons_zero])
        refine wp_makeI 9 4 rfl rfl (by omega) ?_
        intro g1 W' hb O1 ge1 lt1
        have n12 : g1 ≠ g2 := by have := (O2.lt g2 rfl).2; omega
        replace O1 := O1.mono hS.size
        have O2 := ownI_call O2 hb
        refine hK.out _ _ (belI_call hS hb) (fun hS => ?_)
        clear hK
        (try simp only [Act.put]); (try simp only [List.setIfInBounds_toArray]); (try simp only [List.set_cons_zero, List.set_cons_succ])
        refine wpAnyH_take (i := 2) (v := .agg #[.slice (some ⟨g1, 0, none⟩) 9 9, .slice (some ⟨g2, 0, none⟩) 17 17]) rfl (by kernel_rfl) (by kernel_rfl) (by kernel_rfl) (fun _ _ _ h => h) (Or.inl ⟨by kernel_rfl, by intro w' hSw; (try dsimp only at hSw); go_simp⟩) (by assumption) ?_
        (try simp only [Act.put]); (try simp only [List.setIfInBounds_toArray]); (try simp only [List.set_cons_zero, List.set_cons_succ])
        refine wpAnyH_ready (rs := [3]) (by kernel_rfl) (by simp) ?_
        refine (AllReadyH.cons rfl (fun K hK => ?_) AllReadyH.nil)
        · rw [if_pos (by kernel_rfl)]
          (try simp only [List.getElem_toArray]); (try simp only [List.getElem_cons_succ]); (try simp only [List.getElem_cons_zero])
          refine wp_alloc_bk 26 #[.slice none 0 0, .slice none 0 0] zeroCm rfl 1 rfl ?_
          intro bB W' hb GB lB
          have kB := Nat.le_trans hS.size lB
          have m1 : bB ≠ g1 := by have := (O1.lt g1 rfl).2; omega
          have m2 : bB ≠ g2 := by have := (O2.lt g2 rfl).2; omega
          have O2 := ownI_call O2 hb
          have O1 := ownI_call O1 hb
          refine hK.out _ _ (belI_call hS hb) (fun hS => ?_)
          clear hK
          (try simp only [Act.put]); (try simp only [List.setIfInBounds_toArray]); (try simp only [List.set_cons_zero, List.set_cons_succ])
          refine wpAnyH_ready (rs := [4]) (by kernel_rfl) (by simp) ?_
          refine (AllReadyH.cons rfl (fun K hK => ?_) AllReadyH.nil)
          · rw [if_pos (by kernel_rfl)]
            (try simp only [List.getElem_toArray]); (try simp only [List.getElem_cons_succ]); (try simp only [List.getElem_cons_zero])
            refine wp_store_bk 26 (.tmp 1) (.tmp 6) rfl bB _ #[.slice none 0 0, .slice none 0 0] #[.slice (some ⟨g1, 0, none⟩) 9 9, .slice (some ⟨g2, 0, none⟩) 17 17] (by kernel_rfl) rfl (by simp [Value.oneCell']) rfl (by first | with_reducible rfl | (go_simp; done) | rfl) GB ?_
            intro W3 IB hgB
            replace O2 := O2.kept hgB (ownA_ne fun k hk => by have : g2 = k := (by simpa [Value.ownBlock] using hk); omega)
            replace O1 := O1.kept hgB (ownA_ne fun k hk => by have : g1 = k := (by simpa [Value.ownBlock] using hk); omega)
            skip
            refine hK.out _ _ (hS.grown hgB hS.size (fun k hk => by injection hk with hk; omega)) (fun hS => ?_)
            clear hK
            (try simp only [Act.put]); (try simp only [List.setIfInBounds_toArray]); (try simp only [List.set_cons_zero, List.set_cons_succ])
            refine wpAnyH_done (by kernel_rfl) ?_ _
            go_wp2_with fail
            go_meet
            case rel => exact ⟨bB, g1, g2, rfl, ⟨HR.out.call hS, IB, by rw [← Hz.out]; exact O1, by rw [← Hz.out]; exact O2, belI_call Hb.out hS, n12, m1, m2, by have := Hz.out; omega⟩⟩
      · rw [if_pos (by kernel_rfl)]
        (try simp only [List.getElem_toArray]); (try simp only [List.getElem_cons_succ]); (try simp only [List.getElem_cons_zero])
        refine wp_alloc_bk 26 #[.slice none 0 0, .slice none 0 0] zeroCm rfl 1 rfl ?_
        intro bB W' hb GB lB
        have kB := Nat.le_trans hS.size lB
        have m2 : bB ≠ g2 := by have := (O2.lt g2 rfl).2; omega
        have O2 := ownI_call O2 hb
        refine hK.out _ _ (belI_call hS hb) (fun hS => ?_)
        clear hK
        (try simp only [Act.put]); (try simp only [List.setIfInBounds_toArray]); (try simp only [List.set_cons_zero, List.set_cons_succ])
        refine wpAnyH_ready (rs := [0]) (by kernel_rfl) (by simp) ?_
        refine (AllReadyH.cons rfl (fun K hK => ?_) AllReadyH.nil)
        · rw [if_pos (by kernel_rfl)]
          (try simp only [List.getElem_toArray]); (try simp only [List.getElem_cons_succ]); (try simp only [List.getElem_cons_zero])
          refine wp_makeI 9 4 rfl rfl (by omega) ?_
          intro g1 W' hb O1 ge1 lt1
          have n12 : g1 ≠ g2 := by have := (O2.lt g2 rfl).2; omega
          have m1 : bB ≠ g1 := by have := (Array.getElem?_eq_some_iff.1 GB).1; omega
          replace O1 := O1.mono hS.size
          have O2 := ownI_call O2 hb
          have GB := blk_call GB hb
          refine hK.out _ _ (belI_call hS hb) (fun hS => ?_)
          clear hK
          (try simp only [Act.put]); (try simp only [List.setIfInBounds_toArray]); (try simp only [List.set_cons_zero, List.set_cons_succ])
          refine wpAnyH_take (i := 2) (v := .agg #[.slice (some ⟨g1, 0, none⟩) 9 9, .slice (some ⟨g2, 0, none⟩) 17 17]) rfl (by kernel_rfl) (by kernel_rfl) (by kernel_rfl) (fun _ _ _ h => h) (Or.inl ⟨by kernel_rfl, by intro w' hSw; (try dsimp only at hSw); go_simp⟩) (by assumption) ?_
          (try simp only [Act.put]); (try simp only [List.setIfInBounds_toArray]); (try simp only [List.set_cons_zero, List.set_cons_succ])
          refine wpAnyH_ready (rs := [4]) (by kernel_rfl) (by simp) ?_
          refine (AllReadyH.cons rfl (fun K hK => ?_) AllReadyH.nil)
          · rw [if_pos (by kernel_rfl)]
            (try simp only [List.getElem_toArray]); (try simp only [List.getElem_cons_succ]); (try simp only [List.getElem_cons_zero])
            refine wp_store_bk 26 (.tmp 1) (.tmp 6) rfl bB _ #[.slice none 0 0, .slice none 0 0] #[.slice (some ⟨g1, 0, none⟩) 9 9, .slice (some ⟨g2, 0, none⟩) 17 17] (by kernel_rfl) rfl (by simp [Value.oneCell']) rfl (by first | with_reducible rfl | (go_simp; done) | rfl) GB ?_
            intro W3 IB hgB
            replace O2 := O2.kept hgB (ownA_ne fun k hk => by have : g2 = k := (by simpa [Value.ownBlock] using hk); omega)
            skip
            replace O1 := O1.kept hgB (ownA_ne fun k hk => by have : g1 = k := (by simpa [Value.ownBlock] using hk); omega)
            refine hK.out _ _ (hS.grown hgB hS.size (fun k hk => by injection hk with hk; omega)) (fun hS => ?_)
            clear hK
            (try simp only [Act.put]); (try simp only [List.setIfInBounds_toArray]); (try simp only [List.set_cons_zero, List.set_cons_succ])
            refine wpAnyH_done (by kernel_rfl) ?_ _
            go_wp2_with fail
            go_meet
            case rel => exact ⟨bB, g1, g2, rfl, ⟨HR.out.call hS, IB, by rw [← Hz.out]; exact O1, by rw [← Hz.out]; exact O2, belI_call Hb.out hS, n12, m1, m2, by have := Hz.out; omega⟩⟩
    · rw [if_pos (by kernel_rfl)]
      (try simp only [List.getElem_toArray]); (try simp only [List.getElem_cons_succ]); (try simp only [List.getElem_cons_zero])
      refine wp_alloc_bk 26 #[.slice none 0 0, .slice none 0 0] zeroCm rfl 1 rfl ?_
      intro bB W' hb GB lB
      have kB := Nat.le_trans hS.size lB
      refine hK.out _ _ (belI_call hS hb) (fun hS => ?_)
      clear hK
      (try simp only [Act.put]); (try simp only [List.setIfInBounds_toArray]); (try simp only [List.set_cons_zero, List.set_cons_succ])
      refine wpAnyH_ready (rs := [0, 1]) (by kernel_rfl) (by simp) ?_
      refine (AllReadyH.cons rfl (fun K hK => ?_) (AllReadyH.cons rfl (fun K hK => ?_) AllReadyH.nil))
      · rw [if_pos (by kernel_rfl)]
        (try simp only [List.getElem_toArray]); (try simp only [List.getElem_cons_succ]); (try simp only [List.getElem_cons_zero])
        refine wp_makeI 9 4 rfl rfl (by omega) ?_
        intro g1 W' hb O1 ge1 lt1
        have m1 : bB ≠ g1 := by have := (Array.getElem?_eq_some_iff.1 GB).1; omega
        replace O1 := O1.mono hS.size
        have GB := blk_call GB hb
        refine hK.out _ _ (belI_call hS hb) (fun hS => ?_)
        clear hK
        (try simp only [Act.put]); (try simp only [List.setIfInBounds_toArray]); (try simp only [List.set_cons_zero, List.set_cons_succ])
        refine wpAnyH_ready (rs := [1]) (by kernel_rfl) (by simp) ?_
        refine (AllReadyH.cons rfl (fun K hK => ?_) AllReadyH.nil)
        · rw [if_pos (by kernel_rfl)]
          (try simp only [List.getElem_toArray]); (try simp only [List.getElem_cons_succ]); (try simp only [List.getElem_cons_zero])
          refine wp_makeI 17 5 rfl rfl (by omega) ?_
          intro g2 W' hb O2 ge2 lt2
          have n12 : g1 ≠ g2 := by have := (O1.lt g1 rfl).2; omega
          have m2 : bB ≠ g2 := by have := (Array.getElem?_eq_some_iff.1 GB).1; omega
          replace O2 := O2.mono hS.size
          have GB := blk_call GB hb
          have O1 := ownI_call O1 hb
          refine hK.out _ _ (belI_call hS hb) (fun hS => ?_)
          clear hK
          (try simp only [Act.put]); (try simp only [List.setIfInBounds_toArray]); (try simp only [List.set_cons_zero, List.set_cons_succ])
          refine wpAnyH_take (i := 2) (v := .agg #[.slice (some ⟨g1, 0, none⟩) 9 9, .slice (some ⟨g2, 0, none⟩) 17 17]) rfl (by kernel_rfl) (by kernel_rfl) (by kernel_rfl) (fun _ _ _ h => h) (Or.inl ⟨by kernel_rfl, by intro w' hSw; (try dsimp only at hSw); go_simp⟩) (by assumption) ?_
          (try simp only [Act.put]); (try simp only [List.setIfInBounds_toArray]); (try simp only [List.set_cons_zero, List.set_cons_succ])
          refine wpAnyH_ready (rs := [4]) (by kernel_rfl) (by simp) ?_
          refine (AllReadyH.cons rfl (fun K hK => ?_) AllReadyH.nil)
          · rw [if_pos (by kernel_rfl)]
            (try simp only [List.getElem_toArray]); (try simp only [List.getElem_cons_succ]); (try simp only [List.getElem_cons_zero])
            refine wp_store_bk 26 (.tmp 1) (.tmp 6) rfl bB _ #[.slice none 0 0, .slice none 0 0] #[.slice (some ⟨g1, 0, none⟩) 9 9, .slice (some ⟨g2, 0, none⟩) 17 17] (by kernel_rfl) rfl (by simp [Value.oneCell']) rfl (by first | with_reducible rfl | (go_simp; done) | rfl) GB ?_
            intro W3 IB hgB
            skip
            replace O1 := O1.kept hgB (ownA_ne fun k hk => by have : g1 = k := (by simpa [Value.ownBlock] using hk); omega)
            replace O2 := O2.kept hgB (ownA_ne fun k hk => by have : g2 = k := (by simpa [Value.ownBlock] using hk); omega)
            refine hK.out _ _ (hS.grown hgB hS.size (fun k hk => by injection hk with hk; omega)) (fun hS => ?_)
            clear hK
            (try simp only [Act.put]); (try simp only [List.setIfInBounds_toArray]); (try simp only [List.set_cons_zero, List.set_cons_succ])
            refine wpAnyH_done (by kernel_rfl) ?_ _
            go_wp2_with fail
            go_meet
            case rel => exact ⟨bB, g1, g2, rfl, ⟨HR.out.call hS, IB, by rw [← Hz.out]; exact O1, by rw [← Hz.out]; exact O2, belI_call Hb.out hS, n12, m1, m2, by have := Hz.out; omega⟩⟩
      · rw [if_pos (by kernel_rfl)]
        (try simp only [List.getElem_toArray]); (try simp only [List.getElem_cons_succ]); (try simp only [List.getElem_cons_zero])
        refine wp_makeI 17 5 rfl rfl (by omega) ?_
        intro g2 W' hb O2 ge2 lt2
        have m2 : bB ≠ g2 := by have := (Array.getElem?_eq_some_iff.1 GB).1; omega
        replace O2 := O2.mono hS.size
        have GB := blk_call GB hb
        refine hK.out _ _ (belI_call hS hb) (fun hS => ?_)
        clear hK
        (try simp only [Act.put]); (try simp only [List.setIfInBounds_toArray]); (try simp only [List.set_cons_zero, List.set_cons_succ])
        refine wpAnyH_ready (rs := [0]) (by kernel_rfl) (by simp) ?_
        refine (AllReadyH.cons rfl (fun K hK => ?_) AllReadyH.nil)
        · rw [if_pos (by kernel_rfl)]
          (try simp only [List.getElem_toArray]); (try simp only [List.getElem_cons_succ]); (try simp only [List.getElem_cons_zero])
          refine wp_makeI 9 4 rfl rfl (by omega) ?_
          intro g1 W' hb O1 ge1 lt1
          have n12 : g1 ≠ g2 := by have := (O2.lt g2 rfl).2; omega
          have m1 : bB ≠ g1 := by have := (Array.getElem?_eq_some_iff.1 GB).1; omega
          replace O1 := O1.mono hS.size
          have GB := blk_call GB hb
          have O2 := ownI_call O2 hb
          refine hK.out _ _ (belI_call hS hb) (fun hS => ?_)
          clear hK
          (try simp only [Act.put]); (try simp only [List.setIfInBounds_toArray]); (try simp only [List.set_cons_zero, List.set_cons_succ])
          refine wpAnyH_take (i := 2) (v := .agg #[.slice (some ⟨g1, 0, none⟩) 9 9, .slice (some ⟨g2, 0, none⟩) 17 17]) rfl (by kernel_rfl) (by kernel_rfl) (by kernel_rfl) (fun _ _ _ h => h) (Or.inl ⟨by kernel_rfl, by intro w' hSw; (try dsimp only at hSw); go_simp⟩) (by assumption) ?_
          (try simp only [Act.put]); (try simp only [List.setIfInBounds_toArray]); (try simp only [List.set_cons_zero, List.set_cons_succ])
          refine wpAnyH_ready (rs := [4]) (by kernel_rfl) (by simp) ?_
          refine (AllReadyH.cons rfl (fun K hK => ?_) AllReadyH.nil)
          · rw [if_pos (by kernel_rfl)]
            (try simp only [List.getElem_toArray]); (try simp only [List.getElem_cons_succ]); (try simp only [List.getElem_cons_zero])
            refine wp_store_bk 26 (.tmp 1) (.tmp 6) rfl bB _ #[.slice none 0 0, .slice none 0 0] #[.slice (some ⟨g1, 0, none⟩) 9 9, .slice (some ⟨g2, 0, none⟩) 17 17] (by kernel_rfl) rfl (by simp [Value.oneCell']) rfl (by first | with_reducible rfl | (go_simp; done) | rfl) GB ?_
            intro W3 IB hgB
            skip
            replace O2 := O2.kept hgB (ownA_ne fun k hk => by have : g2 = k := (by simpa [Value.ownBlock] using hk); omega)
            replace O1 := O1.kept hgB (ownA_ne fun k hk => by have : g1 = k := (by simpa [Value.ownBlock] using hk); omega)
            refine hK.out _ _ (hS.grown hgB hS.size (fun k hk => by injection hk with hk; omega)) (fun hS => ?_)
            clear hK
            (try simp only [Act.put]); (try simp only [List.setIfInBounds_toArray]); (try simp only [List.set_cons_zero, List.set_cons_succ])
            refine wpAnyH_done (by kernel_rfl) ?_ _
            go_wp2_with fail
            go_meet
            case rel => exact ⟨bB, g1, g2, rfl, ⟨HR.out.call hS, IB, by rw [← Hz.out]; exact O1, by rw [← Hz.out]; exact O2, belI_call Hb.out hS, n12, m1, m2, by have := Hz.out; omega⟩⟩
  case rest =>
    obtain ⟨b, g1, g2, rfl, hI⟩ := hcut
    have HI := Lib.hid hI
    clear hI
    go_wp2_with fail
    go_loopw [7] (fun i wr => ∃ k : Nat, k ≤ 3 ∧ i = .int .i64 k ∧ IdS w b g1 g2 (idF k) (idG 0) wr) (fun i _ => 3 - (intOf i).toNat)
    case atStart => exact ⟨0, by omega, rfl, HI.out⟩
    case round =>
      obtain ⟨k, hk, rfl, hI⟩ := hrel
      have d0 := hI.bk.cell 0 rfl
      by_cases hkl : k < 3
      · have c0 : wr.cell? ⟨g1, 4 * k, none⟩ = some (.int .i64 0) := by
          rw [hI.o1.cellAt (4 * k) (by omega), intCells_get, tabI_get 9 _ (4 * k) (by omega)]
          unfold idF; rw [if_neg (by omega)]; rfl
        have f0 := hI.o1.frozenAt (4 * k)
        have HI2 := Lib.hid (hI.set1 (4 * k) 256 (idF (k + 1)) (fun j hj => by unfold idF; by_cases e : j = 4 * k <;> by_cases e2 : j % 4 = 0 ∧ j / 4 < k <;> by_cases e3 : j % 4 = 0 ∧ j / 4 < k + 1 <;> simp only [e, e2, e3, if_true, if_false] <;> omega))
        clear hI
        obtain rfl | rfl | rfl : k = 0 ∨ k = 1 ∨ k = 2 := by omega
        all_goals
          go_wp2_with fail
          go_roundw
        · exact ⟨1, by omega, rfl, HI2.out⟩
        · simp [intOf]
        · exact ⟨2, by omega, rfl, HI2.out⟩
        · simp [intOf]
        · exact ⟨3, by omega, rfl, HI2.out⟩
        · simp [intOf]
      · have hI3 : IdS w b g1 g2 (idF 3) (idG 0) wr := (show k = 3 by omega) ▸ hI
        have hk3 : ¬ (k : Int) < 3 := by omega
        have d1 := hI.bk.cell 1 rfl
        have HI3 := Lib.hid hI3
        clear hI hI3 hkl
        go_wp2_with fail
        go_loopw [21] (fun i wr => ∃ k : Nat, k ≤ 17 ∧ i = .int .i64 k ∧ IdS w b g1 g2 (idF 3) (idG k) wr) (fun i _ => 17 - (intOf i).toNat)
        case atStart => exact ⟨0, by omega, rfl, HI3.out⟩
        case round =>
          clear d0 d1
          obtain ⟨j, hj, rfl, hI⟩ := hrel
          have d1 := hI.bk.cell 1 rfl
          by_cases hjl : j < 17
          · have c0 : wr.cell? ⟨g2, j, none⟩ = some (.int .i64 0) := by
              rw [hI.o2.cellAt j (by omega), intCells_get, tabI_get 17 _ j (by omega)]
              unfold idG; rw [if_neg (by omega)]; rfl
            have f0 := hI.o2.frozenAt j
            have HI2 := Lib.hid (hI.set2 j (16 * (j : Int)) (idG (j + 1)) (fun i hi => by unfold idG; by_cases e : i = j <;> by_cases e2 : i < j <;> by_cases e3 : i < j + 1 <;> simp only [e, e2, e3, if_true, if_false] <;> omega))
            have j0 : (0 : Int) ≤ (j : Int) := by omega
            have j1 : (j : Int) < 17 := by omega
            clear hI
            go_wp2_with fail
            go_roundw
            case rel => exact ⟨j + 1, by omega, by go_num, HI2.out⟩
            case measure => simp [intOf]; omega
          · have hI4 : IdS w b g1 g2 (idF 3) (idG 17) wr := (show j = 17 by omega) ▸ hI
            have hj3 : ¬ (j : Int) < 17 := by omega
            have d0 := hI4.bk.cell 0 rfl
            have r0 := hI4.res.cell 0 rfl
            have r1 := hI4.res.cell 1 rfl
            have f0 := hI4.res.frozen 0
            have f1 := hI4.res.frozen 1
            have HJ := Lib.hid ((hI4.res.set 0 (.slice (some ⟨g1, 0, none⟩) 9 9)).set 1 (.slice (some ⟨g2, 0, none⟩) 17 17))
            have HI4 := Lib.hid hI4
            clear hI hI4 hjl
            go_wp2_with fail
            have s0 := HJ.out.cell 0 rfl
            have s1 := HJ.out.cell 1 rfl
            refine bodyPost_ret (v := .agg #[.slice (some ⟨g1, 0, none⟩) 9 9, .slice (some ⟨g2, 0, none⟩) 17 17]) (by simp [results, Try.results17, go_sem, s0, s1]) rfl ?_
            have h1 := HI4.out.o1
            have h2 := HI4.out.o2
            rw [idF_all] at h1
            rw [idG_all] at h2
            have hne : ∀ k, (Value.slice (some ⟨g1, 0, none⟩) 9 9).ownBlock = some k → (Value.slice (some ⟨g2, 0, none⟩) 17 17).ownBlock ≠ some k := by
              intro k hk e
              have hk2 : g1 = k := by simpa [Value.ownBlock] using hk
              have e2 : g2 = k := by simpa [Value.ownBlock] using e
              exact HI4.out.n12 (hk2.trans e2.symm)
            exact cm_ans h1 h2 rfl rfl (by omega) (by omega) hne HI4.out.bw
/-- The model's identity while it is built. -/
structure IdT (w : World) (v : Value) (k : Nat) (V : World) : Prop where
  res : BkAt V w.heap.size 26 #[.slice none 0 0, .slice none 0 0]
  bk : BkAt V (w.heap.size + 2) 26 #[.slice (some ⟨w.heap.size + 1, 0, none⟩) 9 9, v]
  o1 : V.ownsRow (w.heap.size + 1) 3 1 (.slice (some ⟨w.heap.size + 1, 0, none⟩) 9 9) 9 (intCells idM)
  own : V.ownsRow (w.heap.size + 3) 3 1 v k (intCells (tabI k fun j => 16 * (j : Int)))
  bw : Below w.heap.size w V
theorem IdT.mid {w : World} {v : Value} {k : Nat} {V V' : World} {x : Value} (h : IdT w v k V) (hg : (V.alloc (.cells #[x] 3)).grownBy V' v.ownBlock) : BkAt V' (w.heap.size + 2) 26 #[.slice (some ⟨w.heap.size + 1, 0, none⟩) 9 9, v] :=
  (h.bk.alloc _).grown hg (fun e => by have := (h.own.lt _ e.symm).1; omega)
theorem IdT.next {w : World} {v v' : Value} {k : Nat} {V V' : World} {x : Value} (h : IdT w v k V) (ho : V'.ownsRow (w.heap.size + 3) 3 1 v' (k + 1) (intCells (tabI k fun j => 16 * (j : Int)) ++ #[.int .i64 (16 * (k : Int))].toList)) (hg : (V.alloc (.cells #[x] 3)).grownBy V' v.ownBlock) :
    IdT w v' (k + 1) (V'.setCell ⟨w.heap.size + 2, 1, none⟩ v') := by
  have hlt := fun g hg => (h.own.lt g hg).1
  have hm := h.mid hg
  have hr := (h.res.alloc (.cells #[x] 3)).grown hg (fun e => by have := hlt _ e.symm; omega)
  have hw := (h.bw.alloc h.bw.size (.cells #[x] 3)).grown hg (by have := h.bw.size; simp; omega) (fun k hk => by have := hlt _ hk; omega)
  have h1 := (h.o1.alloc (.cells #[x] 3)).kept hg (.inr (fun e => by have := hlt _ e.symm; dsimp only at this; omega))
  have hq : intCells (tabI k fun j => 16 * (j : Int)) ++ #[.int .i64 (16 * (k : Int))].toList = intCells (tabI (k + 1) fun j => 16 * (j : Int)) := by rw [tabI_succ, intCells_append]; rfl
  rw [hq] at ho
  have hlt2 := fun g hg => (ho.lt g hg).1
  have hne : ∀ g, (Value.slice (some ⟨w.heap.size + 1, 0, none⟩) 9 9).ownBlock = some g → g ≠ (⟨w.heap.size + 2, 1, none⟩ : Addr).block := by
    intro g hg
    have hg2 : w.heap.size + 1 = g := by simpa [Value.ownBlock] using hg
    dsimp only
    omega
  exact ⟨hr.far (by dsimp only; omega) _, hm.set 1 v', ownI_far h1 hne _, ownI_far ho (fun g hg => by have := hlt2 g hg; dsimp only; omega) _, hw.setCell (by dsimp only; omega) _⟩
set_option maxHeartbeats 1000000 in
set_option maxRecDepth 10000 in
theorem idSp (w : World) : Calls Try.prog 27 #[] w (CmAns idM idC w) := by
  obtain ⟨i0, hi, hz0, hz1, hz2⟩ := info_parts infoInt
  have hS0 : IdT w (.slice none 0 0) 0 (((w.alloc (.cells #[.slice none 0 0, .slice none 0 0] 26)).alloc (.cells #[.int .i64 256, .int .i64 0, .int .i64 0, .int .i64 0, .int .i64 256, .int .i64 0, .int .i64 0, .int .i64 0, .int .i64 256] 3)).alloc (.cells #[.slice (some ⟨w.heap.size + 1, 0, none⟩) 9 9, .slice none 0 0] 26)) := by
    refine ⟨((BkAt.new _ _ _).alloc _).alloc _, BkAt.newAt (by simp) _ _, ?_, World.ownsRow_nil _ _ _ _, belI_call (belI_call (belI_box _ _) (belI_box _ _)) (belI_box _ _)⟩
    have hsz : (w.alloc (.cells #[.slice none 0 0, .slice none 0 0] 26)).heap.size = w.heap.size + 1 := by simp
    have h := World.rowIs_alloc (w.alloc (.cells #[.slice none 0 0, .slice none 0 0] 26)) #[.int .i64 256, .int .i64 0, .int .i64 0, .int .i64 0, .int .i64 256, .int .i64 0, .int .i64 0, .int .i64 0, .int .i64 256] 3 (fun j => .int .i64 (idM.getD j 0)) (fun i hi => by
      have : i = 0 ∨ i = 1 ∨ i = 2 ∨ i = 3 ∨ i = 4 ∨ i = 5 ∨ i = 6 ∨ i = 7 ∨ i = 8 := by simp at hi; omega
      rcases this with rfl | rfl | rfl | rfl | rfl | rfl | rfl | rfl | rfl <;> rfl)
    rw [hsz] at h
    exact (own_of_rowIs h (Nat.le_refl _) (by unfold maxLen; simp) rfl (fun j x hx => by rw [List.getD_eq_getElem?_getD, hx]; rfl)).alloc _
  go_enter Try.func27, Try.ntmps27
  go_wp2_with fail
  go_loopw [2] (fun s wr => ∃ (k : Nat) (v : Value), k ≤ 17 ∧ s = .int .i64 k ∧ IdT w v k wr) (fun s _ => 17 - (intOf s).toNat)
  case atStart => exact ⟨0, _, Nat.zero_le _, rfl, hS0⟩
  case round =>
    clear hS0
    obtain ⟨k, v, hk, rfl, hS⟩ := hrel
    obtain ⟨A, c, hv⟩ := ownI_shape hS.own
    subst hv
    have c0 := hS.bk.cell 0 rfl
    have c1 := hS.bk.cell 1 rfl
    by_cases hlt : k < 17
    · have k1 : (k : Int) < 17 := by omega
      have k0 : (0 : Int) ≤ (k : Int) := by omega
      go_wp2_with (at_builtin; refine wpList_append_own _ rfl _ _ 24 rfl (w.heap.size + 3) 3 i0 (.int .i64 0) 1 8 Try.underlying24 hi hz0 hz1 hz2 rfl (by decide) _ _ _ rfl (hS.own.alloc _) ⟨_, 0, none⟩ 1 1 _ rfl rfl (World.news_of_block (cs := #[.int .i64 (16 * (k : Int))]) (fr := (0, 0)) (heap_alloc_new _ _)) (by intro u hu; simp at hu; subst hu; rfl) (by unfold maxLen; omega) (by omega) (by have := hS.bk.lt; simp; omega) ?_)
      intro v2 w2 hown2 hgrow _
      obtain ⟨gq, cq, hvq, _, _⟩ := hown2.form (by omega)
      subst hvq
      have hM := hS.mid hgrow
      have d1 := hM.cell 1 rfl
      have f1 := hM.frozen 1
      have hS := hS.next hown2 hgrow
      clear hown2 hgrow c0 c1 hM
      go_wp2_with fail
      go_roundw
      case rel => exact ⟨k + 1, _, by omega, by go_num, hS⟩
      case measure => simp [intOf]; omega
    · have hk3 : ¬ (k : Int) < 17 := by omega
      obtain rfl : k = 17 := by omega
      have r0 := hS.res.cell 0 rfl
      have r1 := hS.res.cell 1 rfl
      have f0 := hS.res.frozen 0
      have f1 := hS.res.frozen 1
      have HJ := Lib.hid ((hS.res.set 0 (.slice (some ⟨w.heap.size + 1, 0, none⟩) 9 9)).set 1 (.slice A 17 c))
      have HS := Lib.hid hS
      clear hS
      go_wp2_with fail
      have s0 := HJ.out.cell 0 rfl
      have s1 := HJ.out.cell 1 rfl
      refine bodyPost_ret (v := .agg #[.slice (some ⟨w.heap.size + 1, 0, none⟩) 9 9, .slice A 17 c]) (by simp [results, Try.results27, go_sem, s0, s1]) rfl ?_
      have hne : ∀ k, (Value.slice (some ⟨w.heap.size + 1, 0, none⟩) 9 9).ownBlock = some k → (Value.slice A 17 c).ownBlock ≠ some k := by
        intro k hk e
        have hk2 : w.heap.size + 1 = k := by simpa [Value.ownBlock] using hk
        have := (HS.out.own.lt _ e).1
        omega
      exact cm_ans HS.out.o1 HS.out.own rfl (tabI_length _ _) (by omega) (by omega) hne HS.out.bw
end Go.Proofs.Ytfehdcenmncbpaa
