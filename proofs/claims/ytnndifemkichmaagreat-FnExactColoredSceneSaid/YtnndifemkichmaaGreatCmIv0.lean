/- The contracts of ColorImage, of the program and of its model. No statement is proved here. -/
import Derived.Test.YtnndifemkichmaaGreatMA
import Derived.Test.YtnndifemkichmaaGreatMAv0
import Derived.Test.YtnndifemkichmaaGreatMB
import Derived.Test.YtnndifemkichmaaGreatMBv0
import Derived.Test.YtnndifemkichmaaGreatCmQv0
import Derived.Test.YtnndifemkichmaaGreatProg
import Derived.WalkKit
import Derived.ProofKit
import Derived.OpenShut
import Derived.WalkLawsBesides
import Derived.WalkSpells
import Derived.ShutString
import Derived.ChangeOld
import Derived.Below
import Derived.Lib.Hide
import Derived.BigQuiet
import Derived.Deep.QuietTactic
import Derived.Maps.AppendAt
import Derived.Deep.OwnRows
import Derived.Handy
import Derived.Deep.Draws
import Derived.OwnWalk
import Derived.Deep.AppendLies
import Derived.Deep.LoopGhost
import Derived.Deep.Onto
import Derived.Laws.BitsAllLaws
import Derived.Lib.QuoteBits
import Derived.Test.YtnndifemkichmaaGreatShelf
import Derived.Laws.CopyOwn
import Derived.Deep.RegionLaw
import Derived.Deep.RegionHeld3
import Derived.Deep.DeepCutAuto
import Derived.Great.BuildSlice
import Derived.Deep.MidRow
import Derived.Deep.WholeRow
import Derived.Laws.AppendOwn
import Derived.ChangeKeysEq
namespace Go.Proofs.YtnndifemkichmaaGreat
open Go.RowKit
structure CiB (w : World) (u v : Value) (M C : List Int) (X Y : Int) (vi : Value) (L : List Int) (V : World) : Prop where
 cm : CmB w.heap.size u v M C V
 a : ImAt V (w.heap.size + 1) 70 X Y vi
 r : ImAt V (w.heap.size + 2) 70 0 0 (.slice none 0 0)
 rd : RdI V vi L
 bw : Below w.heap.size w V
theorem CiB.call {w : World} {u v : Value} {M C : List Int} {X Y : Int} {vi : Value} {L : List Int} {V V' : World} (h : CiB w u v M C X Y vi L V) (hb : Below V.heap.size V V') : CiB w u v M C X Y vi L V' := ⟨h.cm.call hb, h.a.call hb, h.r.call hb, h.rd.call hb, belI_call h.bw hb⟩
theorem CiB.born {w : World} {u v : Value} {M C : List Int} {X Y : Int} {vi : Value} {L : List Int} (hu : RdI w u M) (hv : RdI w v C) (hi : RdI w vi L) : CiB w u v M C X Y vi L (((w.alloc (.cells #[u, v] 91)).alloc (.cells #[.int .i64 X, .int .i64 Y, vi] 70)).alloc (.cells #[.int .i64 0, .int .i64 0, .slice none 0 0] 70)) :=
 ⟨((CmB.born hu hv).call (belI_box _ _)).call (belI_box _ _), (ImAt.newAt (by simp) _ _ _ _).alloc _, ImAt.newAt (by simp) _ _ _ _, ((hi.alloc _).alloc _).alloc _, belI_call (belI_call (belI_box _ _) (belI_box _ _)) (belI_box _ _)⟩
def OldB (w : World) (u v vi : Value) : Prop := (∀ k, u.ownBlock = some k → k < w.heap.size) ∧ (∀ k, v.ownBlock = some k → k < w.heap.size) ∧ ∀ k, vi.ownBlock = some k → k < w.heap.size
theorem CiB.own {w : World} {u v : Value} {M C : List Int} {X Y : Int} {vi : Value} {L : List Int} {V V' : World} {row : Option Nat} (h : CiB w u v M C X Y vi L V) (ho : OldB w u v vi) (hg : V.grownBy V' row) (hk : ∀ k, row = some k → w.heap.size + 3 ≤ k) : CiB w u v M C X Y vi L V' :=
 ⟨h.cm.grown hg (fun e => by have := hk _ e.symm; omega) (fun k hk2 e => by have := hk _ e.symm; have := ho.1 k hk2; omega) (fun k hk2 e => by have := hk _ e.symm; have := ho.2.1 k hk2; omega), h.a.grown hg (fun e => by have := hk _ e.symm; omega), h.r.grown hg (fun e => by have := hk _ e.symm; omega),
  h.rd.grown hg (fun k hk2 e => by have := hk _ e.symm; have := ho.2.2 k hk2; omega), h.bw.grown hg h.bw.size (fun k e => by have := hk _ e; omega)⟩
structure CiS (w : World) (u v : Value) (M C : List Int) (X Y : Int) (vi : Value) (L : List Int) (bo : Nat) (z : Value) (q : Nat) (N : List Int) (V : World) : Prop where
 o : CiB w u v M C X Y vi L V
 im : ImAt V bo 70 X Y z
 own : V.ownsRow (bo + 1) 3 1 z q (intCells N)
structure CiI (w : World) (u v : Value) (M C : List Int) (X Y : Int) (vi : Value) (L : List Int) (bc bo : Nat) (z : Value) (V : World) : Prop where
 o : CiB w u v M C X Y vi L V
 cq : CmB bc u v M C V
 im : ImAt V bo 149 X Y z
theorem CiI.call {w : World} {u v : Value} {M C : List Int} {X Y : Int} {vi : Value} {L : List Int} {bc bo : Nat} {z : Value} {V V' : World} (h : CiI w u v M C X Y vi L bc bo z V) (hb : Below V.heap.size V V') : CiI w u v M C X Y vi L bc bo z V' := ⟨h.o.call hb, h.cq.call hb, h.im.call hb⟩
theorem CiI.drew {w : World} {u v : Value} {M C : List Int} {X Y : Int} {vi : Value} {L : List Int} {bc bo : Nat} {z : Value} {V : World} (h : CiI w u v M C X Y vi L bc bo z V) : CiI w u v M C X Y vi L bc bo z V.drew := h.call (belI_drew _)
theorem CiI.set {w : World} {u v : Value} {M C : List Int} {X Y : Int} {vi : Value} {L : List Int} {bc bo gq : Nat} {z : Value} {V V' : World} (h : CiI w u v M C X Y vi L bc bo z V) (hn : OldB w u v vi ∧ w.heap.size + 3 ≤ gq ∧ bc ≠ gq ∧ bo ≠ gq) (hg : V.grownBy V' (some gq)) : CiI w u v M C X Y vi L bc bo z V' :=
 ⟨h.o.own hn.1 hg (fun k e => by injection e with e; omega), h.cq.grown hg (fun e => hn.2.2.1 (Option.some.inj e)) (fun k hk e => by have := hn.1.1 k hk; injection e with e; omega) (fun k hk e => by have := hn.1.2.1 k hk; injection e with e; omega), h.im.grown hg (fun e => hn.2.2.2 (Option.some.inj e))⟩
theorem map_tab (L : List Int) (f : Int → Int) : L.map f = tabI L.length (fun k => f (L.getD k 0)) := tabI_ext (List.length_map ..) fun k x hx => by
 rw [List.getElem?_map] at hx
 obtain ⟨y, hy, rfl⟩ := Option.map_eq_some_iff.1 hx
 rw [List.getD_eq_getElem?_getD, hy]; rfl
theorem corIm_len (M C : List Int) (X Y : Int) (L : List Int) : (corIm M C X Y L).d.length ≤ 256 := by
 by_cases h : colOk M C ∧ imOk X Y L
 ·rw [corIm_yes h.1 h.2]
  have := sz_mul h.2.1
  have := h.2.2.1
  show (L.map (corK M C)).length ≤ 256
  rw [List.length_map]; omega
 ·rw [corIm_no h]; simp [zeroIm]
def partC (f : Int → Int) (L : List Int) (k j : Nat) : Int := if j < k then f (L.getD j 0) else L.getD j 0
theorem cm_set {f : Int → Int} {L : List Int} {n k : Nat} {y : Int} (hy : f (L.getD k 0) = y) : (tabI n (partC f L k)).set k y = tabI n (partC f L (k + 1)) := by
 rw [tabI_set]
 refine tabI_congr n fun j _ => ?_
 unfold partC
 by_cases e : j = k
 ·rw [if_pos e, if_pos (by omega), e, hy]
 ·rw [if_neg e]
  by_cases e2 : j < k
  ·rw [if_pos e2, if_pos (by omega)]
  ·rw [if_neg e2, if_neg (by omega)]
theorem ciZero {w : World} {u v : Value} {M C : List Int} {X Y : Int} {vi : Value} {L : List Int} {V : World} (h : CiB w u v M C X Y vi L V) : AnsIm zeroIm w (.returned (.agg #[.int .i64 0, .int .i64 0, .slice none 0 0])) (((V.setCell ⟨w.heap.size + 2, 0, none⟩ (.int .i64 0)).setCell ⟨w.heap.size + 2, 1, none⟩ (.int .i64 0)).setCell ⟨w.heap.size + 2, 2, none⟩ (.slice none 0 0)) :=
 zeroIm_ans (((h.bw.setCell (by simp) _).setCell (by simp) _).setCell (by simp) _)
set_option maxHeartbeats 2000000 in
set_option maxRecDepth 10000 in
theorem cimgS_ok (u v : Value) (M C : List Int) (X Y : Int) (vi : Value) (L : List Int) (w : World) (hu : RdI w u M) (hv : RdI w v C) (hi : RdI w vi L) (hok : colOk M C) (him : imOk X Y L) :
  Calls Tryz.prog 128 #[.agg #[u, v], .agg #[.int .i64 X, .int .i64 Y, vi]] w (AnsIm (corIm M C X Y L) w) := by
 have hL : 1 ≤ L.length ∧ L.length ≤ 256 := by have := sz_pos him.1; have := sz_mul him.1; have := him.2.1; omega
 have hold : OldB w u v vi := ⟨rd_lt hu (by rw [hok.1]; decide), rd_lt hv (by rw [hok.2.1]; decide), rd_lt hi hL.1⟩
 obtain ⟨gi, c, rfl, hgi, hcu⟩ := rd_block hi hL.1
 obtain ⟨n, hn⟩ : ∃ n, n = L.length := ⟨_, rfl⟩
 obtain ⟨F, hF⟩ : ∃ F : Nat → Int, F = fun k => corK M C (L.getD k 0) := ⟨_, rfl⟩
 have HA : Hid (corIm M C X Y L = ⟨X, Y, tabI n F⟩) := Lib.hid (by rw [corIm_yes hok him, map_tab, hF, hn])
 rw [← hn] at hi hL hold hcu ⊢
 have hS := CiB.born (X := X) (Y := Y) hu hv hi
 have HC := fun (W : World) (h1 : RdI W u M) (h2 : RdI W v C) => colS u v M C W h1 h2
 rw [colB_yes hok] at HC
 have HC := Lib.hid HC
 have HI := fun (W : World) (h : RdI W (.slice (some ⟨gi, 0, none⟩) n c) L) => imS X Y _ L W h
 unfold ImOkAns at HI
 rw [imB_yes him] at HI
 have HI := Lib.hid HI
 have Hok := Lib.hid hok
 have Him := Lib.hid him
 have Hn := Lib.hid hn
 have HF := Lib.hid hF
 have hsep := hold
 clear hu hv hi hok him hn hF hgi hold
 obtain ⟨n1, n2⟩ := hL
 obtain ⟨d0, d1⟩ := hS.cm.cells
 obtain ⟨a0, a1, a2⟩ := hS.a.cells
 go_enter Tryz.func128, Tryz.ntmps128
 go_wp2_with fail
 refine (HC.out _ hS.cm.rm hS.cm.rc).mono ?_
 rintro e w2 ⟨rfl, hb⟩
 replace hS := hS.call hb
 clear hb d0 d1 a0 a1 a2
 obtain ⟨a0, a1, a2⟩ := hS.a.cells
 go_wp2_with fail
 refine (HI.out _ hS.rd).mono ?_
 rintro e w3 ⟨rfl, hb⟩
 replace hS := hS.call hb
 clear hb a0 a1 a2
 obtain ⟨a0, a1, a2⟩ := hS.a.cells
 obtain ⟨bo, hbo⟩ : ∃ b, b = w3.heap.size := ⟨_, rfl⟩
 have hlo := hS.r.lt
 have him := ImAt.newAt (w := w3) hbo.symm 70 X Y (.slice none 0 0)
 have hS2 := hS.call (belI_box w3 (.cells #[.int .i64 X, .int .i64 Y, .slice none 0 0] 70))
 have hown := World.ownsRow_nil (w3.alloc (.cells #[.int .i64 X, .int .i64 Y, .slice none 0 0] 70)) (bo + 1) 3 1
 have HS := Lib.hid (show CiS w u v M C X Y (.slice (some ⟨gi, 0, none⟩) n c) L bo (.slice none 0 0) 0 (tabI 0 F) _ from ⟨hS2, him, hown⟩)
 have hbo2 : w.heap.size + 2 < bo := by omega
 have HB := Lib.hid hbo
 clear hbo hlo him hS2 hown hS
 go_wp2_with fail
 rw [← HB.out]
 clear a0 a1 a2
 go_loopg [6] n (fun g8 s8 w8 => ∃ (k cv : Nat) (Av : Option Addr) (V : World), V = w8 ∧ k ≤ n ∧ g8 = n - k ∧ s8 = .int .i64 k ∧ Hid (CiS w u v M C X Y (.slice (some ⟨gi, 0, none⟩) n c) L bo (.slice Av k cv) k (tabI k F) V))
 case atStart => exact ⟨0, 0, none, _, rfl, by omega, by omega, rfl, HS⟩
 case round =>
  clear HS
  obtain ⟨k, cv, Av, wx, hV, hk2, rfl, rfl, HS⟩ := hrel
  subst hV
  obtain ⟨a0, a1, a2⟩ := HS.out.o.a.cells
  by_cases hkl : k < n
  ·have HKL := Lib.hid hkl
   obtain ⟨z, hz⟩ : ∃ z, L[k]? = some z := ⟨_, List.getElem?_eq_getElem (by rw [← Hn.out]; exact hkl)⟩
   have hgz : L.getD k 0 = z := by rw [List.getD_eq_getElem?_getD, hz]; rfl
   have hpz : pixOk z := Him.out.2.2 k z hz
   obtain ⟨y, hy⟩ : ∃ y, y = corK M C z := ⟨_, rfl⟩
   have HZ := Lib.hid hz
   have hki : (k : Int) < (n : Int) := by omega
   have k0 : (0 : Int) ≤ (k : Int) := by omega
   have HP := Lib.hid (fun (W : World) (h1 : RdI W u M) (h2 : RdI W v C) => show Calls _ _ _ _ (fun e w' => e = .returned (.int .i64 y) ∧ Below W.heap.size W w') from by have h := cpixS u v M C z W h1 h2; rw [corA_yes Hok.out hpz, ← hy] at h; exact h)
   have HY : Hid (F k = y) := Lib.hid (by rw [HF.out, hy, ← hgz])
   clear hz hgz hpz hy
   go_upto_region 7 with fail
   clear a0 a1 a2
   refine wp_region_held_drew (S := fun V => CiB w u v M C X Y (.slice (some ⟨gi, 0, none⟩) n c) L V) (by kernel_rfl) (HS.out.o.call (Below.refl _ _).drew) (fun hS => ?_)
   have hOw := show World.ownsRow wx.drew _ _ _ _ _ _ from HS.out.own
   have him := HS.out.im.drew
   refine tcH (i := 0) (v := .pointer (some ⟨bo, 2, none⟩)) rfl (by intro w' hSw; (try dsimp only at hSw); (obtain ⟨a0, a1, a2⟩ := hSw.a.cells); (obtain ⟨d0, d1⟩ := hSw.cm.cells); (have zc := hSw.rd.cell HZ.out); go_simp) ?_
   refine tcH (i := 2) (v := .agg #[u, v]) rfl (by intro w' hSw; (try dsimp only at hSw); (obtain ⟨a0, a1, a2⟩ := hSw.a.cells); (obtain ⟨d0, d1⟩ := hSw.cm.cells); (have zc := hSw.rd.cell HZ.out); go_simp) ?_
   refine tcH (i := 3) (v := .pointer (some ⟨w.heap.size + 1, 2, none⟩)) rfl (by intro w' hSw; (try dsimp only at hSw); (obtain ⟨a0, a1, a2⟩ := hSw.a.cells); (obtain ⟨d0, d1⟩ := hSw.cm.cells); (have zc := hSw.rd.cell HZ.out); go_simp) ?_
   refine tcH (i := 4) (v := .slice (some ⟨gi, 0, none⟩) n c) rfl (by intro w' hSw; (try dsimp only at hSw); (obtain ⟨a0, a1, a2⟩ := hSw.a.cells); (obtain ⟨d0, d1⟩ := hSw.cm.cells); (have zc := hSw.rd.cell HZ.out); go_simp) ?_
   refine tcH (i := 5) (v := .int .i64 (k : Int)) rfl (by intro w' hSw; (try dsimp only at hSw); (obtain ⟨a0, a1, a2⟩ := hSw.a.cells); (obtain ⟨d0, d1⟩ := hSw.cm.cells); (have zc := hSw.rd.cell HZ.out); go_simp) ?_
   refine tcH (i := 6) (v := .pointer (some ⟨gi, k, none⟩)) rfl (by intro w' hSw; (try dsimp only at hSw); (obtain ⟨a0, a1, a2⟩ := hSw.a.cells); (obtain ⟨d0, d1⟩ := hSw.cm.cells); (have zc := hSw.rd.cell HZ.out); go_simp) ?_
   refine tcH (i := 7) (v := .int .i64 z) rfl (by intro w' hSw; (try dsimp only at hSw); (obtain ⟨a0, a1, a2⟩ := hSw.a.cells); (obtain ⟨d0, d1⟩ := hSw.cm.cells); (have zc := hSw.rd.cell HZ.out); go_simp) ?_
   (try simp only [Act.put]); (try simp only [zPa]); (try simp only [zPb, zPc])
   refine wpAnyH_ready (rs := [1, 8]) (by kernel_rfl) (by simp) ?_
   refine (AllReadyH.cons rfl (fun K hK => ?_) (AllReadyH.cons rfl (fun K hK => ?_) AllReadyH.nil))
   ·rw [if_pos (by kernel_rfl)]
    (try simp only [zGa]); (try simp only [zGb]); (try simp only [zGc])
    have m2 := him.cells.2.2
    go_simp
    skip
    skip
    clear m2
    refine hK.out _ _ (hS) (fun hS => ?_)
    clear hK
    (try simp only [Act.put]); (try simp only [zPa]); (try simp only [zPb, zPc])
    refine wpAnyH_ready (rs := [8]) (by kernel_rfl) (by simp) ?_
    refine (AllReadyH.cons rfl (fun K hK => ?_) AllReadyH.nil)
    ·rw [if_pos (by kernel_rfl)]
     (try simp only [zGa]); (try simp only [zGb]); (try simp only [zGc])
     go_simp
     with_reducible refine (HP.out _ hS.cm.rm hS.cm.rc).mono ?_
     rintro e W' ⟨rfl, hb⟩
     dsimp only
     have hOw := ownI_call hOw hb
     have him := him.call hb
     refine hK.out _ _ (hS.call hb) (fun hS => ?_)
     clear hK
     (try simp only [Act.put]); (try simp only [zPa]); (try simp only [zPb, zPc])
     refine wpAnyH_ready (rs := [9]) (by kernel_rfl) (by simp) ?_
     refine (AllReadyH.cons rfl (fun K hK => ?_) AllReadyH.nil)
     ·rw [if_pos (by kernel_rfl)]
      (try simp only [zGa]); (try simp only [zGb]); (try simp only [zGc])
      refine wp_build1I 37 (.tmp 36) y rfl (by first | with_reducible rfl | (go_simp; done) | rfl) rfl ?_
      intro g5 W' hb hR5
      have hOw := ownI_call hOw hb
      have him := him.call hb
      refine hK.out _ _ (hS.call hb) (fun hS => ?_)
      clear hK
      (try simp only [Act.put]); (try simp only [zPa]); (try simp only [zPb, zPc])
      refine wpAnyH_ready (rs := [10]) (by kernel_rfl) (by simp) ?_
      refine (AllReadyH.cons rfl (fun K hK => ?_) AllReadyH.nil)
      ·rw [if_pos (by kernel_rfl)]
       (try simp only [zGa]); (try simp only [zGb]); (try simp only [zGc])
       have hlt := fun g hg => (hOw.lt g hg).1
       have hbl := him.lt
       refine wp_append1I (.tmp 29) (.tmp 37) rfl (bo + 1) (.slice Av k cv) k (tabI k F) (by first | with_reducible rfl | (go_simp; done) | rfl) hOw g5 y (by first | with_reducible rfl | (go_simp; done) | rfl) hR5 (by omega) (by omega) ?_
       intro g7 c7 W7 hown7 hg7
       have him7 := him.grown hg7 (fun e => by have := hlt _ e.symm; omega)
       skip
       skip
       skip
       refine hK.out _ _ (hS.own hsep hg7 (fun k e => by have := hlt _ e; omega)) (fun hS => ?_)
       clear hK
       (try simp only [Act.put]); (try simp only [zPa]); (try simp only [zPb, zPc])
       refine tcH (i := 11) (v := .pointer (some ⟨bo, 2, none⟩)) rfl (by intro w' hSw; (try dsimp only at hSw); (obtain ⟨a0, a1, a2⟩ := hSw.a.cells); (obtain ⟨d0, d1⟩ := hSw.cm.cells); (have zc := hSw.rd.cell HZ.out); go_simp) ?_
       (try simp only [Act.put]); (try simp only [zPa]); (try simp only [zPb, zPc])
       refine wpAnyH_ready (rs := [12]) (by kernel_rfl) (by simp) ?_
       refine (AllReadyH.cons rfl (fun K hK => ?_) AllReadyH.nil)
       ·rw [if_pos (by kernel_rfl)]
        (try simp only [zGa]); (try simp only [zGb]); (try simp only [zGc])
        have m2 := him7.cells.2.2
        have f2 := him7.frozen 2
        go_simp
        skip
        skip
        skip
        clear m2 f2
        refine hK.out _ _ (hS.own hsep (grown_setI _ bo 2 _) (fun k e => by injection e with e; omega)) (fun hS => ?_)
        clear hK
        (try simp only [Act.put]); (try simp only [zPa]); (try simp only [zPb, zPc])
        refine wpAnyH_done (by kernel_rfl) ?_ _
        go_wp2_with fail
        go_roundg (n - (k + 1))
        case measure => omega
        case rel =>
         refine ⟨k + 1, c7, some ⟨g7, 0, none⟩, _, rfl, by omega, by omega, by go_num, Lib.hid ⟨hS, him7.set2 _, ?_⟩⟩
         rw [tabI_succ, HY.out]
         exact ownI_far hown7 (p := ⟨bo, 2, none⟩) (fun g hg => by have := (hown7.lt g hg).1; dsimp only; omega) _
   ·rw [if_pos (by kernel_rfl)]
    (try simp only [zGa]); (try simp only [zGb]); (try simp only [zGc])
    go_simp
    with_reducible refine (HP.out _ hS.cm.rm hS.cm.rc).mono ?_
    rintro e W' ⟨rfl, hb⟩
    dsimp only
    have hOw := ownI_call hOw hb
    have him := him.call hb
    refine hK.out _ _ (hS.call hb) (fun hS => ?_)
    clear hK
    (try simp only [Act.put]); (try simp only [zPa]); (try simp only [zPb, zPc])
    refine wpAnyH_ready (rs := [1, 9]) (by kernel_rfl) (by simp) ?_
    refine (AllReadyH.cons rfl (fun K hK => ?_) (AllReadyH.cons rfl (fun K hK => ?_) AllReadyH.nil))
    ·rw [if_pos (by kernel_rfl)]
     (try simp only [zGa]); (try simp only [zGb]); (try simp only [zGc])
     have m2 := him.cells.2.2
     go_simp
     skip
     skip
     clear m2
     refine hK.out _ _ (hS) (fun hS => ?_)
     clear hK
     (try simp only [Act.put]); (try simp only [zPa]); (try simp only [zPb, zPc])
     refine wpAnyH_ready (rs := [9]) (by kernel_rfl) (by simp) ?_
     refine (AllReadyH.cons rfl (fun K hK => ?_) AllReadyH.nil)
     ·rw [if_pos (by kernel_rfl)]
      (try simp only [zGa]); (try simp only [zGb]); (try simp only [zGc])
      refine wp_build1I 37 (.tmp 36) y rfl (by first | with_reducible rfl | (go_simp; done) | rfl) rfl ?_
      intro g5 W' hb hR5
      have hOw := ownI_call hOw hb
      have him := him.call hb
      refine hK.out _ _ (hS.call hb) (fun hS => ?_)
      clear hK
      (try simp only [Act.put]); (try simp only [zPa]); (try simp only [zPb, zPc])
      refine wpAnyH_ready (rs := [10]) (by kernel_rfl) (by simp) ?_
      refine (AllReadyH.cons rfl (fun K hK => ?_) AllReadyH.nil)
      ·rw [if_pos (by kernel_rfl)]
       (try simp only [zGa]); (try simp only [zGb]); (try simp only [zGc])
       have hlt := fun g hg => (hOw.lt g hg).1
       have hbl := him.lt
       refine wp_append1I (.tmp 29) (.tmp 37) rfl (bo + 1) (.slice Av k cv) k (tabI k F) (by first | with_reducible rfl | (go_simp; done) | rfl) hOw g5 y (by first | with_reducible rfl | (go_simp; done) | rfl) hR5 (by omega) (by omega) ?_
       intro g7 c7 W7 hown7 hg7
       have him7 := him.grown hg7 (fun e => by have := hlt _ e.symm; omega)
       skip
       skip
       skip
       refine hK.out _ _ (hS.own hsep hg7 (fun k e => by have := hlt _ e; omega)) (fun hS => ?_)
       clear hK
       (try simp only [Act.put]); (try simp only [zPa]); (try simp only [zPb, zPc])
       refine tcH (i := 11) (v := .pointer (some ⟨bo, 2, none⟩)) rfl (by intro w' hSw; (try dsimp only at hSw); (obtain ⟨a0, a1, a2⟩ := hSw.a.cells); (obtain ⟨d0, d1⟩ := hSw.cm.cells); (have zc := hSw.rd.cell HZ.out); go_simp) ?_
       (try simp only [Act.put]); (try simp only [zPa]); (try simp only [zPb, zPc])
       refine wpAnyH_ready (rs := [12]) (by kernel_rfl) (by simp) ?_
       refine (AllReadyH.cons rfl (fun K hK => ?_) AllReadyH.nil)
       ·rw [if_pos (by kernel_rfl)]
        (try simp only [zGa]); (try simp only [zGb]); (try simp only [zGc])
        have m2 := him7.cells.2.2
        have f2 := him7.frozen 2
        go_simp
        skip
        skip
        skip
        clear m2 f2
        refine hK.out _ _ (hS.own hsep (grown_setI _ bo 2 _) (fun k e => by injection e with e; omega)) (fun hS => ?_)
        clear hK
        (try simp only [Act.put]); (try simp only [zPa]); (try simp only [zPb, zPc])
        refine wpAnyH_done (by kernel_rfl) ?_ _
        go_wp2_with fail
        go_roundg (n - (k + 1))
        case measure => omega
        case rel =>
         refine ⟨k + 1, c7, some ⟨g7, 0, none⟩, _, rfl, by omega, by omega, by go_num, Lib.hid ⟨hS, him7.set2 _, ?_⟩⟩
         rw [tabI_succ, HY.out]
         exact ownI_far hown7 (p := ⟨bo, 2, none⟩) (fun g hg => by have := (hown7.lt g hg).1; dsimp only; omega) _
    ·rw [if_pos (by kernel_rfl)]
     (try simp only [zGa]); (try simp only [zGb]); (try simp only [zGc])
     refine wp_build1I 37 (.tmp 36) y rfl (by first | with_reducible rfl | (go_simp; done) | rfl) rfl ?_
     intro g5 W' hb hR5
     have hOw := ownI_call hOw hb
     have him := him.call hb
     refine hK.out _ _ (hS.call hb) (fun hS => ?_)
     clear hK
     (try simp only [Act.put]); (try simp only [zPa]); (try simp only [zPb, zPc])
     refine wpAnyH_ready (rs := [1]) (by kernel_rfl) (by simp) ?_
     refine (AllReadyH.cons rfl (fun K hK => ?_) AllReadyH.nil)
     ·rw [if_pos (by kernel_rfl)]
      (try simp only [zGa]); (try simp only [zGb]); (try simp only [zGc])
      have m2 := him.cells.2.2
      go_simp
      skip
      skip
      skip
      clear m2
      refine hK.out _ _ (hS) (fun hS => ?_)
      clear hK
      (try simp only [Act.put]); (try simp only [zPa]); (try simp only [zPb, zPc])
      refine wpAnyH_ready (rs := [10]) (by kernel_rfl) (by simp) ?_
      refine (AllReadyH.cons rfl (fun K hK => ?_) AllReadyH.nil)
      ·rw [if_pos (by kernel_rfl)]
       (try simp only [zGa]); (try simp only [zGb]); (try simp only [zGc])
       have hlt := fun g hg => (hOw.lt g hg).1
       have hbl := him.lt
       refine wp_append1I (.tmp 29) (.tmp 37) rfl (bo + 1) (.slice Av k cv) k (tabI k F) (by first | with_reducible rfl | (go_simp; done) | rfl) hOw g5 y (by first | with_reducible rfl | (go_simp; done) | rfl) hR5 (by omega) (by omega) ?_
       intro g7 c7 W7 hown7 hg7
       have him7 := him.grown hg7 (fun e => by have := hlt _ e.symm; omega)
       skip
       skip
       skip
       refine hK.out _ _ (hS.own hsep hg7 (fun k e => by have := hlt _ e; omega)) (fun hS => ?_)
       clear hK
       (try simp only [Act.put]); (try simp only [zPa]); (try simp only [zPb, zPc])
       refine tcH (i := 11) (v := .pointer (some ⟨bo, 2, none⟩)) rfl (by intro w' hSw; (try dsimp only at hSw); (obtain ⟨a0, a1, a2⟩ := hSw.a.cells); (obtain ⟨d0, d1⟩ := hSw.cm.cells); (have zc := hSw.rd.cell HZ.out); go_simp) ?_
       (try simp only [Act.put]); (try simp only [zPa]); (try simp only [zPb, zPc])
       refine wpAnyH_ready (rs := [12]) (by kernel_rfl) (by simp) ?_
       refine (AllReadyH.cons rfl (fun K hK => ?_) AllReadyH.nil)
       ·rw [if_pos (by kernel_rfl)]
        (try simp only [zGa]); (try simp only [zGb]); (try simp only [zGc])
        have m2 := him7.cells.2.2
        have f2 := him7.frozen 2
        go_simp
        skip
        skip
        skip
        clear m2 f2
        refine hK.out _ _ (hS.own hsep (grown_setI _ bo 2 _) (fun k e => by injection e with e; omega)) (fun hS => ?_)
        clear hK
        (try simp only [Act.put]); (try simp only [zPa]); (try simp only [zPb, zPc])
        refine wpAnyH_done (by kernel_rfl) ?_ _
        go_wp2_with fail
        go_roundg (n - (k + 1))
        case measure => omega
        case rel =>
         refine ⟨k + 1, c7, some ⟨g7, 0, none⟩, _, rfl, by omega, by omega, by go_num, Lib.hid ⟨hS, him7.set2 _, ?_⟩⟩
         rw [tabI_succ, HY.out]
         exact ownI_far hown7 (p := ⟨bo, 2, none⟩) (fun g hg => by have := (hown7.lt g hg).1; dsimp only; omega) _
  ·obtain rfl : k = n := by omega
   have hr := HS.out.o.r
   obtain ⟨r0, r1, r2⟩ := hr.cells
   obtain ⟨m0, m1, m2⟩ := HS.out.im.cells
   have f0 := hr.frozen 0
   have f1 := hr.frozen 1
   have f2 := hr.frozen 2
   have HJ := Lib.hid (hr.set3 X Y (.slice Av k cv))
   clear hr
   go_wp2_with fail
   obtain ⟨s0, s1, s2⟩ := HJ.out.cells
   exact bodyPost_ret (v := .agg #[.int .i64 X, .int .i64 Y, .slice Av k cv]) (by simp [results, Tryz.results128, go_sem, s0, s1, s2]) rfl (by
    rw [HA.out]
    exact ans_set HS.out.own (tabI_length _ _) (by omega) (by omega) HS.out.o.bw)
set_option maxHeartbeats 600000 in
set_option maxRecDepth 10000 in
theorem cimgS_bad1 (u v : Value) (M C : List Int) (X Y : Int) (vi : Value) (L : List Int) (w : World) (hu : RdI w u M) (hv : RdI w v C) (hi : RdI w vi L) (hok : ¬ colOk M C) :
  Calls Tryz.prog 128 #[.agg #[u, v], .agg #[.int .i64 X, .int .i64 Y, vi]] w (AnsIm (corIm M C X Y L) w) := by
 have HA := Lib.hid (corIm_no (M := M) (C := C) (X := X) (Y := Y) (L := L) (fun h => hok h.1))
 have hS := CiB.born (X := X) (Y := Y) hu hv hi
 have HC := fun (W : World) (h1 : RdI W u M) (h2 : RdI W v C) => colS u v M C W h1 h2
 rw [colB_no hok] at HC
 have HC := Lib.hid HC
 clear hu hv hi hok
 obtain ⟨d0, d1⟩ := hS.cm.cells
 obtain ⟨a0, a1, a2⟩ := hS.a.cells
 go_enter Tryz.func128, Tryz.ntmps128
 go_wp2_with fail
 refine (HC.out _ hS.cm.rm hS.cm.rc).mono ?_
 rintro e w2 ⟨rfl, hb⟩
 replace hS := hS.call hb
 clear hb d0 d1 a0 a1 a2
 have hr := hS.r
 obtain ⟨r0, r1, r2⟩ := hr.cells
 have f0 := hr.frozen 0
 have f1 := hr.frozen 1
 have f2 := hr.frozen 2
 have HJ := Lib.hid (hr.set3 0 0 (.slice none 0 0))
 have HS := Lib.hid hS
 clear hr hS
 go_wp2_with fail
 obtain ⟨s0, s1, s2⟩ := HJ.out.cells
 exact bodyPost_ret (v := .agg #[.int .i64 0, .int .i64 0, .slice none 0 0]) (by simp [results, Tryz.results128, go_sem, s0, s1, s2]) rfl (by rw [HA.out]; exact ciZero HS.out)
set_option maxHeartbeats 600000 in
set_option maxRecDepth 10000 in
theorem cimgS_bad2 (u v : Value) (M C : List Int) (X Y : Int) (vi : Value) (L : List Int) (w : World) (hu : RdI w u M) (hv : RdI w v C) (hi : RdI w vi L) (hok : colOk M C) (him : ¬ imOk X Y L) :
  Calls Tryz.prog 128 #[.agg #[u, v], .agg #[.int .i64 X, .int .i64 Y, vi]] w (AnsIm (corIm M C X Y L) w) := by
 have HA := Lib.hid (corIm_no (M := M) (C := C) (X := X) (Y := Y) (L := L) (fun h => him h.2))
 have hS := CiB.born (X := X) (Y := Y) hu hv hi
 have HC := fun (W : World) (h1 : RdI W u M) (h2 : RdI W v C) => colS u v M C W h1 h2
 rw [colB_yes hok] at HC
 have HC := Lib.hid HC
 have HI := fun (W : World) (h : RdI W vi L) => imS X Y vi L W h
 unfold ImOkAns at HI
 rw [imB_no him] at HI
 have HI := Lib.hid HI
 clear hu hv hi hok him
 obtain ⟨d0, d1⟩ := hS.cm.cells
 obtain ⟨a0, a1, a2⟩ := hS.a.cells
 go_enter Tryz.func128, Tryz.ntmps128
 go_wp2_with fail
 refine (HC.out _ hS.cm.rm hS.cm.rc).mono ?_
 rintro e w2 ⟨rfl, hb⟩
 replace hS := hS.call hb
 clear hb d0 d1 a0 a1 a2
 obtain ⟨a0, a1, a2⟩ := hS.a.cells
 go_wp2_with fail
 refine (HI.out _ hS.rd).mono ?_
 rintro e w3 ⟨rfl, hb⟩
 replace hS := hS.call hb
 clear hb a0 a1 a2
 have hr := hS.r
 obtain ⟨r0, r1, r2⟩ := hr.cells
 have f0 := hr.frozen 0
 have f1 := hr.frozen 1
 have f2 := hr.frozen 2
 have HJ := Lib.hid (hr.set3 0 0 (.slice none 0 0))
 have HS := Lib.hid hS
 clear hr hS
 go_wp2_with fail
 obtain ⟨s0, s1, s2⟩ := HJ.out.cells
 exact bodyPost_ret (v := .agg #[.int .i64 0, .int .i64 0, .slice none 0 0]) (by simp [results, Tryz.results128, go_sem, s0, s1, s2]) rfl (by rw [HA.out]; exact ciZero HS.out)
theorem cimgS (u v : Value) (M C : List Int) (X Y : Int) (vi : Value) (L : List Int) (w : World) (hu : RdI w u M) (hv : RdI w v C) (hi : RdI w vi L) :
  Calls Tryz.prog 128 #[.agg #[u, v], .agg #[.int .i64 X, .int .i64 Y, vi]] w (AnsIm (corIm M C X Y L) w) := by
 by_cases hok : colOk M C
 ·by_cases him : imOk X Y L
  ·exact cimgS_ok u v M C X Y vi L w hu hv hi hok him
  ·exact cimgS_bad2 u v M C X Y vi L w hu hv hi hok him
 ·exact cimgS_bad1 u v M C X Y vi L w hu hv hi hok
set_option maxHeartbeats 2000000 in
set_option maxRecDepth 10000 in
theorem cimgI_ok (u v : Value) (M C : List Int) (X Y : Int) (vi : Value) (L : List Int) (w : World) (hu : RdI w u M) (hv : RdI w v C) (hi : RdI w vi L) (hok : colOk M C) (him : imOk X Y L) :
  Calls Tryz.prog 130 #[.agg #[u, v], .agg #[.int .i64 X, .int .i64 Y, vi]] w (AnsIm (corIm M C X Y L) w) := by
 have hL : 1 ≤ L.length ∧ L.length ≤ 256 := by have := sz_pos him.1; have := sz_mul him.1; have := him.2.1; omega
 have hold : OldB w u v vi := ⟨rd_lt hu (by rw [hok.1]; decide), rd_lt hv (by rw [hok.2.1]; decide), rd_lt hi hL.1⟩
 obtain ⟨gi, c, rfl, hgi, hcu⟩ := rd_block hi hL.1
 obtain ⟨n, hn⟩ : ∃ n, n = L.length := ⟨_, rfl⟩
 obtain ⟨F, hF⟩ : ∃ F : Nat → Int, F = fun k => corK M C (L.getD k 0) := ⟨_, rfl⟩
 have HA : Hid (corIm M C X Y L = ⟨X, Y, tabI n F⟩) := Lib.hid (by rw [corIm_yes hok him, map_tab, hF, hn])
 rw [← hn] at hi hL hold hcu ⊢
 have hS := CiB.born (X := X) (Y := Y) hu hv hi
 have HC := fun (W : World) (h1 : RdI W u M) (h2 : RdI W v C) => colI u v M C W h1 h2
 rw [colB_yes hok] at HC
 have HC := Lib.hid HC
 have HI := fun (W : World) (h : RdI W (.slice (some ⟨gi, 0, none⟩) n c) L) => imI X Y _ L W h
 unfold ImOkAns at HI
 rw [imB_yes him] at HI
 have HI := Lib.hid HI
 have Hok := Lib.hid hok
 have Him := Lib.hid him
 have Hn := Lib.hid hn
 have HF := Lib.hid hF
 have hsep := hold
 clear hu hv hi hok him hn hF hgi hold
 obtain ⟨n1, n2⟩ := hL
 obtain ⟨d0, d1⟩ := hS.cm.cells
 obtain ⟨a0, a1, a2⟩ := hS.a.cells
 go_enter Tryz.func130, Tryz.ntmps130
 go_wp2_with fail
 refine (HC.out _ hS.cm.rm hS.cm.rc).mono ?_
 rintro e w2 ⟨rfl, hb⟩
 replace hS := hS.call hb
 clear hb d0 d1 a0 a1 a2
 obtain ⟨a0, a1, a2⟩ := hS.a.cells
 go_wp2_with fail
 refine (HI.out _ hS.rd).mono ?_
 rintro e w3 ⟨rfl, hb⟩
 replace hS := hS.call hb
 clear hb a0 a1 a2
 obtain ⟨d0, d1⟩ := hS.cm.cells
 go_wp2_with fail
 refine (corrI u v _).mono ?_
 rintro e wl ⟨rfl, rfl⟩
 obtain ⟨bc, hbc⟩ : ∃ b, b = w3.heap.size := ⟨_, rfl⟩
 have hlo := hS.r.lt
 have hcq := CmB.bornAt hbc.symm hS.cm.rm hS.cm.rc
 replace hS := hS.call (belI_box w3 (.cells #[u, v] 91))
 clear d0 d1
 obtain ⟨w4, hw4⟩ : ∃ W, W = w3.alloc (.cells #[u, v] 91) := ⟨_, rfl⟩
 rw [← hw4] at hcq hS
 obtain ⟨a0, a1, a2⟩ := hS.a.cells
 have Hw4 := Lib.hid hw4
 rw [hw4] at a0 a1 a2
 have HBC := Lib.hid hbc
 have HCQ := Lib.hid hcq
 have HS4 := Lib.hid hS
 have hrd := hS.rd
 clear hcq hS hbc hw4
 go_wp2_with fail
 rw [← Hw4.out, ← HBC.out]
 clear a0 a1 a2
 refine (copiedI X Y _ L _ (by rw [← Hn.out]; omega) hrd).mono ?_
 rintro e w5 ⟨vq, rfl, hown, hb⟩
 rw [← Hn.out] at hown
 obtain ⟨gq, cq, hvq, hgB, hgl⟩ := hown.form (by omega)
 subst hvq
 obtain ⟨bo, hbo⟩ : ∃ b, b = w5.heap.size := ⟨_, rfl⟩
 have him := ImAt.newAt (w := w5) hbo.symm 149 X Y (.slice (some ⟨gq, 0, none⟩) n cq)
 obtain ⟨V0, hV0⟩ : ∃ V, V = w5.alloc (.cells #[.int .i64 X, .int .i64 Y, .slice (some ⟨gq, 0, none⟩) n cq] 149) := ⟨_, rfl⟩
 have hT : CiI w u v M C X Y (.slice (some ⟨gi, 0, none⟩) n c) L bc bo (.slice (some ⟨gq, 0, none⟩) n cq) V0 := by
  rw [hV0]; exact ⟨(HS4.out.call hb).call (belI_box _ _), (HCQ.out.call hb).call (belI_box _ _), him⟩
 have hsz5 := hb.size
 have hq4 : w4.heap.size = w3.heap.size + 1 := by rw [Hw4.out]; simp
 have hsq : OldB w u v (.slice (some ⟨gi, 0, none⟩) n c) ∧ w.heap.size + 3 ≤ gq ∧ bc ≠ gq ∧ bo ≠ gq := ⟨hsep, by omega, by have := HBC.out; omega, by omega⟩
 have hloB : w.heap.size + 2 < w4.heap.size ∧ w.heap.size + 2 < gq := by omega
 have hown0 : V0.ownsRow w4.heap.size 3 1 (.slice (some ⟨gq, 0, none⟩) n cq) n (intCells (tabI n (partC (corK M C) L 0))) := by
  rw [hV0]
  have e : tabI n (partC (corK M C) L 0) = L := by
   symm; refine tabI_ext Hn.out.symm fun j x hx => ?_
   unfold partC; rw [if_neg (by omega), List.getD_eq_getElem?_getD, hx]; rfl
  rw [e]; exact hown.alloc _
 have HT := Lib.hid hT
 have Hsq := Lib.hid hsq
 have HV := Lib.hid hV0
 have Hbo := Lib.hid hbo
 have HO := Lib.hid hown0
 obtain ⟨a0, a1, a2⟩ := hT.im.cells
 rw [hV0] at a0 a1 a2
 clear hT hsq him hown hown0 hb hV0 hbo hgB hgl hsz5 hq4 hrd HS4 HCQ
 go_wp2_with fail
 rw [← HV.out, ← Hbo.out]
 clear a0 a1 a2
 have Hgr0 : Hid (V0.grownBy V0 (some gq)) := Lib.hid (World.grownBy.refl _ _)
 go_loopg [25] n (fun g8 s8 w8 => ∃ (k : Nat) (V : World), V = w8 ∧ k ≤ n ∧ g8 = n - k ∧ s8 = .int .i64 k ∧ Hid (V.ownsRow w4.heap.size 3 1 (.slice (some ⟨gq, 0, none⟩) n cq) n (intCells (tabI n (partC (corK M C) L k)))) ∧ Hid (V0.grownBy V (some gq)))
 case atStart => exact ⟨0, _, rfl, by omega, by omega, rfl, HO, Hgr0⟩
 case round =>
  clear HO Hgr0
  obtain ⟨k, wx, hV, hk2, rfl, rfl, Hown, Hgr⟩ := hrel
  subst hV
  have hT := HT.out.set Hsq.out Hgr.out
  by_cases hkl : k < n
  ·have HKL := Lib.hid hkl
   obtain ⟨z, hz⟩ : ∃ z, L[k]? = some z := ⟨_, List.getElem?_eq_getElem (by rw [← Hn.out]; exact hkl)⟩
   have hgz : L.getD k 0 = z := by rw [List.getD_eq_getElem?_getD, hz]; rfl
   have hpz : pixOk z := Him.out.2.2 k z hz
   obtain ⟨y, hy⟩ : ∃ y, y = corK M C z := ⟨_, rfl⟩
   have HZ := Lib.hid hz
   have hki : (k : Int) < (n : Int) := by omega
   have k0 : (0 : Int) ≤ (k : Int) := by omega
   have HP := Lib.hid (fun (W : World) (h : CmB bc u v M C W) => show Calls _ _ _ _ (fun e w' => e = .returned (.int .i64 y) ∧ Below W.heap.size W w') from by have h := cloI bc u v M C z W Hok.out hpz h; rw [← hy] at h; exact h)
   have HY : Hid (corK M C (L.getD k 0) = y) := Lib.hid (by rw [hy, hgz])
   have c0 : wx.cell? ⟨gq, k, none⟩ = some (.int .i64 z) := by
    rw [Hown.out.cellAt k (by omega), intCells_get, tabI_get n _ k hkl]
    unfold partC; rw [if_neg (by omega), hgz]; rfl
   have hsq := Hsq.out
   have hOw := Hown.out
   clear hz hgz hpz hy
   go_upto_region 8 with fail
   clear c0
   refine wp_region_held_drew (S := fun V => CiI w u v M C X Y (.slice (some ⟨gi, 0, none⟩) n c) L bc bo (.slice (some ⟨gq, 0, none⟩) n cq) V) (by kernel_rfl) hT.drew (fun hS => ?_)
   replace hOw := show World.ownsRow wx.drew _ _ _ _ _ _ from Hown.out
   have hGr := show World.grownBy V0 wx.drew _ from Hgr.out.trans (grown_dr _ _)
   refine tcH (i := 0) (v := .pointer (some ⟨bo, 2, none⟩)) rfl (by intro w' hSw; (try dsimp only at hSw); (obtain ⟨b0, b1, b2⟩ := hSw.im.cells); go_simp) ?_
   refine tcH (i := 1) (v := .slice (some ⟨gq, 0, none⟩) n cq) rfl (by intro w' hSw; (try dsimp only at hSw); (obtain ⟨b0, b1, b2⟩ := hSw.im.cells); go_simp) ?_
   refine tcH (i := 2) (v := .int .i64 (k : Int)) rfl (by intro w' hSw; (try dsimp only at hSw); (obtain ⟨b0, b1, b2⟩ := hSw.im.cells); go_simp) ?_
   refine tcH (i := 3) (v := .func (.func 234) #[] #[.pointer (some ⟨bc, 0, none⟩)]) rfl (by intro w' hSw; (try dsimp only at hSw); (obtain ⟨b0, b1, b2⟩ := hSw.im.cells); go_simp) ?_
   refine tcH (i := 4) (v := .int .i64 z) rfl (by intro w' hSw; (try dsimp only at hSw); (obtain ⟨b0, b1, b2⟩ := hSw.im.cells); go_simp) ?_
   (try simp only [Act.put]); (try simp only [zPa]); (try simp only [zPb, zPc])
   refine wpAnyH_ready (rs := [5]) (by kernel_rfl) (by simp) ?_
   refine (AllReadyH.cons rfl (fun K hK => ?_) AllReadyH.nil)
   ·rw [if_pos (by kernel_rfl)]
    (try simp only [zGa]); (try simp only [zGb]); (try simp only [zGc])
    go_simp
    with_reducible refine (HP.out _ hS.cq).mono ?_
    rintro e W' ⟨rfl, hb⟩
    dsimp only
    have cS := (own_at_put (ownI_call hOw hb) (j := k) (by omega) (tabI_length _ _)).1
    have fS := (own_at_put (ownI_call hOw hb) (j := k) (by omega) (tabI_length _ _)).2
    have hOw := ownI_call hOw hb
    have hGr := grown_below hGr hb
    refine hK.out _ _ (hS.call hb) (fun hS => ?_)
    clear hK
    (try simp only [Act.put]); (try simp only [zPa]); (try simp only [zPb, zPc])
    refine tcH (i := 6) (v := .pointer (some ⟨gq, k, none⟩)) rfl (by intro w' hSw; (try dsimp only at hSw); (obtain ⟨b0, b1, b2⟩ := hSw.im.cells); go_simp) ?_
    (try simp only [Act.put]); (try simp only [zPa]); (try simp only [zPb, zPc])
    refine wpAnyH_ready (rs := [7]) (by kernel_rfl) (by simp) ?_
    refine (AllReadyH.cons rfl (fun K hK => ?_) AllReadyH.nil)
    ·rw [if_pos (by kernel_rfl)]
     (try simp only [zGa]); (try simp only [zGb]); (try simp only [zGc])
     go_simp
     skip
     skip
     refine hK.out _ _ (hS.set hsq (grown_setI _ gq k _)) (fun hS => ?_)
     clear hK
     (try simp only [Act.put]); (try simp only [zPa]); (try simp only [zPb, zPc])
     refine wpAnyH_done (by kernel_rfl) ?_ _
     go_wp2_with fail
     go_roundg (n - (k + 1))
     case measure => omega
     case rel =>
      have h := (ownI_put hOw k y).1
      rw [cm_set HY.out] at h
      exact ⟨k + 1, _, rfl, by omega, by omega, by go_num, Lib.hid h, Lib.hid (hGr.trans (grown_setI _ gq k _))⟩
  ·obtain rfl : k = n := by omega
   have hr := hT.o.r
   obtain ⟨r0, r1, r2⟩ := hr.cells
   obtain ⟨m0, m1, m2⟩ := hT.im.cells
   have f0 := hr.frozen 0
   have f1 := hr.frozen 1
   have f2 := hr.frozen 2
   have HJ := Lib.hid (hr.set3 X Y (.slice (some ⟨gq, 0, none⟩) k cq))
   have HTT := Lib.hid hT
   clear hr hT
   go_wp2_with fail
   obtain ⟨s0, s1, s2⟩ := HJ.out.cells
   exact bodyPost_ret (v := .agg #[.int .i64 X, .int .i64 Y, .slice (some ⟨gq, 0, none⟩) k cq]) (by simp [results, Tryz.results130, go_sem, s0, s1, s2]) rfl (by
    rw [HA.out]
    have e : tabI k (partC (corK M C) L k) = tabI k F := tabI_congr k fun j hj => by unfold partC; rw [if_pos hj, HF.out]
    have h := Hown.out
    rw [e] at h
    exact ans_set h (tabI_length _ _) (by omega) (by omega) HTT.out.o.bw)
set_option maxHeartbeats 600000 in
set_option maxRecDepth 10000 in
theorem cimgI_bad1 (u v : Value) (M C : List Int) (X Y : Int) (vi : Value) (L : List Int) (w : World) (hu : RdI w u M) (hv : RdI w v C) (hi : RdI w vi L) (hok : ¬ colOk M C) :
  Calls Tryz.prog 130 #[.agg #[u, v], .agg #[.int .i64 X, .int .i64 Y, vi]] w (AnsIm (corIm M C X Y L) w) := by
 have HA := Lib.hid (corIm_no (M := M) (C := C) (X := X) (Y := Y) (L := L) (fun h => hok h.1))
 have hS := CiB.born (X := X) (Y := Y) hu hv hi
 have HC := fun (W : World) (h1 : RdI W u M) (h2 : RdI W v C) => colI u v M C W h1 h2
 rw [colB_no hok] at HC
 have HC := Lib.hid HC
 clear hu hv hi hok
 obtain ⟨d0, d1⟩ := hS.cm.cells
 obtain ⟨a0, a1, a2⟩ := hS.a.cells
 go_enter Tryz.func130, Tryz.ntmps130
 go_wp2_with fail
 refine (HC.out _ hS.cm.rm hS.cm.rc).mono ?_
 rintro e w2 ⟨rfl, hb⟩
 replace hS := hS.call hb
 clear hb d0 d1 a0 a1 a2
 have hr := hS.r
 obtain ⟨r0, r1, r2⟩ := hr.cells
 have f0 := hr.frozen 0
 have f1 := hr.frozen 1
 have f2 := hr.frozen 2
 have HJ := Lib.hid (hr.set3 0 0 (.slice none 0 0))
 have HS := Lib.hid hS
 clear hr hS
 go_wp2_with fail
 obtain ⟨s0, s1, s2⟩ := HJ.out.cells
 exact bodyPost_ret (v := .agg #[.int .i64 0, .int .i64 0, .slice none 0 0]) (by simp [results, Tryz.results130, go_sem, s0, s1, s2]) rfl (by rw [HA.out]; exact ciZero HS.out)
set_option maxHeartbeats 600000 in
set_option maxRecDepth 10000 in
theorem cimgI_bad2 (u v : Value) (M C : List Int) (X Y : Int) (vi : Value) (L : List Int) (w : World) (hu : RdI w u M) (hv : RdI w v C) (hi : RdI w vi L) (hok : colOk M C) (him : ¬ imOk X Y L) :
  Calls Tryz.prog 130 #[.agg #[u, v], .agg #[.int .i64 X, .int .i64 Y, vi]] w (AnsIm (corIm M C X Y L) w) := by
 have HA := Lib.hid (corIm_no (M := M) (C := C) (X := X) (Y := Y) (L := L) (fun h => him h.2))
 have hS := CiB.born (X := X) (Y := Y) hu hv hi
 have HC := fun (W : World) (h1 : RdI W u M) (h2 : RdI W v C) => colI u v M C W h1 h2
 rw [colB_yes hok] at HC
 have HC := Lib.hid HC
 have HI := fun (W : World) (h : RdI W vi L) => imI X Y vi L W h
 unfold ImOkAns at HI
 rw [imB_no him] at HI
 have HI := Lib.hid HI
 clear hu hv hi hok him
 obtain ⟨d0, d1⟩ := hS.cm.cells
 obtain ⟨a0, a1, a2⟩ := hS.a.cells
 go_enter Tryz.func130, Tryz.ntmps130
 go_wp2_with fail
 refine (HC.out _ hS.cm.rm hS.cm.rc).mono ?_
 rintro e w2 ⟨rfl, hb⟩
 replace hS := hS.call hb
 clear hb d0 d1 a0 a1 a2
 obtain ⟨a0, a1, a2⟩ := hS.a.cells
 go_wp2_with fail
 refine (HI.out _ hS.rd).mono ?_
 rintro e w3 ⟨rfl, hb⟩
 replace hS := hS.call hb
 clear hb a0 a1 a2
 have hr := hS.r
 obtain ⟨r0, r1, r2⟩ := hr.cells
 have f0 := hr.frozen 0
 have f1 := hr.frozen 1
 have f2 := hr.frozen 2
 have HJ := Lib.hid (hr.set3 0 0 (.slice none 0 0))
 have HS := Lib.hid hS
 clear hr hS
 go_wp2_with fail
 obtain ⟨s0, s1, s2⟩ := HJ.out.cells
 exact bodyPost_ret (v := .agg #[.int .i64 0, .int .i64 0, .slice none 0 0]) (by simp [results, Tryz.results130, go_sem, s0, s1, s2]) rfl (by rw [HA.out]; exact ciZero HS.out)
theorem cimgI (u v : Value) (M C : List Int) (X Y : Int) (vi : Value) (L : List Int) (w : World) (hu : RdI w u M) (hv : RdI w v C) (hi : RdI w vi L) :
  Calls Tryz.prog 130 #[.agg #[u, v], .agg #[.int .i64 X, .int .i64 Y, vi]] w (AnsIm (corIm M C X Y L) w) := by
 by_cases hok : colOk M C
 ·by_cases him : imOk X Y L
  ·exact cimgI_ok u v M C X Y vi L w hu hv hi hok him
  ·exact cimgI_bad2 u v M C X Y vi L w hu hv hi hok him
 ·exact cimgI_bad1 u v M C X Y vi L w hu hv hi hok
end Go.Proofs.YtnndifemkichmaaGreat
