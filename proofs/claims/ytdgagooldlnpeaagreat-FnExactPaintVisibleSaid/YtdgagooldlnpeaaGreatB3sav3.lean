/- Texts of mine in one file: OvI, PvT. No statement is proved here. -/
import Derived.Test.YtdgagooldlnpeaaGreatMA
import Derived.Test.YtdgagooldlnpeaaGreatMC
import Derived.Test.YtdgagooldlnpeaaGreatMAv023
import Derived.Test.YtdgagooldlnpeaaGreatMAv013
import Derived.Test.YtdgagooldlnpeaaGreatCombIv013
import Derived.Test.YtdgagooldlnpeaaGreatMB
import Derived.Test.YtdgagooldlnpeaaGreatMBv23
import Derived.Test.YtdgagooldlnpeaaGreatMBv3
import Derived.Test.YtdgagooldlnpeaaGreatB1nav013
import Derived.Test.YtdgagooldlnpeaaGreatB1nav3
import Derived.Test.YtdgagooldlnpeaaGreatB2sa
import Derived.Test.YtdgagooldlnpeaaGreatB2sav013
import Derived.Test.YtdgagooldlnpeaaGreatB2sav03
import Derived.Test.YtdgagooldlnpeaaGreatB2sav13
import Derived.Test.YtdgagooldlnpeaaGreatB1sav013
import Derived.Test.YtdgagooldlnpeaaGreatSeIv013
import Derived.Test.YtdgagooldlnpeaaGreatSfP
import Derived.Test.YtdgagooldlnpeaaGreatSfR
import Derived.Test.YtdgagooldlnpeaaGreatB1sav23
import Derived.Test.YtdgagooldlnpeaaGreatB0na
import Derived.Test.YtdgagooldlnpeaaGreatSnS
import Derived.Test.YtdgagooldlnpeaaGreatMAv23
import Derived.Test.YtdgagooldlnpeaaGreatPnI
import Derived.Test.YtdgagooldlnpeaaGreatB3sa
import Derived.Test.YtdgagooldlnpeaaGreatProg
import Derived.WalkKit
import Derived.ProofKit
import Derived.OpenShut
import Derived.WalkLawsBesides
import Derived.WalkSpells
import Derived.ShutString
import Derived.ChangeOld
import Derived.Below
import Derived.Lib.Hide
import Derived.BigQuiet
import Derived.Deep.QuietTactic
import Derived.Maps.AppendAt
import Derived.Deep.OwnRows
import Derived.Handy
import Derived.Deep.Draws
import Derived.OwnWalk
import Derived.Deep.AppendLies
import Derived.Deep.LoopGhost
import Derived.Deep.Onto
import Derived.Deep.MidRow
import Derived.Deep.WholeRow
import Derived.Laws.BitsAllLaws
import Derived.Lib.QuoteBits
import Derived.Deep.RegionHeld3
import Derived.Deep.DeepCutAuto
import Derived.Test.YtdgagooldlnpeaaGreatShelf
import Derived.Laws.CopyOwn
import Derived.Deep.RegionLaw
import Derived.Great.BuildSlice
import Derived.Shelf.RegionOpenPlain
import Derived.Lib.SliceRun
import Derived.Deep.RegionWith
import Derived.Laws.AppendOwn
import Derived.ChangeKeysEq
import Derived.Deep.DeepAppendRoom
namespace Go.Proofs.YtdgagooldlnpeaaGreat
open Go.RowKit
theorem CwS.grownG {w : World} {s : Sn} {v : Value} {g : Nat} {V V' : World} (h : CwS w s v V) (hg : w.heap.size + 1 < g) (hc : V.grownBy V' (some g)) : CwS w s v V' :=
 ⟨h.a.grown hc fun e => by have := Option.some.inj e; omega, (hc.block _ h.x.lt fun e => by have := Option.some.inj e; omega).trans h.x, below_grownG h.bw hc (by omega)⟩
theorem bxr_call {V V' : World} {g : Nat} (h : BxR V g) (hb : Below V.heap.size V V') : BxR V' g := (hb.block _ h.lt).trans h
theorem bxr_cells {V : World} {g : Nat} (h : BxR V g) : V.cell? ⟨g, 0, none⟩ = some (.slice none 0 0) ∧ V.frozen? ⟨g, 0, none⟩ = false := by
 constructor
 ·simp [World.cell?, show V.heap[g]? = _ from h]
 ·simp [World.frozen?, show V.heap[g]? = _ from h]
structure CxS (w : World) (s : Sn) (v : Value) (bx : Nat) (q : Rc) (V : World) : Prop where
 c : CtS w s v V
 x : RcAt V bx q
theorem CxS.call {w : World} {s : Sn} {v : Value} {bx : Nat} {q : Rc} {V V' : World} (h : CxS w s v bx q V) (hb : Below V.heap.size V V') : CxS w s v bx q V' := ⟨h.c.call hb, h.x.below hb h.x.lt⟩
theorem CxS.set {w : World} {s : Sn} {v : Value} {bx : Nat} {q : Rc} {V : World} (h : CxS w s v bx q V) (hbx : w.heap.size + 1 < bx) (y : Value) : CxS w s v bx q (V.setCell ⟨w.heap.size + 1, 0, none⟩ y) :=
 ⟨h.c.grown (by omega) (grown_setI _ _ _ _), h.x.grownI (grown_setI _ _ _ _) fun e => by have := Option.some.inj e; omega⟩
set_option maxHeartbeats 4000000 in
set_option maxRecDepth 10000 in
theorem visS (s : Sn) (k : Int) (v : Value) (bs : List Nat) (w : World) (h : repSfs.R w s.fs [v] bs) : Calls Tryz.prog 119 #[.agg #[.int .i64 s.w, .int .i64 s.h, .int .i64 s.back, v], .int .i64 k] w (RgQ (visM s k) w) := by
 have HS := fun W h => snS s v bs W h
 unfold SnOkAns at HS
 obtain ⟨⟨A, c, rfl⟩, hml⟩ := repSfs_form h
 have hT := (CwS.born (w := w) (s := s) (v := .slice A s.fs.length c))
 have hR : ∀ V, Below w.heap.size w V → repSfs.R V s.fs [.slice A s.fs.length c] bs := fun V hb => Rep.call h hb
 obtain ⟨d0, d1, d2, d3⟩ := hT.a.cells4
 obtain ⟨r0, r1⟩ := hT.res
 by_cases hs : snOk s
 ·rw [snB_yes hs] at HS
  have HS := Lib.hid HS
  obtain ⟨N, hNe⟩ : ∃ N, N = s.fs.length := ⟨_, rfl⟩
  have hN6 : N ≤ 6 := by rw [hNe]; exact hs.2.2.1
  rw [← hNe] at hml hT HS d3 hR ⊢
  have HN := Lib.hid hNe
  have HR := Lib.hid hR
  have HW : Hid (repSfs.R w s.fs [.slice A N c] bs) := Lib.hid (by rw [hNe]; exact h)
  clear h hR
  by_cases hk : 0 ≤ k ∧ k ≤ (N : Int) - 1
  ·obtain ⟨j, rfl⟩ : ∃ j : Nat, k = (j : Int) := ⟨k.toNat, by omega⟩
   have hj : j < N := by omega
   obtain ⟨gs, f, d, bd, rfl, hf, hC, hd, hbd⟩ := pl_d HW.out (k := j) (by rw [← HN.out]; exact hj)
   obtain ⟨⟨Ad, cd, rfl⟩, _⟩ := ints_form hd
   have HC0 : Hid (∀ V' : World, Below w.heap.size w V' → C11 V' gs (j * 11) f (.slice Ad f.data.length cd) ∧ RdI V' (.slice Ad f.data.length cd) f.data) := Lib.hid fun V' hb => ⟨hC.call hb, repInts_rd (Rep.call hd hb)⟩
   have hA := visM_yes hs hf
   obtain ⟨J, hJ⟩ : ∃ J, J = ocV s.w s.h f (s.fs.drop (j + 1)) := ⟨_, rfl⟩
   rw [← hJ] at hA
   have HA := Lib.hid hA
   obtain ⟨q, hq⟩ : ∃ q, q = ocR s.w s.h f := ⟨_, rfl⟩
   obtain ⟨r, hr⟩ : ∃ r, r = sfRect f := ⟨_, rfl⟩
   have hrq : isect r ⟨0, 0, s.w, s.h⟩ = q := by rw [hq, hr]; rfl
   have HQ := fun W0 => isectS_any r ⟨0, 0, s.w, s.h⟩ W0
   rw [hrq] at HQ
   dsimp only at HQ
   have HQ := Lib.hid HQ
   have HR1 := fun (W : World) h => srS f (.slice Ad f.data.length cd) W h
   unfold SrAns RcAns at HR1
   rw [← hr] at HR1
   have HR1 := Lib.hid HR1
   obtain ⟨L, hL⟩ : ∃ L, L = canon (gridOf [q]) := ⟨_, rfl⟩
   have HF := fun (W : World) (u : Value) h => rofS u [q] W h
   unfold RofAns at HF
   rw [← hL] at HF
   have HF := Lib.hid HF
   have hcv := covM_yes (s := s) (k := (j : Int)) ⟨hs, by omega, by rw [← hNe]; omega⟩
   rw [show ((j : Int) + 1).toNat = j + 1 by omega] at hcv
   obtain ⟨Q, hQ⟩ : ∃ Q, Q = ocC s.w s.h (s.fs.drop (j + 1)) := ⟨_, rfl⟩
   rw [← hQ] at hcv
   have HCV := fun (W : World) h => covS s (j : Int) (.slice (some ⟨gs, 0, none⟩) N c) bs W h
   unfold RgQ at HCV
   rw [hcv] at HCV
   have HCV := Lib.hid HCV
   have HJN := fun (V' : World) (va vb : Value) (ha : RdR V' va L) (hb : RdR V' vb Q) => (jnS2 va vb L Q V' ha hb)
   unfold JoinAns at HJN
   have hJe : joinL (fun p q => p && !q) L Q = J := by rw [hJ, hL, hQ, hq]; rfl
   rw [hJe] at HJN
   have HJN := Lib.hid HJN
   have Hk := Lib.hid hk
   have q0 : IntKind.i64.wrap ((N : Int) - 1) = (N : Int) - 1 := wrap_in _ (by omega) (by omega)
   have j0 : (0 : Int) ≤ (j : Int) := by omega
   have j1 : (j : Int) < (N : Int) := by omega
   clear hs hNe hk hA hf hC hd hbd hJ hq hr hrq hL hcv hQ hJe
   go_enter Tryz.func119, Tryz.ntmps119
   go_wp2_with fail
   refine (HS.out _ (HR.out _ hT.bw)).mono ?_
   rintro e w1 ⟨rfl, hb⟩
   replace hT := hT.call hb
   clear d0 d1 d2 d3 r0 r1 hb
   obtain ⟨d0, d1, d2, d3⟩ := hT.a.cells4
   go_wp2_with fail
   refine (inS_yes _ _ _ _ Hk.out.1 Hk.out.2).mono ?_
   rintro e w2 ⟨rfl, rfl⟩
   go_upto_region 3 with fail
   clear d0 d1 d2 d3
   go_cut [5] (fun s5 wx => ∃ V, V = wx ∧ ∃ bx, s5 = .pointer (some ⟨bx, 0, none⟩) ∧ w.heap.size + 1 < bx ∧ RcAt V bx q ∧ CwS w s (.slice (some ⟨gs, 0, none⟩) N c) V)
   case first =>
    refine wp_region_held_drew (S := fun V => CwS w s (.slice (some ⟨gs, 0, none⟩) N c) V) (by kernel_rfl) (hT.call (belI_drew _)) (fun hS => ?_)
    refine tkH (i := 0) (v := .pointer (some ⟨w.heap.size, 3, none⟩)) rfl ?_
    refine tcH (i := 1) (v := .slice (some ⟨gs, 0, none⟩) N c) rfl (by intro w' hSw; (try dsimp only at hSw); (obtain ⟨a0, a1, a2, a3⟩ := hSw.a.cells4); go_simp) ?_
    refine tkH (i := 2) (v := .int .i64 (j : Int)) rfl ?_
    refine tkH (i := 3) (v := .pointer (some ⟨gs, j * 11, none⟩)) rfl ?_
    refine tcH (i := 4) (v := .agg #[.int .i64 f.id, .int .i64 f.x, .int .i64 f.y, .int .i64 f.w, .int .i64 f.h, .int .i64 f.alpha, .int .i64 f.orient, .bool f.vis, .int .i64 f.bw, .int .i64 f.bh, .slice Ad f.data.length cd]) rfl (by intro w' hSw; (try dsimp only at hSw); (obtain ⟨c0, c1, c2, c3, c4, c5, c6, c7, c8, c9, c10⟩ := (HC0.out _ hSw.bw).1); go_simp) ?_
    refine tkH (i := 6) (v := .pointer (some ⟨w.heap.size, 0, none⟩)) rfl ?_
    refine tcH (i := 7) (v := .int .i64 s.w) rfl (by intro w' hSw; (try dsimp only at hSw); (obtain ⟨a0, a1, a2, a3⟩ := hSw.a.cells4); go_simp) ?_
    refine tkH (i := 8) (v := .pointer (some ⟨w.heap.size, 1, none⟩)) rfl ?_
    refine tcH (i := 9) (v := .int .i64 s.h) rfl (by intro w' hSw; (try dsimp only at hSw); (obtain ⟨a0, a1, a2, a3⟩ := hSw.a.cells4); go_simp) ?_
    refine tkH (i := 10) (v := .agg #[.int .i64 0, .int .i64 0, .int .i64 s.w, .int .i64 s.h]) rfl ?_
    (try simp only [Act.put]); (try simp only [zPa]); (try simp only [zPb, zPc])
    refine wpAnyH_ready (rs := [5, 12]) (by kernel_rfl) (by simp) ?_
    refine (AllReadyH.cons rfl (fun K hK => ?_) (AllReadyH.cons rfl (fun K hK => ?_) AllReadyH.nil))
    ·rw [if_pos (by kernel_rfl)]
     (try simp only [zGa]); (try simp only [zGb]); (try simp only [zGc])
     go_simp
     with_reducible refine (HR1.out _ (HC0.out _ hS.bw).2).mono ?_
     rintro e W' ⟨rfl, hb⟩
     dsimp only
     refine hK.out _ _ (hS.call hb) (fun hS => ?_)
     clear hK
     (try simp only [Act.put]); (try simp only [zPa]); (try simp only [zPb, zPc])
     refine wpAnyH_ready (rs := [11, 12]) (by kernel_rfl) (by simp) ?_
     refine (AllReadyH.cons rfl (fun K hK => ?_) (AllReadyH.cons rfl (fun K hK => ?_) AllReadyH.nil))
     ·rw [if_pos (by kernel_rfl)]
      (try simp only [zGa]); (try simp only [zGb]); (try simp only [zGc])
      go_simp
      with_reducible refine (HQ.out _).mono ?_
      rintro e W' ⟨rfl, hb⟩
      dsimp only
      refine hK.out _ _ (hS.call hb) (fun hS => ?_)
      clear hK
      (try simp only [Act.put]); (try simp only [zPa]); (try simp only [zPb, zPc])
      refine wpAnyH_ready (rs := [12]) (by kernel_rfl) (by simp) ?_
      refine (AllReadyH.cons rfl (fun K hK => ?_) AllReadyH.nil)
      ·rw [if_pos (by kernel_rfl)]
       (try simp only [zGa]); (try simp only [zGb]); (try simp only [zGc])
       refine wp_alloc_rc 5 rfl rfl ?_
       intro bB W' hb GB lB
       have kB : w.heap.size + 1 < bB := Nat.lt_of_lt_of_le hS.x.lt lB
       refine hK.out _ _ (hS.call hb) (fun hS => ?_)
       clear hK
       (try simp only [Act.put]); (try simp only [zPa]); (try simp only [zPb, zPc])
       refine wpAnyH_ready (rs := [13]) (by kernel_rfl) (by simp) ?_
       refine (AllReadyH.cons rfl (fun K hK => ?_) AllReadyH.nil)
       ·rw [if_pos (by kernel_rfl)]
        (try simp only [zGa]); (try simp only [zGb]); (try simp only [zGc])
        refine wp_store_rc (.tmp 5) (.tmp 30) rfl bB ⟨0, 0, 0, 0⟩ q rfl (by first | with_reducible rfl | (go_simp; done) | rfl) GB ?_
        intro W3 IB hgB
        skip
        refine hK.out _ _ (hS.grownG kB hgB) (fun hS => ?_)
        clear hK
        (try simp only [Act.put]); (try simp only [zPa]); (try simp only [zPb, zPc])
        refine wpAnyH_done (by kernel_rfl) ?_ _
        go_wp2_with fail
        go_meet
        case rel => exact ⟨_, rfl, bB, rfl, kB, IB, hS⟩
     ·rw [if_pos (by kernel_rfl)]
      (try simp only [zGa]); (try simp only [zGb]); (try simp only [zGc])
      refine wp_alloc_rc 5 rfl rfl ?_
      intro bB W' hb GB lB
      have kB : w.heap.size + 1 < bB := Nat.lt_of_lt_of_le hS.x.lt lB
      refine hK.out _ _ (hS.call hb) (fun hS => ?_)
      clear hK
      (try simp only [Act.put]); (try simp only [zPa]); (try simp only [zPb, zPc])
      refine wpAnyH_ready (rs := [11]) (by kernel_rfl) (by simp) ?_
      refine (AllReadyH.cons rfl (fun K hK => ?_) AllReadyH.nil)
      ·rw [if_pos (by kernel_rfl)]
       (try simp only [zGa]); (try simp only [zGb]); (try simp only [zGc])
       go_simp
       with_reducible refine (HQ.out _).mono ?_
       rintro e W' ⟨rfl, hb⟩
       dsimp only
       have GB := GB.below hb GB.lt
       refine hK.out _ _ (hS.call hb) (fun hS => ?_)
       clear hK
       (try simp only [Act.put]); (try simp only [zPa]); (try simp only [zPb, zPc])
       refine wpAnyH_ready (rs := [13]) (by kernel_rfl) (by simp) ?_
       refine (AllReadyH.cons rfl (fun K hK => ?_) AllReadyH.nil)
       ·rw [if_pos (by kernel_rfl)]
        (try simp only [zGa]); (try simp only [zGb]); (try simp only [zGc])
        refine wp_store_rc (.tmp 5) (.tmp 30) rfl bB ⟨0, 0, 0, 0⟩ q rfl (by first | with_reducible rfl | (go_simp; done) | rfl) GB ?_
        intro W3 IB hgB
        skip
        refine hK.out _ _ (hS.grownG kB hgB) (fun hS => ?_)
        clear hK
        (try simp only [Act.put]); (try simp only [zPa]); (try simp only [zPb, zPc])
        refine wpAnyH_done (by kernel_rfl) ?_ _
        go_wp2_with fail
        go_meet
        case rel => exact ⟨_, rfl, bB, rfl, kB, IB, hS⟩
    ·rw [if_pos (by kernel_rfl)]
     (try simp only [zGa]); (try simp only [zGb]); (try simp only [zGc])
     refine wp_alloc_rc 5 rfl rfl ?_
     intro bB W' hb GB lB
     have kB : w.heap.size + 1 < bB := Nat.lt_of_lt_of_le hS.x.lt lB
     refine hK.out _ _ (hS.call hb) (fun hS => ?_)
     clear hK
     (try simp only [Act.put]); (try simp only [zPa]); (try simp only [zPb, zPc])
     refine wpAnyH_ready (rs := [5]) (by kernel_rfl) (by simp) ?_
     refine (AllReadyH.cons rfl (fun K hK => ?_) AllReadyH.nil)
     ·rw [if_pos (by kernel_rfl)]
      (try simp only [zGa]); (try simp only [zGb]); (try simp only [zGc])
      go_simp
      with_reducible refine (HR1.out _ (HC0.out _ hS.bw).2).mono ?_
      rintro e W' ⟨rfl, hb⟩
      dsimp only
      have GB := GB.below hb GB.lt
      refine hK.out _ _ (hS.call hb) (fun hS => ?_)
      clear hK
      (try simp only [Act.put]); (try simp only [zPa]); (try simp only [zPb, zPc])
      refine wpAnyH_ready (rs := [11]) (by kernel_rfl) (by simp) ?_
      refine (AllReadyH.cons rfl (fun K hK => ?_) AllReadyH.nil)
      ·rw [if_pos (by kernel_rfl)]
       (try simp only [zGa]); (try simp only [zGb]); (try simp only [zGc])
       go_simp
       with_reducible refine (HQ.out _).mono ?_
       rintro e W' ⟨rfl, hb⟩
       dsimp only
       have GB := GB.below hb GB.lt
       refine hK.out _ _ (hS.call hb) (fun hS => ?_)
       clear hK
       (try simp only [Act.put]); (try simp only [zPa]); (try simp only [zPb, zPc])
       refine wpAnyH_ready (rs := [13]) (by kernel_rfl) (by simp) ?_
       refine (AllReadyH.cons rfl (fun K hK => ?_) AllReadyH.nil)
       ·rw [if_pos (by kernel_rfl)]
        (try simp only [zGa]); (try simp only [zGb]); (try simp only [zGc])
        refine wp_store_rc (.tmp 5) (.tmp 30) rfl bB ⟨0, 0, 0, 0⟩ q rfl (by first | with_reducible rfl | (go_simp; done) | rfl) GB ?_
        intro W3 IB hgB
        skip
        refine hK.out _ _ (hS.grownG kB hgB) (fun hS => ?_)
        clear hK
        (try simp only [Act.put]); (try simp only [zPa]); (try simp only [zPb, zPc])
        refine wpAnyH_done (by kernel_rfl) ?_ _
        go_wp2_with fail
        go_meet
        case rel => exact ⟨_, rfl, bB, rfl, kB, IB, hS⟩
   case rest =>
    obtain ⟨V2, hV2, bx, rfl, hbx, hX, hT2⟩ := hcut
    subst hV2
    have hS : CxS w s (.slice (some ⟨gs, 0, none⟩) N c) bx q V2 := ⟨hT2.ct, hX⟩
    have hx := hT2.x
    have Hbx := Lib.hid hbx
    clear hT hT2 hX hbx
    go_upto_region 4 with fail
    refine wp_region_held_drew (S := fun V => CxS w s (.slice (some ⟨gs, 0, none⟩) N c) bx q V) (by kernel_rfl) (hS.call (belI_drew _)) (fun hS => ?_)
    replace hx := bxr_call hx (belI_drew _)
    refine tcH (i := 0) (v := .agg #[.int .i64 q.x, .int .i64 q.y, .int .i64 q.w, .int .i64 q.h]) rfl (by intro w' hSw; (try dsimp only at hSw); (obtain ⟨x0, x1, x2, x3⟩ := hSw.x.cells); go_simp) ?_
    refine tcH (i := 3) (v := .agg #[.int .i64 s.w, .int .i64 s.h, .int .i64 s.back, .slice (some ⟨gs, 0, none⟩) N c]) rfl (by intro w' hSw; (try dsimp only at hSw); (obtain ⟨a0, a1, a2, a3⟩ := hSw.c.a.cells4); go_simp) ?_
    refine tkH (i := 4) (v := .int .i64 (j : Int)) rfl ?_
    (try simp only [Act.put]); (try simp only [zPa]); (try simp only [zPb, zPc])
    refine wpAnyH_ready (rs := [1]) (by kernel_rfl) (by simp) ?_
    refine (AllReadyH.cons rfl (fun K hK => ?_) AllReadyH.nil)
    ·rw [if_pos (by kernel_rfl)]
     (try simp only [zGa]); (try simp only [zGb]); (try simp only [zGc])
     refine wp_build1 32 (.tmp 31) q rfl (by first | with_reducible rfl | (go_simp; done) | rfl) rfl ?_
     intro b1 W' hb k1
     have hx := bxr_call hx hb
     refine hK.out _ _ (hS.call hb) (fun hS => ?_)
     clear hK
     (try simp only [Act.put]); (try simp only [zPa]); (try simp only [zPb, zPc])
     refine wpAnyH_ready (rs := [2]) (by kernel_rfl) (by simp) ?_
     refine (AllReadyH.cons rfl (fun K hK => ?_) AllReadyH.nil)
     ·rw [if_pos (by kernel_rfl)]
      (try simp only [zGa]); (try simp only [zGb]); (try simp only [zGc])
      go_simp
      with_reducible refine (HF.out _ _ k1).mono ?_
      rintro e W' ⟨z, rfl, hz, hb⟩
      dsimp only
      obtain ⟨Az, cz, rfl⟩ := own_shape hz
      have hx := bxr_call hx hb
      have k1 := k1.call hb
      refine hK.out _ _ (hS.call hb) (fun hS => ?_)
      clear hK
      (try simp only [Act.put]); (try simp only [zPa]); (try simp only [zPb, zPc])
      refine wpAnyH_ready (rs := [5]) (by kernel_rfl) (by simp) ?_
      refine (AllReadyH.cons rfl (fun K hK => ?_) AllReadyH.nil)
      ·rw [if_pos (by kernel_rfl)]
       (try simp only [zGa]); (try simp only [zGb]); (try simp only [zGc])
       go_simp
       with_reducible refine (HCV.out _ (HR.out _ hS.c.bw)).mono ?_
       rintro e W' ⟨y, rfl, hy, hb⟩
       dsimp only
       obtain ⟨Ay, cy, rfl⟩ := own_shape hy
       have hx := bxr_call hx hb
       have k1 := k1.call hb
       have hz := own_call2 hz hb
       refine hK.out _ _ (hS.call hb) (fun hS => ?_)
       clear hK
       (try simp only [Act.put]); (try simp only [zPa]); (try simp only [zPb, zPc])
       refine wpAnyH_ready (rs := [6]) (by kernel_rfl) (by simp) ?_
       refine (AllReadyH.cons rfl (fun K hK => ?_) AllReadyH.nil)
       ·rw [if_pos (by kernel_rfl)]
        (try simp only [zGa]); (try simp only [zGb]); (try simp only [zGc])
        go_simp
        have hxl := hx.lt
        with_reducible refine (HJN.out _ _ _ (RdR.of_own hz) (RdR.of_own hy)).mono ?_
        rintro e W' ⟨p, rfl, hp, hb⟩
        dsimp only
        obtain ⟨Ap, cp, rfl⟩ := own_shape hp
        have hx := bxr_call hx hb
        have k1 := k1.call hb
        have hz := own_call2 hz hb
        have hy := own_call2 hy hb
        refine hK.out _ _ (hS.call hb) (fun hS => ?_)
        clear hK
        (try simp only [Act.put]); (try simp only [zPa]); (try simp only [zPb, zPc])
        refine wpAnyH_ready (rs := [7]) (by kernel_rfl) (by simp) ?_
        refine (AllReadyH.cons rfl (fun K hK => ?_) AllReadyH.nil)
        ·rw [if_pos (by kernel_rfl)]
         (try simp only [zGa]); (try simp only [zGb]); (try simp only [zGc])
         have cS := (bxr_cells hx).1
         have fS := (bxr_cells hx).2
         go_simp
         clear cS fS
         have hx9 := cell_set_self (bxr_cells hx).1 (.slice Ap J.length cp)
         skip
         skip
         skip
         have hp9 := own_set hp (B := w.heap.size) (g := w.heap.size + 1) (by omega) (by omega) (.slice Ap J.length cp)
         refine hK.out _ _ (hS.set Hbx.out _) (fun hS => ?_)
         clear hK
         (try simp only [Act.put]); (try simp only [zPa]); (try simp only [zPb, zPc])
         refine wpAnyH_done (by kernel_rfl) ?_ _
         have HS9 := Lib.hid hS
         have HP9 := Lib.hid hp9
         clear hp9
         go_wp2_with fail
         refine bodyPost_ret (v := .agg #[.slice Ap J.length cp]) (by simp [results, Tryz.results119, go_sem, hx9]) rfl ?_
         rw [HA.out]
         exact ⟨_, rfl, HP9.out, HS9.out.c.bw⟩
  ·have HA := Lib.hid (visM_no (s := s) (k := k) fun h => hk ⟨h.2.1, by rw [hNe]; exact h.2.2⟩)
   have q0 : IntKind.i64.wrap ((N : Int) - 1) = (N : Int) - 1 := wrap_in _ (by omega) (by omega)
   have Hk : Hid (k < 0 ∨ (N : Int) - 1 < k) := Lib.hid (by omega)
   clear hs hNe hk
   go_enter Tryz.func119, Tryz.ntmps119
   go_wp2_with fail
   refine (HS.out _ (HR.out _ hT.bw)).mono ?_
   rintro e w1 ⟨rfl, hb⟩
   replace hT := hT.call hb
   clear d0 d1 d2 d3 r0 r1 hb
   obtain ⟨d0, d1, d2, d3⟩ := hT.a.cells4
   obtain ⟨r0, r1⟩ := hT.res
   go_wp2_with fail
   refine (inS_no _ _ _ _ Hk.out).mono ?_
   rintro e w2 ⟨rfl, rfl⟩
   go_wp2_with fail
   refine bodyPost_ret (v := .agg #[.slice none 0 0]) (by simp [results, Tryz.results119, go_sem, r0]) rfl ?_
   rw [HA.out]
   exact rg_zero hT.bw
 ·rw [snB_no hs] at HS
  have HS := Lib.hid HS
  have HA := Lib.hid (visM_no (s := s) (k := k) fun h => hs h.1)
  have HR := Lib.hid hR
  clear hs h hR
  go_enter Tryz.func119, Tryz.ntmps119
  go_wp2_with fail
  refine (HS.out _ (HR.out _ hT.bw)).mono ?_
  rintro e w1 ⟨rfl, hb⟩
  replace hT := hT.call hb
  clear d0 d1 d2 d3 r0 r1 hb
  obtain ⟨r0, r1⟩ := hT.res
  go_wp2_with fail
  refine bodyPost_ret (v := .agg #[.slice none 0 0]) (by simp [results, Tryz.results119, go_sem, r0]) rfl ?_
  rw [HA.out]
  exact rg_zero hT.bw
end Go.Proofs.YtdgagooldlnpeaaGreat
namespace Go.Proofs.YtdgagooldlnpeaaGreat
open Go.RowKit
def pref (n : Nat) (F D : Nat → Int) : Nat → Int := fun k => if k < n then F k else D k
theorem pref_zero (F D : Nat → Int) (k : Nat) : pref 0 F D k = D k := if_neg (by omega)
theorem pref_all {n : Nat} (F D : Nat → Int) {k : Nat} (h : k < n) : pref n F D k = F k := if_pos h
theorem pref_at (n : Nat) (F D : Nat → Int) : pref n F D n = D n := if_neg (by omega)
theorem pref_set (n k : Nat) (F D : Nat → Int) {v : Int} (hv : v = F n) : (if k = n then v else pref n F D k) = pref (n + 1) F D k := by
 unfold pref
 by_cases e : k = n
 ·subst e; rw [if_pos rfl, if_pos (by omega), hv]
 ·rw [if_neg e]
  by_cases h : k < n
  ·rw [if_pos h, if_pos (by omega)]
  ·rw [if_neg h, if_neg (by omega)]
theorem pref_skip (n k : Nat) (F D : Nat → Int) (hv : F n = D n) : pref n F D k = pref (n + 1) F D k := by
 unfold pref
 by_cases h : k < n
 ·rw [if_pos h, if_pos (by omega)]
 ·rw [if_neg h]
  by_cases e : k = n
  ·subst e; rw [if_pos (by omega), hv]
  ·rw [if_neg (by omega)]
set_option maxHeartbeats 1000000 in
set_option maxRecDepth 10000 in
theorem scrS (s : Sn) (v : Value) (w : World) : Calls Tryz.prog 118 #[.agg #[.int .i64 s.w, .int .i64 s.h, .int .i64 s.back, v]] w (RofAns [⟨0, 0, s.w, s.h⟩] w) := by
 have hT := CwS.born (w := w) (s := s) (v := v)
 obtain ⟨d0, d1, d2, d3⟩ := hT.a.cells4
 have hT1 := hT.call (belI_box _ (.cells #[.int .i64 0, .int .i64 0, .int .i64 s.w, .int .i64 s.h] 113))
 obtain ⟨V, hV⟩ : ∃ V, V = ((w.alloc (.cells #[.int .i64 s.w, .int .i64 s.h, .int .i64 s.back, v] 34)).alloc (.cells #[.slice none 0 0] 30)).alloc (.cells #[.int .i64 0, .int .i64 0, .int .i64 s.w, .int .i64 s.h] 113) := ⟨_, rfl⟩
 have hx : RcAt V (w.heap.size + 1 + 1) ⟨0, 0, s.w, s.h⟩ := by rw [hV]; exact RcAt.newAt (by simp) ⟨0, 0, s.w, s.h⟩
 rw [← hV] at hT1
 have HF := rofS (.slice (some ⟨w.heap.size + 1 + 1, 0, none⟩) 1 1) [⟨0, 0, s.w, s.h⟩] V (RdR.one hx)
 obtain ⟨L, hL⟩ : ∃ L, L = canon (gridOf [⟨0, 0, s.w, s.h⟩]) := ⟨_, rfl⟩
 unfold RofAns at HF ⊢
 rw [← hL] at HF ⊢
 have HF := Lib.hid HF
 have HT1 := Lib.hid hT1
 have HV := Lib.hid hV
 clear hL hT hT1 hV hx
 go_enter Tryz.func118, Tryz.ntmps118
 go_wp2_with fail
 rw [← HV.out]
 refine HF.out.mono ?_
 rintro e w2 ⟨z, rfl, hz, hb⟩
 obtain ⟨Az, cz, rfl⟩ := own_shape hz
 have HT2 := Lib.hid (HT1.out.call hb)
 have hs1 := HT1.out.x.lt
 obtain ⟨r0, r1⟩ := HT2.out.res
 have Hz := Lib.hid hz
 clear hz hb d0 d1 d2 d3
 go_wp2_with fail
 exact bodyPost_ret (v := .agg #[.slice Az L.length cz]) (by simp [results, Tryz.results118, go_sem, r0]) rfl ⟨_, rfl, own_set Hz.out (by omega) (by omega) _, HT2.out.bw.setCell (by simp) _⟩
structure PvC (w : World) (W H : Nat) (sb : Int) (fs : List Sf) (v : Value) (bs : List Nat) (bo : Nat) (u : Value) (br : Nat) (r : Rc) (bp : Nat) (P : Im) (up : Value) (bg : Nat) (L : List Rc) (V : World) : Prop where
 p : PnA w W H sb fs v bs bo u V
 r : RcAt V br r
 i : ImAt V bp 55 P.w P.h up
 d : RdI V up P.d
 g : GrAt V bg 4 (gridOf L)
def PvO (w : World) (bs : List Nat) (bo gq br bp gp bg : Nat) : Prop := ((∀ b ∈ bs, b < w.heap.size) ∧ w.heap.size + 1 < gq ∧ bo ≠ gq) ∧ br ≠ gq ∧ bp ≠ gq ∧ bg ≠ gq ∧ gp ≠ gq
theorem PvC.call {w : World} {W H : Nat} {sb : Int} {fs : List Sf} {v : Value} {bs : List Nat} {bo : Nat} {u : Value} {br : Nat} {r : Rc} {bp : Nat} {P : Im} {up : Value} {bg : Nat} {L : List Rc} {V V' : World} (k : PvC w W H sb fs v bs bo u br r bp P up bg L V) (hb : Below V.heap.size V V') : PvC w W H sb fs v bs bo u br r bp P up bg L V' :=
 ⟨k.p.call hb, k.r.below hb k.r.lt, k.i.call hb, k.d.call hb, k.g.below hb k.g.lt⟩
theorem PvC.set {w : World} {W H : Nat} {sb : Int} {fs : List Sf} {v : Value} {bs : List Nat} {bo gq gp pn cp : Nat} {u : Value} {br : Nat} {r : Rc} {bp : Nat} {P : Im} {bg : Nat} {L : List Rc} {V V' : World} (k : PvC w W H sb fs v bs bo u br r bp P (.slice (some ⟨gp, 0, none⟩) pn cp) bg L V) (ho : PvO w bs bo gq br bp gp bg) (hg : V.grownBy V' (some gq)) : PvC w W H sb fs v bs bo u br r bp P (.slice (some ⟨gp, 0, none⟩) pn cp) bg L V' :=
 ⟨k.p.set ho.1 hg, k.r.grownI hg (fun e => ho.2.1 (Option.some.inj e)), k.i.grown hg (fun e => ho.2.2.1 (Option.some.inj e)), k.d.grown hg (fun q hq e => by have h1 : gp = q := (by simpa [Value.ownBlock] using hq); have h2 := Option.some.inj e; exact ho.2.2.2.2 (h1.trans h2)), k.g.grownI hg (fun e => ho.2.2.2.1 (Option.some.inj e))⟩
end Go.Proofs.YtdgagooldlnpeaaGreat
