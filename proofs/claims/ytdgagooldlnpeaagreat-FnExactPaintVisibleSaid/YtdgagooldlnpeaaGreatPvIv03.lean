/- The contract of PaintVisible of the program. No statement is proved here. -/
import Derived.Test.YtdgagooldlnpeaaGreatMA
import Derived.Test.YtdgagooldlnpeaaGreatMB
import Derived.Test.YtdgagooldlnpeaaGreatMAv023
import Derived.Test.YtdgagooldlnpeaaGreatMBv023
import Derived.Test.YtdgagooldlnpeaaGreatMAv013
import Derived.Test.YtdgagooldlnpeaaGreatMC
import Derived.Test.YtdgagooldlnpeaaGreatB0na
import Derived.Test.YtdgagooldlnpeaaGreatSnS
import Derived.Test.YtdgagooldlnpeaaGreatMAv03
import Derived.Test.YtdgagooldlnpeaaGreatCombIv013
import Derived.Test.YtdgagooldlnpeaaGreatB1nav013
import Derived.Test.YtdgagooldlnpeaaGreatB1sav013
import Derived.Test.YtdgagooldlnpeaaGreatSfP
import Derived.Test.YtdgagooldlnpeaaGreatB2sa
import Derived.Test.YtdgagooldlnpeaaGreatB2sav013
import Derived.Test.YtdgagooldlnpeaaGreatB2sav03
import Derived.Test.YtdgagooldlnpeaaGreatSeIv013
import Derived.Test.YtdgagooldlnpeaaGreatB3sav03
import Derived.Test.YtdgagooldlnpeaaGreatPnI
import Derived.Test.YtdgagooldlnpeaaGreatB3sa
import Derived.Test.YtdgagooldlnpeaaGreatProg
import Derived.WalkKit
import Derived.ProofKit
import Derived.OpenShut
import Derived.WalkLawsBesides
import Derived.WalkSpells
import Derived.ShutString
import Derived.ChangeOld
import Derived.Below
import Derived.Lib.Hide
import Derived.BigQuiet
import Derived.Deep.QuietTactic
import Derived.Maps.AppendAt
import Derived.Deep.OwnRows
import Derived.Handy
import Derived.Deep.Draws
import Derived.OwnWalk
import Derived.Deep.AppendLies
import Derived.Deep.LoopGhost
import Derived.Deep.Onto
import Derived.Deep.MidRow
import Derived.Deep.WholeRow
import Derived.Laws.BitsAllLaws
import Derived.Lib.QuoteBits
import Derived.Deep.RegionHeld3
import Derived.Deep.DeepCutAuto
import Derived.Test.YtdgagooldlnpeaaGreatShelf
import Derived.Laws.CopyOwn
import Derived.Deep.RegionLaw
import Derived.Great.BuildSlice
import Derived.Shelf.RegionOpenPlain
import Derived.Lib.SliceRun
import Derived.Deep.RegionWith
import Derived.Laws.AppendOwn
import Derived.ChangeKeysEq
import Derived.Deep.DeepAppendRoom
namespace Go.Proofs.YtdgagooldlnpeaaGreat
open Go.RowKit
theorem PnZ.far {w : World} {s : Sn} {v : Value} {bs : List Nat} {b : Nat} {V V' : World} (h : PnZ w s v bs V) (hb : w.heap.size + 1 < b) (hold : ∀ q ∈ bs, q < w.heap.size) (hg : V.grownBy V' (some b)) : PnZ w s v bs V' :=
 ⟨sn_own_grown h.a hold (Nat.le_refl _) (by omega) hg, h.r.grown hg (fun e => by have := Option.some.inj e; omega), below_grownG h.bw hg (by omega)⟩
def PvAns (I : Im) (n : Int) (w : World) (e : Ending) (w' : World) : Prop :=
 ∃ u, e = .returned (.tuple #[.agg #[.int .i64 I.w, .int .i64 I.h, u], .int .i64 n]) ∧ w'.ownsRow w.heap.size 3 1 u I.d.length (intCells I.d) ∧ Below w.heap.size w w'
theorem pv_set {w W : World} {lo b n : Nat} {X Y x : Int} {A : Option Addr} {c : Nat} {L : List Int} (h : W.ownsRow lo 3 1 (.slice A n c) n (intCells L)) (hn : L.length = n) (hb1 : w.heap.size ≤ b) (hb2 : b < lo) (K : Below w.heap.size w W) :
  PvAns ⟨X, Y, L⟩ x w (.returned (.tuple #[.agg #[.int .i64 X, .int .i64 Y, .slice A n c], .int .i64 x])) (((W.setCell ⟨b, 0, none⟩ (.int .i64 X)).setCell ⟨b, 1, none⟩ (.int .i64 Y)).setCell ⟨b, 2, none⟩ (.slice A n c)) := by
 subst hn
 have hlt := fun g hg => (h.lt g hg).1
 exact ⟨_, rfl, ownI_far (ownI_far (ownI_far (h.mono (by omega)) (fun g hg => by have := hlt g hg; dsimp only; omega) _) (fun g hg => by have := hlt g hg; dsimp only; omega) _) (fun g hg => by have := hlt g hg; dsimp only; omega) _, ((K.setCell hb1 _).setCell hb1 _).setCell hb1 _⟩
theorem pv_zero {w W : World} (hb : Below w.heap.size w W) : PvAns zeroIm 0 w (.returned (.tuple #[.agg #[.int .i64 0, .int .i64 0, .slice none 0 0], .int .i64 0])) (((W.setCell ⟨w.heap.size + 1, 0, none⟩ (.int .i64 0)).setCell ⟨w.heap.size + 1, 1, none⟩ (.int .i64 0)).setCell ⟨w.heap.size + 1, 2, none⟩ (.slice none 0 0)) :=
 ⟨_, rfl, World.ownsRow_nil _ _ _ _, ((hb.setCell (by simp) _).setCell (by simp) _).setCell (by simp) _⟩
theorem halfP_blk {B : Nat} {w : World} {M : List Pl} {A : Option Addr} {n c k : Nat} {bs : List Nat} (h : HalfP B w M (.slice A n c) bs) {p : Pl} (hp : M[k]? = some p) : ∃ g u d, A = some ⟨g, 0, none⟩ ∧ C12 w g (k * 12) p.1 u d ∧ PlE w p u d ∧ (∀ q, u.ownBlock = some q → q ∈ bs) ∧ (∀ q, d.ownBlock = some q → q ∈ bs) := by
 obtain ⟨xs, bss, hr, hls, how, rfl⟩ := h.ex
 have hk := (List.getElem?_eq_some_iff.1 hp).1
 obtain ⟨x, b, hx, hb, hR⟩ := rowsR_at hr k _ hp
 obtain ⟨u, d, b2, rfl, ho, hd, rfl⟩ := hR
 rcases how.2 with ⟨he, h0⟩ | ⟨g, cap, cur, he, _⟩
 ·omega
 ·injection he with e1 e2 e3
  subst e1 e2 e3
  refine ⟨g, u, d, rfl, c12_of fun j y hy => ?_, ⟨ho, repInts_rd hd⟩, fun q hq => ?_, fun q hq => ?_⟩
  ·have hj : j < 12 := (List.getElem?_eq_some_iff.1 hy).1
   exact own_cellI how (by rw [flat_at hls k j hx hj]; exact hy)
  ·exact flat_mem hb (List.mem_append.2 (.inl (by rw [hq]; simp)))
  ·obtain ⟨v', e2, _, rfl⟩ := hd
   obtain rfl : d = v' := by simpa using e2
   exact flat_mem hb (List.mem_append.2 (.inr (by rw [hq]; simp)))
structure SeE (lo : Nat) (V : World) (g gq k : Nat) (f : Sf) (L : List Rc) (u d : Value) : Prop where
 c : C12 V g (k * 12) f u d
 r : V.ownsRow lo 113 4 u L.length (rcsCells L)
 d : RdI V d f.data
 u : ∀ q, u.ownBlock = some q → q ≠ gq
theorem see_of {w0 w V : World} {W H : Int} {fs : List Sf} {bs : List Nat} {g gq N : Nat} (h : SeT w0 W H fs bs g N N w) (hbs : ∀ b ∈ bs, b < gq) (hq : gq < w0.heap.size) (hg : w0.heap.size ≤ g) (hV : w.grownBy V (some gq)) {k : Nat} {f : Sf} (hf : fs[k]? = some f) (hk : k < N) :
  ∃ u d, SeE w0.heap.size V g gq k f (ocV W H f (fs.drop (k + 1))) u d := by
 obtain ⟨cs, hP, hcs⟩ := h.p
 obtain ⟨g', u, d, e1, hC, hE, h1, h2⟩ := halfP_blk hP (seK_all W H hf N hk)
 injection e1 with e1
 injection e1 with e1 _ _
 subst e1
 obtain ⟨u', hu1, hu2, hu3⟩ := h.v k f hk hf
 obtain rfl : u' = u := Option.some.inj (hu1.symm.trans hC.c0)
 have hne : ∀ q, q ∈ cs → q ≠ gq := fun q hm e => by
  rcases hcs q hm with hb | hb
  ·have := hbs q hb; omega
  ·omega
 have hug : ∀ q, u'.ownBlock = some q → q ≠ gq := fun q hq => hne q (h1 q hq)
 refine ⟨u', d, hC.kept (hV.block g hC.lt fun e => by have := Option.some.inj e; omega), own_chgN hu2 (Chg.of_grown hV) fun b hb e => hug b (by simpa using hb) (by simpa using e), hE.d.grown hV fun q hq e => hne q (h2 q hq) (Option.some.inj e), hug⟩
set_option maxHeartbeats 4000000 in
set_option maxRecDepth 100000 in
theorem pvI_ok (W H : Nat) (sb : Int) (fs : List Sf) (v : Value) (bs : List Nat) (w : World) (hs : snOk ⟨W, H, sb, fs⟩) (h : repSfs.R w fs [v] bs) :
  Calls Tryz.prog 53 #[.agg #[.int .i64 W, .int .i64 H, .int .i64 sb, v]] w (PvAns (pvIm ⟨W, H, sb, fs⟩) (pvN ⟨W, H, sb, fs⟩) w) := by
 obtain ⟨D0, hD0⟩ : ∃ D, D = flatN W H sb := ⟨_, rfl⟩
 have HA : Hid (pvIm ⟨W, H, sb, fs⟩ = ⟨W, H, ocK W H fs D0 fs.length⟩) := Lib.hid (by rw [pvIm_yes hs, hD0]; rfl)
 have HC := fun V => newI W H sb V
 unfold AnsIm at HC
 rw [new_yes hs.1 hs.2.1.1, ← hD0] at HC
 dsimp only at HC
 have HC := Lib.hid HC
 obtain ⟨m, hm⟩ : ∃ m, m = D0.length := ⟨_, rfl⟩
 have hmW : m = W * H := by rw [hm, hD0]; unfold flatN; rw [tabI_length, ← Int.natCast_mul, Int.toNat_natCast]
 obtain ⟨wl, wh, hl, hh⟩ : 1 ≤ W ∧ W ≤ 16 ∧ 1 ≤ H ∧ H ≤ 16 := by have := hs.1; unfold szOk at this; dsimp only at this; omega
 have hm1 : 1 ≤ m := by rw [hmW]; exact Nat.mul_pos wl hl
 have hm2 : m ≤ 256 := by rw [hmW]; exact mul_256 wh hh
 have HSO := fun V h => snI ⟨W, H, sb, fs⟩ v bs V h
 unfold SnOkAns at HSO
 rw [snB_yes hs] at HSO
 dsimp only at HSO
 have Hs := Lib.hid hs
 have hold : ∀ b ∈ bs, b < w.heap.size := fun b hb => repSfs.ex h b hb
 obtain ⟨⟨A, c, rfl⟩, hml⟩ := repSfs_form h
 obtain ⟨N, hN⟩ : ∃ N, N = fs.length := ⟨_, rfl⟩
 have hZ := PnZ.born (s := ⟨W, H, sb, fs⟩) h
 dsimp only at hZ
 have hN6 : N ≤ 6 := by rw [hN]; exact hs.2.2.1
 have hcv := covM_yes (s := ⟨W, H, sb, fs⟩) (k := -1) ⟨hs, by omega, by omega⟩
 rw [show ((-1 : Int) + 1).toNat = 0 by omega, List.drop_zero] at hcv
 obtain ⟨Q, hQ⟩ : ∃ Q, Q = ocC W H fs := ⟨_, rfl⟩
 dsimp only at hcv
 rw [← hQ] at hcv
 have HCV := fun (W' : World) h => covI ⟨W, H, sb, fs⟩ (-1) (.slice A fs.length c) bs W' h
 unfold RgQ at HCV
 rw [hcv] at HCV
 dsimp only at HCV
 have hP := fun (W' : World) h => seenI ⟨W, H, sb, fs⟩ (.slice A fs.length c) bs W' (by dsimp only; rw [← hN]; exact hN6) h
 unfold SeenAns at hP
 dsimp only at hP
 obtain ⟨ac, hac⟩ : ∃ a, a = areaR Q := ⟨_, rfl⟩
 have hac2 := area_bd Q
 have HAR := fun (u : Value) (W' : World) h => areaI u Q W' h
 rw [← hac] at HAR hac2
 have HX : Hid (pvN ⟨W, H, sb, fs⟩ = (m : Int) - ac + ocA W H fs fs.length) := Lib.hid (by
  rw [pvN_yes hs, hac, hQ, hmW]
  dsimp only
  rw [Int.natCast_mul, Int.toNat_natCast, Int.toNat_natCast])
 rw [← hN] at hml HSO hZ HCV hP HA HX ⊢
 have HSO := Lib.hid HSO
 have HCV := Lib.hid HCV
 have HP := Lib.hid hP
 have HAR := Lib.hid HAR
 have HN := Lib.hid hN
 have Hm := Lib.hid hm
 have HmW := Lib.hid hmW
 have Hold := Lib.hid hold
 have HOA := Lib.hid (fun k => ocA_bd W H fs k)
 have q0 : IntKind.i64.wrap ((W : Int) * (H : Int)) = (m : Int) := by rw [hmW, wrap_in _ (by have := Int.natCast_mul W H; omega) (by have := Int.natCast_mul W H; omega)]; simp
 have q1 : IntKind.i64.wrap ((m : Int) - ac) = (m : Int) - ac := wrap_in _ (by omega) (by omega)
 obtain ⟨d0, d1, d2, d3⟩ := hZ.a.cells
 dsimp only at d0 d1 d2 d3
 clear hs hD0 hm hmW hN h hold hml hQ hcv hac
 go_enter Tryz.func53, Tryz.ntmps53
 go_wp2_with fail
 refine (HSO.out _ hZ.a.r).mono ?_
 rintro e w0 ⟨rfl, hb⟩
 replace hZ := hZ.call hb
 clear d0 d1 d2 d3 hb
 go_upto_region 3 with fail
 go_cut [4, 5] (fun s4 s5 wx => ∃ V, V = wx ∧ ∃ (bo gq cq : Nat), s4 = .pointer (some ⟨bo, 0, none⟩) ∧ s5 = .int .i64 ((m : Int) - ac) ∧ (w.heap.size + 1 < gq ∧ gq < V.heap.size ∧ bo ≠ gq ∧ w.heap.size + 1 < bo) ∧ PnA w W H sb fs (.slice A N c) bs bo (.slice (some ⟨gq, 0, none⟩) m cq) V ∧ V.ownsRow (w.heap.size + 2) 3 1 (.slice (some ⟨gq, 0, none⟩) m cq) m (intCells D0))
 case first =>
  refine wp_region_held_drew (S := fun V => PnZ w ⟨W, H, sb, fs⟩ (.slice A N c) bs V) (by kernel_rfl) (hZ.call (belI_drew _)) (fun hS => ?_)
  refine tkH (i := 0) (v := .pointer (some ⟨w.heap.size, 0, none⟩)) rfl ?_
  refine tcH (i := 1) (v := .int .i64 (W : Int)) rfl (by intro w' hSw; (try dsimp only at hSw); (obtain ⟨d0, d1, d2, d3⟩ := hSw.a.cells); ((try dsimp only at d0 d1 d2 d3)); go_simp) ?_
  refine tkH (i := 2) (v := .pointer (some ⟨w.heap.size, 1, none⟩)) rfl ?_
  refine tcH (i := 3) (v := .int .i64 (H : Int)) rfl (by intro w' hSw; (try dsimp only at hSw); (obtain ⟨d0, d1, d2, d3⟩ := hSw.a.cells); ((try dsimp only at d0 d1 d2 d3)); go_simp) ?_
  refine tkH (i := 4) (v := .pointer (some ⟨w.heap.size, 2, none⟩)) rfl ?_
  refine tcH (i := 5) (v := .int .i64 sb) rfl (by intro w' hSw; (try dsimp only at hSw); (obtain ⟨d0, d1, d2, d3⟩ := hSw.a.cells); ((try dsimp only at d0 d1 d2 d3)); go_simp) ?_
  refine tkH (i := 7) (v := .pointer (some ⟨w.heap.size, 0, none⟩)) rfl ?_
  refine tcH (i := 8) (v := .int .i64 (W : Int)) rfl (by intro w' hSw; (try dsimp only at hSw); (obtain ⟨d0, d1, d2, d3⟩ := hSw.a.cells); ((try dsimp only at d0 d1 d2 d3)); go_simp) ?_
  refine tkH (i := 9) (v := .pointer (some ⟨w.heap.size, 1, none⟩)) rfl ?_
  refine tcH (i := 10) (v := .int .i64 (H : Int)) rfl (by intro w' hSw; (try dsimp only at hSw); (obtain ⟨d0, d1, d2, d3⟩ := hSw.a.cells); ((try dsimp only at d0 d1 d2 d3)); go_simp) ?_
  refine tkH (i := 11) (v := .int .i64 (m : Int)) rfl ?_
  refine tcH (i := 12) (v := .agg #[.int .i64 W, .int .i64 H, .int .i64 sb, .slice A N c]) rfl (by intro w' hSw; (try dsimp only at hSw); (obtain ⟨d0, d1, d2, d3⟩ := hSw.a.cells); ((try dsimp only at d0 d1 d2 d3)); go_simp) ?_
  (try simp only [Act.put]); (try simp only [zPa]); (try simp only [zPb, zPc])
  refine wpAnyH_ready (rs := [6, 16]) (by kernel_rfl) (by simp) ?_
  refine (AllReadyH.cons rfl (fun K hK => ?_) (AllReadyH.cons rfl (fun K hK => ?_) AllReadyH.nil))
  ·rw [if_pos (by kernel_rfl)]
   (try simp only [zGa]); (try simp only [zGb]); (try simp only [zGc])
   go_simp
   have hz1 := hS.r.lt
   with_reducible refine (HC.out _).mono ?_
   rintro e W' ⟨u, rfl, hown, hb⟩
   dsimp only
   rw [← Hm.out] at hown
   obtain ⟨gq, cq, hu, hg1, hg2⟩ := hown.form (by omega)
   subst hu
   replace hown := hown.mono (show w.heap.size + 2 ≤ _ by omega)
   have hgl : w.heap.size + 1 < gq := by omega
   refine hK.out _ _ (hS.call hb) (fun hS => ?_)
   clear hK
   (try simp only [Act.put]); (try simp only [zPa]); (try simp only [zPb, zPc])
   refine wpAnyH_ready (rs := [13, 16]) (by kernel_rfl) (by simp) ?_
   refine (AllReadyH.cons rfl (fun K hK => ?_) (AllReadyH.cons rfl (fun K hK => ?_) AllReadyH.nil))
   ·rw [if_pos (by kernel_rfl)]
    (try simp only [zGa]); (try simp only [zGb]); (try simp only [zGc])
    go_simp
    with_reducible refine (HCV.out _ hS.a.r).mono ?_
    rintro e W' ⟨z, rfl, hz, hb⟩
    dsimp only
    obtain ⟨Az, cz, rfl⟩ := own_shape hz
    have hown := ownI_call hown hb
    refine hK.out _ _ (hS.call hb) (fun hS => ?_)
    clear hK
    (try simp only [Act.put]); (try simp only [zPa]); (try simp only [zPb, zPc])
    refine wpAnyH_ready (rs := [14, 16]) (by kernel_rfl) (by simp) ?_
    refine (AllReadyH.cons rfl (fun K hK => ?_) (AllReadyH.cons rfl (fun K hK => ?_) AllReadyH.nil))
    ·rw [if_pos (by kernel_rfl)]
     (try simp only [zGa]); (try simp only [zGb]); (try simp only [zGc])
     go_simp
     with_reducible refine (HAR.out _ _ (RdR.of_own hz)).mono ?_
     rintro e W' ⟨rfl, hb⟩
     dsimp only
     have hown := ownI_call hown hb
     have hz := own_call2 hz hb
     refine hK.out _ _ (hS.call hb) (fun hS => ?_)
     clear hK
     (try simp only [Act.put]); (try simp only [zPa]); (try simp only [zPb, zPc])
     refine tkH (i := 15) (v := .int .i64 ((m : Int) - ac)) rfl ?_
     (try simp only [Act.put]); (try simp only [zPa]); (try simp only [zPb, zPc])
     refine wpAnyH_ready (rs := [16]) (by kernel_rfl) (by simp) ?_
     refine (AllReadyH.cons rfl (fun K hK => ?_) AllReadyH.nil)
     ·rw [if_pos (by kernel_rfl)]
      (try simp only [zGa]); (try simp only [zGb]); (try simp only [zGc])
      refine wp_alloc_im 55 (fun _ => by kernel_rfl) 4 rfl rfl ?_
      intro bB W' hb GB lB
      have kB : w.heap.size + 1 < bB := Nat.lt_of_lt_of_le hS.r.lt lB
      have HBG : bB ≠ gq := by have h1 := (hown.lt gq rfl).2; omega
      have hown := ownI_call hown hb
      have hz := own_call2 hz hb
      refine hK.out _ _ (hS.call hb) (fun hS => ?_)
      clear hK
      (try simp only [Act.put]); (try simp only [zPa]); (try simp only [zPb, zPc])
      refine wpAnyH_ready (rs := [17]) (by kernel_rfl) (by simp) ?_
      refine (AllReadyH.cons rfl (fun K hK => ?_) AllReadyH.nil)
      ·rw [if_pos (by kernel_rfl)]
       (try simp only [zGa]); (try simp only [zGb]); (try simp only [zGc])
       have hbg : bB ≠ gq := HBG
       refine wp_store_im 55 size26 (.tmp 4) (.tmp 18) rfl bB 0 0 _ W H _ m cq rfl (by first | with_reducible rfl | (go_simp; done) | rfl) GB ?_
       intro W3 IB hgB
       have ho9 := hown.kept hgB (.inr (fun e => hbg (Option.some.inj e).symm))
       skip
       skip
       refine hK.out _ _ (hS.far kB Hold.out hgB) (fun hS => ?_)
       clear hK
       (try simp only [Act.put]); (try simp only [zPa]); (try simp only [zPb, zPc])
       refine tkH (i := 18) (v := .int .i64 ((m : Int) - ac)) rfl ?_
       refine wpAnyH_done (by kernel_rfl) ?_ _
       have hq9 := (ho9.lt gq rfl).2
       go_wp2_with fail
       go_meet
       case rel => exact ⟨_, rfl, bB, gq, cq, rfl, rfl, ⟨hgl, hq9, hbg, kB⟩, ⟨hS.a, hS.r, IB, hS.bw⟩, ho9⟩
    ·rw [if_pos (by kernel_rfl)]
     (try simp only [zGa]); (try simp only [zGb]); (try simp only [zGc])
     refine wp_alloc_im 55 (fun _ => by kernel_rfl) 4 rfl rfl ?_
     intro bB W' hb GB lB
     have kB : w.heap.size + 1 < bB := Nat.lt_of_lt_of_le hS.r.lt lB
     have HBG : bB ≠ gq := by have h1 := (hown.lt gq rfl).2; omega
     have hown := ownI_call hown hb
     have hz := own_call2 hz hb
     refine hK.out _ _ (hS.call hb) (fun hS => ?_)
     clear hK
     (try simp only [Act.put]); (try simp only [zPa]); (try simp only [zPb, zPc])
     refine wpAnyH_ready (rs := [14]) (by kernel_rfl) (by simp) ?_
     refine (AllReadyH.cons rfl (fun K hK => ?_) AllReadyH.nil)
     ·rw [if_pos (by kernel_rfl)]
      (try simp only [zGa]); (try simp only [zGb]); (try simp only [zGc])
      go_simp
      with_reducible refine (HAR.out _ _ (RdR.of_own hz)).mono ?_
      rintro e W' ⟨rfl, hb⟩
      dsimp only
      have hown := ownI_call hown hb
      have hz := own_call2 hz hb
      have GB := GB.call hb
      refine hK.out _ _ (hS.call hb) (fun hS => ?_)
      clear hK
      (try simp only [Act.put]); (try simp only [zPa]); (try simp only [zPb, zPc])
      refine tkH (i := 15) (v := .int .i64 ((m : Int) - ac)) rfl ?_
      (try simp only [Act.put]); (try simp only [zPa]); (try simp only [zPb, zPc])
      refine wpAnyH_ready (rs := [17]) (by kernel_rfl) (by simp) ?_
      refine (AllReadyH.cons rfl (fun K hK => ?_) AllReadyH.nil)
      ·rw [if_pos (by kernel_rfl)]
       (try simp only [zGa]); (try simp only [zGb]); (try simp only [zGc])
       have hbg : bB ≠ gq := HBG
       refine wp_store_im 55 size26 (.tmp 4) (.tmp 18) rfl bB 0 0 _ W H _ m cq rfl (by first | with_reducible rfl | (go_simp; done) | rfl) GB ?_
       intro W3 IB hgB
       have ho9 := hown.kept hgB (.inr (fun e => hbg (Option.some.inj e).symm))
       skip
       skip
       refine hK.out _ _ (hS.far kB Hold.out hgB) (fun hS => ?_)
       clear hK
       (try simp only [Act.put]); (try simp only [zPa]); (try simp only [zPb, zPc])
       refine tkH (i := 18) (v := .int .i64 ((m : Int) - ac)) rfl ?_
       refine wpAnyH_done (by kernel_rfl) ?_ _
       have hq9 := (ho9.lt gq rfl).2
       go_wp2_with fail
       go_meet
       case rel => exact ⟨_, rfl, bB, gq, cq, rfl, rfl, ⟨hgl, hq9, hbg, kB⟩, ⟨hS.a, hS.r, IB, hS.bw⟩, ho9⟩
   ·rw [if_pos (by kernel_rfl)]
    (try simp only [zGa]); (try simp only [zGb]); (try simp only [zGc])
    refine wp_alloc_im 55 (fun _ => by kernel_rfl) 4 rfl rfl ?_
    intro bB W' hb GB lB
    have kB : w.heap.size + 1 < bB := Nat.lt_of_lt_of_le hS.r.lt lB
    have HBG : bB ≠ gq := by have h1 := (hown.lt gq rfl).2; omega
    have hown := ownI_call hown hb
    refine hK.out _ _ (hS.call hb) (fun hS => ?_)
    clear hK
    (try simp only [Act.put]); (try simp only [zPa]); (try simp only [zPb, zPc])
    refine wpAnyH_ready (rs := [13]) (by kernel_rfl) (by simp) ?_
    refine (AllReadyH.cons rfl (fun K hK => ?_) AllReadyH.nil)
    ·rw [if_pos (by kernel_rfl)]
     (try simp only [zGa]); (try simp only [zGb]); (try simp only [zGc])
     go_simp
     with_reducible refine (HCV.out _ hS.a.r).mono ?_
     rintro e W' ⟨z, rfl, hz, hb⟩
     dsimp only
     obtain ⟨Az, cz, rfl⟩ := own_shape hz
     have hown := ownI_call hown hb
     have GB := GB.call hb
     refine hK.out _ _ (hS.call hb) (fun hS => ?_)
     clear hK
     (try simp only [Act.put]); (try simp only [zPa]); (try simp only [zPb, zPc])
     refine wpAnyH_ready (rs := [14]) (by kernel_rfl) (by simp) ?_
     refine (AllReadyH.cons rfl (fun K hK => ?_) AllReadyH.nil)
     ·rw [if_pos (by kernel_rfl)]
      (try simp only [zGa]); (try simp only [zGb]); (try simp only [zGc])
      go_simp
      with_reducible refine (HAR.out _ _ (RdR.of_own hz)).mono ?_
      rintro e W' ⟨rfl, hb⟩
      dsimp only
      have hown := ownI_call hown hb
      have GB := GB.call hb
      have hz := own_call2 hz hb
      refine hK.out _ _ (hS.call hb) (fun hS => ?_)
      clear hK
      (try simp only [Act.put]); (try simp only [zPa]); (try simp only [zPb, zPc])
      refine tkH (i := 15) (v := .int .i64 ((m : Int) - ac)) rfl ?_
      (try simp only [Act.put]); (try simp only [zPa]); (try simp only [zPb, zPc])
      refine wpAnyH_ready (rs := [17]) (by kernel_rfl) (by simp) ?_
      refine (AllReadyH.cons rfl (fun K hK => ?_) AllReadyH.nil)
      ·rw [if_pos (by kernel_rfl)]
       (try simp only [zGa]); (try simp only [zGb]); (try simp only [zGc])
       have hbg : bB ≠ gq := HBG
       refine wp_store_im 55 size26 (.tmp 4) (.tmp 18) rfl bB 0 0 _ W H _ m cq rfl (by first | with_reducible rfl | (go_simp; done) | rfl) GB ?_
       intro W3 IB hgB
       have ho9 := hown.kept hgB (.inr (fun e => hbg (Option.some.inj e).symm))
       skip
       skip
       refine hK.out _ _ (hS.far kB Hold.out hgB) (fun hS => ?_)
       clear hK
       (try simp only [Act.put]); (try simp only [zPa]); (try simp only [zPb, zPc])
       refine tkH (i := 18) (v := .int .i64 ((m : Int) - ac)) rfl ?_
       refine wpAnyH_done (by kernel_rfl) ?_ _
       have hq9 := (ho9.lt gq rfl).2
       go_wp2_with fail
       go_meet
       case rel => exact ⟨_, rfl, bB, gq, cq, rfl, rfl, ⟨hgl, hq9, hbg, kB⟩, ⟨hS.a, hS.r, IB, hS.bw⟩, ho9⟩
  ·rw [if_pos (by kernel_rfl)]
   (try simp only [zGa]); (try simp only [zGb]); (try simp only [zGc])
   refine wp_alloc_im 55 (fun _ => by kernel_rfl) 4 rfl rfl ?_
   intro bB W' hb GB lB
   have kB : w.heap.size + 1 < bB := Nat.lt_of_lt_of_le hS.r.lt lB
   refine hK.out _ _ (hS.call hb) (fun hS => ?_)
   clear hK
   (try simp only [Act.put]); (try simp only [zPa]); (try simp only [zPb, zPc])
   refine wpAnyH_ready (rs := [6]) (by kernel_rfl) (by simp) ?_
   refine (AllReadyH.cons rfl (fun K hK => ?_) AllReadyH.nil)
   ·rw [if_pos (by kernel_rfl)]
    (try simp only [zGa]); (try simp only [zGb]); (try simp only [zGc])
    go_simp
    have hz1 := hS.r.lt
    with_reducible refine (HC.out _).mono ?_
    rintro e W' ⟨u, rfl, hown, hb⟩
    dsimp only
    rw [← Hm.out] at hown
    obtain ⟨gq, cq, hu, hg1, hg2⟩ := hown.form (by omega)
    subst hu
    replace hown := hown.mono (show w.heap.size + 2 ≤ _ by omega)
    have HBG : bB ≠ gq := by have h1 := GB.lt; omega
    have hgl : w.heap.size + 1 < gq := by omega
    have GB := GB.call hb
    refine hK.out _ _ (hS.call hb) (fun hS => ?_)
    clear hK
    (try simp only [Act.put]); (try simp only [zPa]); (try simp only [zPb, zPc])
    refine wpAnyH_ready (rs := [13]) (by kernel_rfl) (by simp) ?_
    refine (AllReadyH.cons rfl (fun K hK => ?_) AllReadyH.nil)
    ·rw [if_pos (by kernel_rfl)]
     (try simp only [zGa]); (try simp only [zGb]); (try simp only [zGc])
     go_simp
     with_reducible refine (HCV.out _ hS.a.r).mono ?_
     rintro e W' ⟨z, rfl, hz, hb⟩
     dsimp only
     obtain ⟨Az, cz, rfl⟩ := own_shape hz
     have GB := GB.call hb
     have hown := ownI_call hown hb
     refine hK.out _ _ (hS.call hb) (fun hS => ?_)
     clear hK
     (try simp only [Act.put]); (try simp only [zPa]); (try simp only [zPb, zPc])
     refine wpAnyH_ready (rs := [14]) (by kernel_rfl) (by simp) ?_
     refine (AllReadyH.cons rfl (fun K hK => ?_) AllReadyH.nil)
     ·rw [if_pos (by kernel_rfl)]
      (try simp only [zGa]); (try simp only [zGb]); (try simp only [zGc])
      go_simp
      with_reducible refine (HAR.out _ _ (RdR.of_own hz)).mono ?_
      rintro e W' ⟨rfl, hb⟩
      dsimp only
      have GB := GB.call hb
      have hown := ownI_call hown hb
      have hz := own_call2 hz hb
      refine hK.out _ _ (hS.call hb) (fun hS => ?_)
      clear hK
      (try simp only [Act.put]); (try simp only [zPa]); (try simp only [zPb, zPc])
      refine tkH (i := 15) (v := .int .i64 ((m : Int) - ac)) rfl ?_
      (try simp only [Act.put]); (try simp only [zPa]); (try simp only [zPb, zPc])
      refine wpAnyH_ready (rs := [17]) (by kernel_rfl) (by simp) ?_
      refine (AllReadyH.cons rfl (fun K hK => ?_) AllReadyH.nil)
      ·rw [if_pos (by kernel_rfl)]
       (try simp only [zGa]); (try simp only [zGb]); (try simp only [zGc])
       have hbg : bB ≠ gq := HBG
       refine wp_store_im 55 size26 (.tmp 4) (.tmp 18) rfl bB 0 0 _ W H _ m cq rfl (by first | with_reducible rfl | (go_simp; done) | rfl) GB ?_
       intro W3 IB hgB
       skip
       have ho9 := hown.kept hgB (.inr (fun e => hbg (Option.some.inj e).symm))
       skip
       refine hK.out _ _ (hS.far kB Hold.out hgB) (fun hS => ?_)
       clear hK
       (try simp only [Act.put]); (try simp only [zPa]); (try simp only [zPb, zPc])
       refine tkH (i := 18) (v := .int .i64 ((m : Int) - ac)) rfl ?_
       refine wpAnyH_done (by kernel_rfl) ?_ _
       have hq9 := (ho9.lt gq rfl).2
       go_wp2_with fail
       go_meet
       case rel => exact ⟨_, rfl, bB, gq, cq, rfl, rfl, ⟨hgl, hq9, hbg, kB⟩, ⟨hS.a, hS.r, IB, hS.bw⟩, ho9⟩
 case rest =>
  obtain ⟨V0, hV0, bo, gq, cq, rfl, rfl, ⟨hg1, hg2, hg3, hg4⟩, hA, hO⟩ := hcut
  subst hV0
  clear hZ
  have Hsep : Hid ((∀ b ∈ bs, b < w.heap.size) ∧ w.heap.size + 1 < gq ∧ bo ≠ gq) := Lib.hid ⟨Hold.out, hg1, hg3⟩
  obtain ⟨d0, d1, d2, d3⟩ := hA.cells
  go_wp2_with fail
  refine (HP.out _ hA.a.r).mono ?_
  rintro e w3 ⟨g, rfl, hSe, hgl⟩
  have hA3 := hA.call hSe.bw
  have hO3 := ownI_call hO hSe.bw
  have HSee := Lib.hid (fun (V' : World) (hV : w3.grownBy V' (some gq)) (k : Nat) (f : Sf) (hf : fs[k]? = some f) (hk : k < N) => see_of hSe (fun b hb => by have := Hold.out b hb; omega) hg2 hgl hV hf hk)
  have HP0 := Lib.hid hA3
  have HO0 : Hid (w3.ownsRow (w.heap.size + 2) 3 1 (.slice (some ⟨gq, 0, none⟩) m cq) m (intCells (ocK W H fs D0 0))) := Lib.hid hO3
  have HG0 : Hid (w3.grownBy w3 (some gq)) := Lib.hid (World.grownBy.refl _ _)
  clear d0 d1 d2 d3 hA hO hSe hgl hA3 hO3 hg2 hg4
  go_wp2_with fail
  go_loopg [5, 31] N (fun gk s5 s31 wr => ∃ (k : Nat) (x : Int) (V : World), V = wr ∧ k ≤ N ∧ gk = N - k ∧ s5 = .int .i64 x ∧ Hid (x = (m : Int) - ac + ocA W H fs k) ∧ s31 = .int .i64 k ∧ Hid (PnA w W H sb fs (.slice A N c) bs bo (.slice (some ⟨gq, 0, none⟩) m cq) V) ∧ Hid (V.ownsRow (w.heap.size + 2) 3 1 (.slice (some ⟨gq, 0, none⟩) m cq) m (intCells (ocK W H fs D0 k))) ∧ Hid (w3.grownBy V (some gq)))
  case atStart => exact ⟨0, _, _, rfl, Nat.zero_le _, by omega, rfl, Lib.hid (by show (m : Int) - ac = (m : Int) - ac + 0; omega), rfl, HP0, HO0, HG0⟩
  case round =>
   clear HP0 HO0 HG0
   obtain ⟨k, x, V, hV, hk, rfl, rfl, Hx, rfl, HPA, HO, HG⟩ := hrel
   subst hV
   by_cases hlt : k < N
   ·obtain ⟨f, hf⟩ : ∃ f, fs[k]? = some f := ⟨_, List.getElem?_eq_getElem (by rw [← HN.out]; exact hlt)⟩
    obtain ⟨u, d, hE⟩ := HSee.out V HG.out k f hf hlt
    have hsf := (Hs.out.2.2.2 k f hf).1
    obtain ⟨L, hL⟩ : ∃ L, L = ocV W H f (fs.drop (k + 1)) := ⟨_, rfl⟩
    have hPo := parts_vis ⟨wl, wh⟩ ⟨hl, hh⟩ f (fs.drop (k + 1))
    have hL6 : (ocV W H f (fs.drop (k + 1))).length ≤ 256 := joinL_len _ _ _
    have Hon : Hid (ocK W H fs D0 (k + 1) = oc1 W (ocK W H fs D0 k) f L) := Lib.hid (by rw [hL]; exact ocK_next hf)
    have hAn := ocA_next (W := W) (H := H) hf
    rw [← hL] at hE hPo hL6 hAn
    have hC := hE.c
    obtain ⟨Au, cu, rfl⟩ := own_shape hE.r
    obtain ⟨Ad, cd, rfl⟩ := hE.d.form
    obtain ⟨c0, c1, c2, c3, c4, c5, c6, c7, c8, c9, c10, c11⟩ := hC
    obtain ⟨V1, hV1⟩ : ∃ V1, V1 = V.alloc (.cells #[.slice Au L.length cu, .int .i64 f.id, .int .i64 f.x, .int .i64 f.y, .int .i64 f.w, .int .i64 f.h, .int .i64 f.alpha, .int .i64 f.orient, .bool f.vis, .int .i64 f.bw, .int .i64 f.bh, .slice Ad f.data.length cd] 137) := ⟨_, rfl⟩
    obtain ⟨bp, hbp⟩ : ∃ b, b = V.heap.size := ⟨_, rfl⟩
    have hbx : Below V.heap.size V V1 := by rw [hV1]; exact belI_box _ _
    have hX : BkAt V1 bp 137 #[.slice Au L.length cu, .int .i64 f.id, .int .i64 f.x, .int .i64 f.y, .int .i64 f.w, .int .i64 f.h, .int .i64 f.alpha, .int .i64 f.orient, .bool f.vis, .int .i64 f.bw, .int .i64 f.bh, .slice Ad f.data.length cd] := by rw [hV1]; exact BkAt.newAt hbp.symm _ _
    have hgq := (HO.out.lt gq rfl).2
    have hD1 : (ocK W H fs D0 k).length = m := by rw [ocK_len, ← Hm.out]
    have hP1 := HPA.out.call hbx
    have HPS := Lib.hid (psfI W H f (.slice Ad f.data.length cd) bo gq m cq (w.heap.size + 2) (ocK W H fs D0 k) L (.slice Au L.length cu) V1 ⟨wl, wh, hl, hh⟩ HmW.out hD1 hsf (hE.d.call hbx) hP1.o (ownI_call HO.out hbx) Hsep.out.2.2 hPo (by omega) ((RdR.of_own hE.r).call hbx) hE.u)
    have HE1 := Lib.hid ((RdR.of_own hE.r).call hbx)
    have Heu := Lib.hid hE.u
    have HP1 := Lib.hid hP1
    have HX := Lib.hid hX
    have HG1 := Lib.hid (grown_below HG.out hbx)
    have HV1 := Lib.hid hV1
    have Hbp := Lib.hid hbp
    have Hbne : Hid (bp ≠ gq) := Lib.hid (by omega)
    obtain ⟨ak, hak⟩ : ∃ a, a = areaR L := ⟨_, rfl⟩
    have hab := area_bd L
    have HAL := fun (W' : World) h => areaI (.slice Au L.length cu) L W' h
    rw [← hak] at hab HAL hAn
    have HAL := Lib.hid HAL
    have hoa := HOA.out k
    obtain ⟨x, hx0⟩ : ∃ y, y = x := ⟨_, rfl⟩
    subst hx0
    have hxx := Hx.out
    have q2 : IntKind.i64.wrap (x + ak) = x + ak := wrap_in _ (by omega) (by omega)
    have Hx2 : Hid (x + ak = (m : Int) - ac + ocA W H fs (k + 1)) := Lib.hid (by rw [hAn]; omega)
    have k0 : (0 : Int) ≤ (k : Int) := by omega
    have k1 : (k : Int) < (N : Int) := by omega
    have x0 := hX.cell 0 rfl
    have x1 := hX.cell 1 rfl
    have x2 := hX.cell 2 rfl
    have x3 := hX.cell 3 rfl
    have x4 := hX.cell 4 rfl
    have x5 := hX.cell 5 rfl
    have x6 := hX.cell 6 rfl
    have x7 := hX.cell 7 rfl
    have x8 := hX.cell 8 rfl
    have x9 := hX.cell 9 rfl
    have x10 := hX.cell 10 rfl
    have x11 := hX.cell 11 rfl
    rw [hV1] at x0 x1 x2 x3 x4 x5 x6 x7 x8 x9 x10 x11
    clear hf hE hsf hL hPo hL6 hAn hV1 hbp hbx hX hgq hD1 hP1 hak hab hoa hxx HPA HO HG Hx
    go_wp2_with fail
    rw [← HV1.out]
    refine HPS.out.mono ?_
    rintro e w4 ⟨rfl, hg, hrow⟩
    have HP4 := Lib.hid (HP1.out.set Hsep.out hg)
    have HO4 : Hid (w4.ownsRow (w.heap.size + 2) 3 1 (.slice (some ⟨gq, 0, none⟩) m cq) m (intCells (ocK W H fs D0 (k + 1)))) := Lib.hid (by rw [Hon.out]; exact hrow)
    have HG4 := Lib.hid (HG1.out.trans hg)
    have HE4 := Lib.hid (HE1.out.grown hg (fun q hq e => Heu.out q hq (Option.some.inj e)))
    have hX4 := HX.out.grown hg (fun e => Hbne.out (Option.some.inj e))
    clear c0 c1 c2 c3 c4 c5 c6 c7 c8 c9 c10 c11 x0 x1 x2 x3 x4 x5 x6 x7 x8 x9 x10 x11 hg hrow HPS
    have x0 := hX4.cell 0 rfl
    rw [Hbp.out] at x0
    go_wp2_with fail
    refine (HAL.out _ HE4.out).mono ?_
    rintro e w5 ⟨rfl, hb⟩
    have HP5 := Lib.hid (HP4.out.call hb)
    have HO5 := Lib.hid (ownI_call HO4.out hb)
    have HG5 := Lib.hid (grown_below HG4.out hb)
    clear hb x0 hX4 HP4 HO4 HG4 HE4
    go_wp2_with fail
    go_roundg (N - (k + 1))
    case measure => omega
    case rel => exact ⟨k + 1, _, _, rfl, by omega, rfl, rfl, Hx2, by go_num, HP5, HO5, HG5⟩
   ·have hkN : k = N := by omega
    subst hkN
    obtain ⟨o0, o1, o2⟩ := HPA.out.o.cells
    obtain ⟨r0, r1, r2⟩ := HPA.out.r.cells
    have f0 := HPA.out.r.frozen 0
    have f1 := HPA.out.r.frozen 1
    have f2 := HPA.out.r.frozen 2
    have HJ := Lib.hid (HPA.out.r.set3 W H (.slice (some ⟨gq, 0, none⟩) m cq))
    have HB := Lib.hid HPA.out.bw
    have hni : ¬ (k : Int) < (k : Int) := by omega
    clear HPA
    go_wp2_with fail
    obtain ⟨s0, s1, s2⟩ := HJ.out.cells
    refine bodyPost_ret (v := .tuple #[.agg #[.int .i64 W, .int .i64 H, .slice (some ⟨gq, 0, none⟩) m cq], .int .i64 x]) (by simp [results, Tryz.results53, go_sem, s0, s1, s2]) rfl ?_
    rw [HA.out, HX.out, ← Hx.out]
    exact pv_set HO.out (by rw [ocK_len, Hm.out]) (by omega) (by omega) HB.out
theorem pvI_no (s : Sn) (v : Value) (bs : List Nat) (w : World) (hs : ¬ snOk s) (h : repSfs.R w s.fs [v] bs) : Calls Tryz.prog 53 #[.agg #[.int .i64 s.w, .int .i64 s.h, .int .i64 s.back, v]] w (PvAns (pvIm s) (pvN s) w) := by
 have hZ := PnZ.born h
 have HS := fun W h => snI s v bs W h
 unfold SnOkAns at HS
 obtain ⟨d0, d1, d2, d3⟩ := hZ.a.cells
 rw [snB_no hs] at HS
 have HA := Lib.hid (pvIm_no hs)
 have HX := Lib.hid (pvN_no hs)
 have HS := Lib.hid HS
 clear h hs
 go_enter Tryz.func53, Tryz.ntmps53
 go_wp2_with fail
 refine (HS.out _ hZ.a.r).mono ?_
 rintro e w1 ⟨rfl, hb⟩
 replace hZ := hZ.call hb
 clear d0 d1 d2 d3 hb
 obtain ⟨r0, r1, r2⟩ := hZ.r.cells
 have f0 := hZ.r.frozen 0
 have f1 := hZ.r.frozen 1
 have f2 := hZ.r.frozen 2
 have HJ := Lib.hid (hZ.r.set3 0 0 (.slice none 0 0))
 have HB := Lib.hid hZ.bw
 clear hZ
 go_wp2_with fail
 obtain ⟨s0, s1, s2⟩ := HJ.out.cells
 exact bodyPost_ret (v := .tuple #[.agg #[.int .i64 0, .int .i64 0, .slice none 0 0], .int .i64 0]) (by simp [results, Tryz.results53, go_sem, s0, s1, s2]) rfl (by rw [HA.out, HX.out]; exact pv_zero HB.out)
theorem pvI (s : Sn) (v : Value) (bs : List Nat) (w : World) (h : repSfs.R w s.fs [v] bs) : Calls Tryz.prog 53 #[.agg #[.int .i64 s.w, .int .i64 s.h, .int .i64 s.back, v]] w (PvAns (pvIm s) (pvN s) w) := by
 by_cases hs : snOk s
 ·obtain ⟨x, y, b, fs⟩ := s
  obtain ⟨p, q, rfl, rfl, _⟩ := sz_nat (show szOk x y from hs.1)
  exact pvI_ok p q b fs v bs w hs h
 ·exact pvI_no s v bs w hs h
end Go.Proofs.YtdgagooldlnpeaaGreat
