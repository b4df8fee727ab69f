/- The contracts of seenSurfaces and VisibleOf of the program. No statement is proved here. -/
import Derived.Test.YtdgagooldlnpeaaGreatMA
import Derived.Test.YtdgagooldlnpeaaGreatMB
import Derived.Test.YtdgagooldlnpeaaGreatMC
import Derived.Test.YtdgagooldlnpeaaGreatSnS
import Derived.Test.YtdgagooldlnpeaaGreatMAv013
import Derived.Test.YtdgagooldlnpeaaGreatCombIv013
import Derived.Test.YtdgagooldlnpeaaGreatB1nav013
import Derived.Test.YtdgagooldlnpeaaGreatB1sav013
import Derived.Test.YtdgagooldlnpeaaGreatSfP
import Derived.Test.YtdgagooldlnpeaaGreatB2sav013
import Derived.Test.YtdgagooldlnpeaaGreatB2sa
import Derived.Test.YtdgagooldlnpeaaGreatProg
import Derived.WalkKit
import Derived.ProofKit
import Derived.OpenShut
import Derived.WalkLawsBesides
import Derived.WalkSpells
import Derived.ShutString
import Derived.ChangeOld
import Derived.Below
import Derived.Lib.Hide
import Derived.BigQuiet
import Derived.Deep.QuietTactic
import Derived.Maps.AppendAt
import Derived.Deep.OwnRows
import Derived.Handy
import Derived.Deep.Draws
import Derived.OwnWalk
import Derived.Deep.AppendLies
import Derived.Deep.LoopGhost
import Derived.Deep.Onto
import Derived.Deep.MidRow
import Derived.Deep.WholeRow
import Derived.Laws.BitsAllLaws
import Derived.Lib.QuoteBits
import Derived.Deep.RegionHeld3
import Derived.Deep.DeepCutAuto
import Derived.Test.YtdgagooldlnpeaaGreatShelf
import Derived.Laws.CopyOwn
import Derived.Deep.RegionLaw
import Derived.Great.BuildSlice
import Derived.Shelf.RegionOpenPlain
import Derived.Lib.SliceRun
import Derived.Deep.RegionWith
import Derived.Laws.AppendOwn
import Derived.ChangeKeysEq
import Derived.Deep.DeepAppendRoom
namespace Go.Proofs.YtdgagooldlnpeaaGreat
open Go.RowKit
noncomputable def seK (W H : Int) : Nat → List Sf → List Pl
 | _, [] => []
 | 0, fs => plL W H fs
 | k + 1, f :: r => (f, ocV W H f r) :: seK W H k r
theorem seK_zero (W H : Int) (fs : List Sf) : seK W H 0 fs = plL W H fs := by
 cases fs <;> rfl
theorem seK_len (W H : Int) (k : Nat) (fs : List Sf) : (seK W H k fs).length = fs.length := by
  induction fs generalizing k with
  | nil => cases k <;> rfl
  | cons f r ih =>
    cases k with
    | zero => rw [seK_zero, plL_len]
    | succ k => show ((f, ocV W H f r) :: seK W H k r).length = _; rw [List.length_cons, ih, List.length_cons]
theorem seK_at (W H : Int) {k : Nat} {fs : List Sf} {f : Sf} (h : fs[k]? = some f) : (seK W H k fs)[k]? = some (f, ocP W H f) := by
  induction fs generalizing k with
  | nil => simp at h
  | cons g r ih =>
    cases k with
    | zero =>
      obtain rfl : g = f := by simpa using h
      rfl
    | succ k => exact ih (k := k) (by simpa using h)
theorem seK_set (W H : Int) {k : Nat} {fs : List Sf} {f : Sf} (h : fs[k]? = some f) : (seK W H k fs).set k (f, ocV W H f (fs.drop (k + 1))) = seK W H (k + 1) fs := by
  induction fs generalizing k with
  | nil => simp at h
  | cons g r ih =>
    cases k with
    | zero =>
      obtain rfl : g = f := by simpa using h
      show (g, ocV W H g r) :: plL W H r = (g, ocV W H g r) :: seK W H 0 r
      rw [seK_zero]
    | succ k =>
      show (g, ocV W H g r) :: (seK W H k r).set k (f, ocV W H f (r.drop (k + 1))) = (g, ocV W H g r) :: seK W H (k + 1) r
      rw [ih (by simpa using h)]
theorem seK_drop (W H : Int) (k : Nat) (fs : List Sf) : (seK W H k fs).drop (k + 1) = plL W H (fs.drop (k + 1)) := by
  induction fs generalizing k with
  | nil => cases k <;> rfl
  | cons g r ih =>
    cases k with
    | zero => rfl
    | succ k => exact ih k
theorem halfP_frozen {B : Nat} {w : World} {M : List Pl} {g n c : Nat} {bs : List Nat} (h : HalfP B w M (.slice (some ⟨g, 0, none⟩) n c) bs) (j : Nat) : w.frozen? ⟨g, j, none⟩ = false := by
 have hn := h.len
 obtain ⟨xs, bss, hr, hls, how, rfl⟩ := h.ex
 rw [← hn] at how
 exact how.frozenAt j
def SeV (B : Nat) (V : World) (g : Nat) (j : Nat) (L : List Rc) : Prop := ∃ u, V.cell? ⟨g, j * 12, none⟩ = some u ∧ V.ownsRow B 113 4 u L.length (rcsCells L) ∧ g ∉ u.ownBlock.toList
theorem SeV.call {B : Nat} {V V' : World} {g j : Nat} {L : List Rc} (h : SeV B V g j L) (hb : Below V.heap.size V V') : SeV B V' g j L := by
 obtain ⟨u, h1, h2, h3⟩ := h
 exact ⟨u, (World.cell?_of_block (hb.block _ (World.block_lt_of_cell? V _ h1))).trans h1, own_call2 h2 hb, h3⟩
theorem seV_other {B : Nat} {V : World} {g j k : Nat} {L : List Rc} {y : Value} (h : SeV B V g j L) (hjk : j ≠ k) : SeV B (V.setCell ⟨g, k * 12, none⟩ y) g j L := by
 obtain ⟨u, h1, h2, h3⟩ := h
 refine ⟨u, ?_, own_chgN h2 (Chg.setCell V ⟨g, k * 12, none⟩ y) (fun b hb e => h3 (by rw [← show b = g by simpa using e]; exact hb)), h3⟩
 rw [World.cell?_setCell_other]
 ·exact h1
 ·intro e
  injection e with _ e _
  omega
theorem cell_set_self {V : World} {g o : Nat} {u : Value} (h : V.cell? ⟨g, o, none⟩ = some u) (y : Value) : (V.setCell ⟨g, o, none⟩ y).cell? ⟨g, o, none⟩ = some y := by
 exact World.cell?_setCell_same _ _ _ h
structure SeT (w : World) (W H : Int) (fs : List Sf) (bs : List Nat) (g N k : Nat) (V : World) : Prop where
 p : ∃ cs, HalfP w.heap.size V (seK W H k fs) (.slice (some ⟨g, 0, none⟩) N N) cs ∧ ∀ b ∈ cs, b ∈ bs ∨ w.heap.size ≤ b
 v : ∀ j f, j < k → fs[j]? = some f → SeV w.heap.size V g j (ocV W H f (fs.drop (j + 1)))
 bw : Below w.heap.size w V
theorem SeT.call {w : World} {W H : Int} {fs : List Sf} {bs : List Nat} {g N k : Nat} {V V' : World} (h : SeT w W H fs bs g N k V) (hb : Below V.heap.size V V') : SeT w W H fs bs g N k V' :=
 ⟨by obtain ⟨cs, h1, h2⟩ := h.p; exact ⟨cs, h1.call hb, h2⟩, fun j f h1 h2 => (h.v j f h1 h2).call hb, belI_call h.bw hb⟩
def SeenAns (s : Sn) (bs : List Nat) (w : World) (e : Ending) (w' : World) : Prop :=
 ∃ g, e = .returned (.slice (some ⟨g, 0, none⟩) s.fs.length s.fs.length) ∧ SeT w s.w s.h s.fs bs g s.fs.length s.fs.length w' ∧ w.heap.size ≤ g
set_option maxHeartbeats 4000000 in
set_option maxRecDepth 10000 in
theorem seenI (s : Sn) (v : Value) (bs : List Nat) (w : World) (hN : s.fs.length ≤ 6) (h : repSfs.R w s.fs [v] bs) : Calls Tryz.prog 105 #[.agg #[.int .i64 s.w, .int .i64 s.h, .int .i64 s.back, v]] w (SeenAns s bs w) := by
 have hA := SnA.born h
 have hB := belI_box w (.cells #[.int .i64 s.w, .int .i64 s.h, .int .i64 s.back, v] 34)
 obtain ⟨⟨A, c, rfl⟩, _⟩ := repSfs_form h
 obtain ⟨N, hNe⟩ : ∃ N, N = s.fs.length := ⟨_, rfl⟩
 have HP := Lib.hid (fun W h => plsI s (.slice A s.fs.length c) bs W hN h)
 unfold PlsAns at HP
 rw [← hNe] at hN hA hB HP ⊢
 have HN := Lib.hid hNe
 obtain ⟨d0, d1, d2, d3⟩ := hA.cells
 clear h hNe
 go_enter Tryz.func105, Tryz.ntmps105
 go_wp2_with fail
 refine (HP.out _ hA.r).mono ?_
 rintro e w1 ⟨g, cs, rfl, hP, hcs, hg, hb⟩
 have hB1 := belI_call hB hb
 have hg1 : w.heap.size + 1 ≤ g := by simpa using hg
 have HT : Hid (SeT w s.w s.h s.fs bs g N 0 w1) := Lib.hid ⟨⟨cs, by rw [seK_zero]; exact hP.mono (by simp), fun b hb => (hcs b hb).imp_right fun h => by simp at h; omega⟩, fun j f h => by omega, hB1⟩
 clear d0 d1 d2 d3 hA hB hb hP hcs hg hB1
 go_wp2_with fail
 go_loopg [9] N (fun gk s9 wr => ∃ (k : Nat) (V : World), V = wr ∧ k ≤ N ∧ gk = N - k ∧ s9 = .int .i64 k ∧ Hid (SeT w s.w s.h s.fs bs g N k V))
 case atStart => exact ⟨0, _, rfl, Nat.zero_le _, by omega, rfl, HT⟩
 case round =>
  clear HT
  obtain ⟨k, V, hV, hk, rfl, rfl, HT⟩ := hrel
  subst hV
  by_cases hlt : k < N
  ·obtain ⟨f, hf⟩ : ∃ f, s.fs[k]? = some f := ⟨_, List.getElem?_eq_getElem (by rw [← HN.out]; exact hlt)⟩
   obtain ⟨cs, hP, hcs⟩ := HT.out.p
   obtain ⟨g', p, u, d, e1, hp, hC, hE, hug, hdg⟩ := hP.at_ (k := k) (by rw [seK_len, ← HN.out]; exact hlt)
   injection e1 with e1
   injection e1 with e1 _ _
   subst e1
   have hpe := (seK_at s.w s.h hf).symm.trans hp
   obtain rfl := Option.some.inj hpe
   dsimp only at hC hE
   obtain ⟨Au, cu, rfl⟩ := own_shape hE.r
   obtain ⟨Ad, cd, rfl⟩ := hE.d.form
   obtain ⟨L, hL⟩ : ∃ L, L = ocP s.w s.h f := ⟨_, rfl⟩
   dsimp only at hE
   rw [← hL] at hE hC
   have hEr : V.ownsRow 0 113 4 (.slice Au L.length cu) L.length (rcsCells L) := hE.r
   obtain ⟨Q, hQ⟩ : ∃ Q, Q = ocC s.w s.h (s.fs.drop (k + 1)) := ⟨_, rfl⟩
   obtain ⟨J, hJ⟩ : ∃ J, J = ocV s.w s.h f (s.fs.drop (k + 1)) := ⟨_, rfl⟩
   have HCB := Lib.hid (fun (V' : World) (u : Value) (hu : RdP V' u ((seK s.w s.h k s.fs).drop (k + 1))) => (cbI ((seK s.w s.h k s.fs).drop (k + 1)) u V' (by rw [List.length_drop, seK_len, ← HN.out]; omega) (fun p hp => by rw [seK_drop] at hp; exact plL_small _ _ _ p hp) hu).mono (fun e w' h => RgQ.of_rof h (Q := Q) (by rw [seK_drop, cbQ_pl, ocQ_C, hQ])))
   unfold RgQ at HCB
   have HJN := Lib.hid (fun (V' : World) (va vb : Value) (ha : RdR V' va L) (hb : RdR V' vb Q) => (jnI2 va vb L Q V' ha hb))
   unfold JoinAns at HJN
   have hJe : joinL (fun p q => p && !q) L Q = J := by rw [hJ, hL, hQ]; rfl
   rw [hJe] at HJN
   have HJe : Hid (J = ocV s.w s.h f (s.fs.drop (k + 1))) := Lib.hid hJ
   have Hset : Hid ((seK s.w s.h k s.fs).set k (f, J) = seK s.w s.h (k + 1) s.fs) := Lib.hid (by rw [hJ]; exact seK_set s.w s.h hf)
   have Hf := Lib.hid hf
   have Hat : Hid ((seK s.w s.h k s.fs)[k]? = some (f, L)) := Lib.hid (by rw [hL]; exact seK_at s.w s.h hf)
   have Hcs := Lib.hid hcs
   have HV := HT.out.v
   have hS := HT.out.bw
   have k0 : (0 : Int) ≤ (k : Int) := by omega
   have k1 : (k : Int) < (N : Int) := by omega
   have k2 : (k : Int) + 1 ≤ (N : Int) := by omega
   have k3 : ((k : Int) + 1).toNat = k + 1 := by omega
   have k5 : ¬ (k : Int) + 1 < 0 := by omega
   have k6 : ¬ (k : Int) + 1 ≤ (k : Int) := by omega
   have q1 : IntKind.i64.wrap ((k : Int) + 1) = (k : Int) + 1 := wrap_in _ (by omega) (by omega)
   clear hf hcs hp hpe hE hL hQ hJ hJe HT hug hdg
   go_upto_region 5 with fail
   rcases Nat.lt_or_ge (k + 1) N with hkn | hkn
   ·have he : ¬ N = k + 1 := by omega
    refine wp_region_held_drew (S := fun V' => Below w.heap.size w V') (by kernel_rfl) (hS.drew) (fun hS => ?_)
    replace hP := hP.call (belI_drew _)
    replace hC := hC.call (belI_drew _)
    replace hEr := own_call2 hEr (belI_drew _)
    replace HV := fun j f h1 h2 => (HV j f h1 h2).call (belI_drew _)
    refine tkH (i := 0) (v := .slice (some ⟨g, 0, none⟩) N N) rfl ?_
    refine tkH (i := 1) (v := .int .i64 (k : Int)) rfl ?_
    refine tkH (i := 2) (v := .slice (some ⟨g, 0, none⟩) N N) rfl ?_
    refine tkH (i := 3) (v := .int .i64 (k : Int)) rfl ?_
    refine tkH (i := 4) (v := .pointer (some ⟨g, k * 12, none⟩)) rfl ?_
    refine tkH (i := 5) (v := .pointer (some ⟨g, k * 12, none⟩)) rfl ?_
    refine tkH (i := 7) (v := .slice (some ⟨g, 0, none⟩) N N) rfl ?_
    refine tkH (i := 8) (v := .int .i64 (k : Int)) rfl ?_
    refine tkH (i := 9) (v := .int .i64 ((k : Int) + 1)) rfl ?_
    refine tkH (i := 10) (v := .slice (some ⟨g, (k + 1) * 12, none⟩) (N - (k + 1)) (N - (k + 1))) rfl ?_
    (try simp only [Act.put]); (try simp only [zPa]); (try simp only [zPb, zPc])
    refine wpAnyH_ready (rs := [6, 11]) (by kernel_rfl) (by simp) ?_
    refine (AllReadyH.cons rfl (fun K hK => ?_) (AllReadyH.cons rfl (fun K hK => ?_) AllReadyH.nil))
    ·rw [if_pos (by kernel_rfl)]
     (try simp only [zGa]); (try simp only [zGb]); (try simp only [zGc])
     have cS := hC.c0
     go_simp
     clear cS
     skip
     skip
     skip
     skip
     refine hK.out _ _ (hS) (fun hS => ?_)
     clear hK
     (try simp only [Act.put]); (try simp only [zPa]); (try simp only [zPb, zPc])
     refine wpAnyH_ready (rs := [11]) (by kernel_rfl) (by simp) ?_
     refine (AllReadyH.cons rfl (fun K hK => ?_) AllReadyH.nil)
     ·rw [if_pos (by kernel_rfl)]
      (try simp only [zGa]); (try simp only [zGb]); (try simp only [zGc])
      go_simp
      with_reducible refine (HCB.out _ _ (hP.from (k + 1))).mono ?_
      rintro e W' ⟨z, rfl, hz, hb⟩
      dsimp only
      obtain ⟨Az, cz, rfl⟩ := own_shape hz
      have hP := hP.call hb
      have hC := hC.call hb
      have hEr := own_call2 hEr hb
      have HV := fun j f h1 h2 => (HV j f h1 h2).call hb
      refine hK.out _ _ (belI_call hS hb) (fun hS => ?_)
      clear hK
      (try simp only [Act.put]); (try simp only [zPa]); (try simp only [zPb, zPc])
      refine wpAnyH_ready (rs := [12]) (by kernel_rfl) (by simp) ?_
      refine (AllReadyH.cons rfl (fun K hK => ?_) AllReadyH.nil)
      ·rw [if_pos (by kernel_rfl)]
       (try simp only [zGa]); (try simp only [zGb]); (try simp only [zGc])
       go_simp
       with_reducible refine (HJN.out _ _ _ (RdR.of_own hEr) (RdR.of_own hz)).mono ?_
       rintro e W' ⟨y, rfl, hy, hb⟩
       dsimp only
       obtain ⟨Ay, cy, rfl⟩ := own_shape hy
       have hyg : g ∉ (Value.slice Ay J.length cy).ownBlock.toList := fun e => by have h1 := (own_ltB hy g e).1; have h2 := hC.lt; omega
       have hyl : ∀ b ∈ (Value.slice Ay J.length cy).ownBlock.toList, w.heap.size ≤ b := fun b hb => by have h1 := (own_ltB hy b hb).1; have h2 := hS.size; omega
       have hP := hP.call hb
       have hC := hC.call hb
       have hEr := own_call2 hEr hb
       have HV := fun j f h1 h2 => (HV j f h1 h2).call hb
       have hz := own_call2 hz hb
       refine hK.out _ _ (belI_call hS hb) (fun hS => ?_)
       clear hK
       (try simp only [Act.put]); (try simp only [zPa]); (try simp only [zPb, zPc])
       refine tkH (i := 13) (v := .pointer (some ⟨g, k * 12, none⟩)) rfl ?_
       refine tkH (i := 14) (v := .pointer (some ⟨g, k * 12, none⟩)) rfl ?_
       (try simp only [Act.put]); (try simp only [zPa]); (try simp only [zPb, zPc])
       refine wpAnyH_ready (rs := [15]) (by kernel_rfl) (by simp) ?_
       refine (AllReadyH.cons rfl (fun K hK => ?_) AllReadyH.nil)
       ·rw [if_pos (by kernel_rfl)]
        (try simp only [zGa]); (try simp only [zGb]); (try simp only [zGc])
        have cS := hC.c0
        have fS := halfP_frozen hP (k * 12)
        go_simp
        clear cS fS
        have hP9 := hP.put0 hP.len Hat.out (own_rebase hy fun _ _ => Nat.zero_le _) hyg
        skip
        skip
        have HV9 := fun j f (h1 : j < k) h2 => seV_other (k := k) (y := .slice Ay J.length cy) (HV j f h1 h2) (by omega)
        skip
        have hy9 := own_chgN hy (Chg.setCell _ ⟨g, k * 12, none⟩ (.slice Ay J.length cy)) (fun b hb e => hyg (by rw [← show b = g by simpa using e]; exact hb))
        have hc9 := cell_set_self (show C12 _ g (k * 12) f _ _ from hC).c0 (.slice Ay J.length cy)
        refine hK.out _ _ (below_grownG hS (grown_setI _ g (k * 12) _) (by omega)) (fun hS => ?_)
        clear hK
        (try simp only [Act.put]); (try simp only [zPa]); (try simp only [zPb, zPc])
        refine wpAnyH_done (by kernel_rfl) ?_ _
        obtain ⟨cs9, hP9, _, hcs9⟩ := hP9
        rw [Nat.add_zero, Hset.out] at hP9
        have HT9 : Hid (SeT w s.w s.h s.fs bs g N (k + 1) _) := Lib.hid ⟨⟨cs9, hP9, fun b hb => (hcs9 b hb).elim (fun h => Hcs.out b h) (fun h => .inr (hyl b h))⟩, fun j f' h1 h2 => by
         rcases Nat.lt_or_ge j k with hjk | hjk
         ·exact HV9 j f' hjk h2
         ·obtain rfl : j = k := by omega
          obtain rfl : f = f' := Option.some.inj (Hf.out.symm.trans h2)
          rw [← HJe.out]
          exact ⟨_, hc9, own_rebase hy9 hyl, hyg⟩, hS⟩
        clear hP9 hy9 HV9 hc9 hcs9
        go_wp2_with fail
        go_roundg (N - (k + 1))
        case measure => omega
        case rel => exact ⟨k + 1, _, rfl, by omega, rfl, by go_num, HT9⟩
    ·rw [if_pos (by kernel_rfl)]
     (try simp only [zGa]); (try simp only [zGb]); (try simp only [zGc])
     go_simp
     with_reducible refine (HCB.out _ _ (hP.from (k + 1))).mono ?_
     rintro e W' ⟨z, rfl, hz, hb⟩
     dsimp only
     obtain ⟨Az, cz, rfl⟩ := own_shape hz
     have hP := hP.call hb
     have hC := hC.call hb
     have hEr := own_call2 hEr hb
     have HV := fun j f h1 h2 => (HV j f h1 h2).call hb
     refine hK.out _ _ (belI_call hS hb) (fun hS => ?_)
     clear hK
     (try simp only [Act.put]); (try simp only [zPa]); (try simp only [zPb, zPc])
     refine wpAnyH_ready (rs := [6]) (by kernel_rfl) (by simp) ?_
     refine (AllReadyH.cons rfl (fun K hK => ?_) AllReadyH.nil)
     ·rw [if_pos (by kernel_rfl)]
      (try simp only [zGa]); (try simp only [zGb]); (try simp only [zGc])
      have cS := hC.c0
      go_simp
      clear cS
      skip
      skip
      skip
      skip
      skip
      refine hK.out _ _ (hS) (fun hS => ?_)
      clear hK
      (try simp only [Act.put]); (try simp only [zPa]); (try simp only [zPb, zPc])
      refine wpAnyH_ready (rs := [12]) (by kernel_rfl) (by simp) ?_
      refine (AllReadyH.cons rfl (fun K hK => ?_) AllReadyH.nil)
      ·rw [if_pos (by kernel_rfl)]
       (try simp only [zGa]); (try simp only [zGb]); (try simp only [zGc])
       go_simp
       with_reducible refine (HJN.out _ _ _ (RdR.of_own hEr) (RdR.of_own hz)).mono ?_
       rintro e W' ⟨y, rfl, hy, hb⟩
       dsimp only
       obtain ⟨Ay, cy, rfl⟩ := own_shape hy
       have hyg : g ∉ (Value.slice Ay J.length cy).ownBlock.toList := fun e => by have h1 := (own_ltB hy g e).1; have h2 := hC.lt; omega
       have hyl : ∀ b ∈ (Value.slice Ay J.length cy).ownBlock.toList, w.heap.size ≤ b := fun b hb => by have h1 := (own_ltB hy b hb).1; have h2 := hS.size; omega
       have hP := hP.call hb
       have hC := hC.call hb
       have hEr := own_call2 hEr hb
       have HV := fun j f h1 h2 => (HV j f h1 h2).call hb
       have hz := own_call2 hz hb
       refine hK.out _ _ (belI_call hS hb) (fun hS => ?_)
       clear hK
       (try simp only [Act.put]); (try simp only [zPa]); (try simp only [zPb, zPc])
       refine tkH (i := 13) (v := .pointer (some ⟨g, k * 12, none⟩)) rfl ?_
       refine tkH (i := 14) (v := .pointer (some ⟨g, k * 12, none⟩)) rfl ?_
       (try simp only [Act.put]); (try simp only [zPa]); (try simp only [zPb, zPc])
       refine wpAnyH_ready (rs := [15]) (by kernel_rfl) (by simp) ?_
       refine (AllReadyH.cons rfl (fun K hK => ?_) AllReadyH.nil)
       ·rw [if_pos (by kernel_rfl)]
        (try simp only [zGa]); (try simp only [zGb]); (try simp only [zGc])
        have cS := hC.c0
        have fS := halfP_frozen hP (k * 12)
        go_simp
        clear cS fS
        have hP9 := hP.put0 hP.len Hat.out (own_rebase hy fun _ _ => Nat.zero_le _) hyg
        skip
        skip
        have HV9 := fun j f (h1 : j < k) h2 => seV_other (k := k) (y := .slice Ay J.length cy) (HV j f h1 h2) (by omega)
        skip
        have hy9 := own_chgN hy (Chg.setCell _ ⟨g, k * 12, none⟩ (.slice Ay J.length cy)) (fun b hb e => hyg (by rw [← show b = g by simpa using e]; exact hb))
        have hc9 := cell_set_self (show C12 _ g (k * 12) f _ _ from hC).c0 (.slice Ay J.length cy)
        refine hK.out _ _ (below_grownG hS (grown_setI _ g (k * 12) _) (by omega)) (fun hS => ?_)
        clear hK
        (try simp only [Act.put]); (try simp only [zPa]); (try simp only [zPb, zPc])
        refine wpAnyH_done (by kernel_rfl) ?_ _
        obtain ⟨cs9, hP9, _, hcs9⟩ := hP9
        rw [Nat.add_zero, Hset.out] at hP9
        have HT9 : Hid (SeT w s.w s.h s.fs bs g N (k + 1) _) := Lib.hid ⟨⟨cs9, hP9, fun b hb => (hcs9 b hb).elim (fun h => Hcs.out b h) (fun h => .inr (hyl b h))⟩, fun j f' h1 h2 => by
         rcases Nat.lt_or_ge j k with hjk | hjk
         ·exact HV9 j f' hjk h2
         ·obtain rfl : j = k := by omega
          obtain rfl : f = f' := Option.some.inj (Hf.out.symm.trans h2)
          rw [← HJe.out]
          exact ⟨_, hc9, own_rebase hy9 hyl, hyg⟩, hS⟩
        clear hP9 hy9 HV9 hc9 hcs9
        go_wp2_with fail
        go_roundg (N - (k + 1))
        case measure => omega
        case rel => exact ⟨k + 1, _, rfl, by omega, rfl, by go_num, HT9⟩
   ·obtain rfl : N = k + 1 := by omega
    refine wp_region_held_drew (S := fun V' => Below w.heap.size w V') (by kernel_rfl) (hS.drew) (fun hS => ?_)
    replace hP := hP.call (belI_drew _)
    replace hC := hC.call (belI_drew _)
    replace hEr := own_call2 hEr (belI_drew _)
    replace HV := fun j f h1 h2 => (HV j f h1 h2).call (belI_drew _)
    refine tkH (i := 0) (v := .slice (some ⟨g, 0, none⟩) (k + 1) (k + 1)) rfl ?_
    refine tkH (i := 1) (v := .int .i64 (k : Int)) rfl ?_
    refine tkH (i := 2) (v := .slice (some ⟨g, 0, none⟩) (k + 1) (k + 1)) rfl ?_
    refine tkH (i := 3) (v := .int .i64 (k : Int)) rfl ?_
    refine tkH (i := 4) (v := .pointer (some ⟨g, k * 12, none⟩)) rfl ?_
    refine tkH (i := 5) (v := .pointer (some ⟨g, k * 12, none⟩)) rfl ?_
    refine tkH (i := 7) (v := .slice (some ⟨g, 0, none⟩) (k + 1) (k + 1)) rfl ?_
    refine tkH (i := 8) (v := .int .i64 (k : Int)) rfl ?_
    refine tkH (i := 9) (v := .int .i64 ((k : Int) + 1)) rfl ?_
    refine tkH (i := 10) (v := .slice (some ⟨g, 0, none⟩) 0 0) rfl ?_
    (try simp only [Act.put]); (try simp only [zPa]); (try simp only [zPb, zPc])
    refine wpAnyH_ready (rs := [6, 11]) (by kernel_rfl) (by simp) ?_
    refine (AllReadyH.cons rfl (fun K hK => ?_) (AllReadyH.cons rfl (fun K hK => ?_) AllReadyH.nil))
    ·rw [if_pos (by kernel_rfl)]
     (try simp only [zGa]); (try simp only [zGb]); (try simp only [zGc])
     have cS := hC.c0
     go_simp
     clear cS
     skip
     skip
     skip
     skip
     refine hK.out _ _ (hS) (fun hS => ?_)
     clear hK
     (try simp only [Act.put]); (try simp only [zPa]); (try simp only [zPb, zPc])
     refine wpAnyH_ready (rs := [11]) (by kernel_rfl) (by simp) ?_
     refine (AllReadyH.cons rfl (fun K hK => ?_) AllReadyH.nil)
     ·rw [if_pos (by kernel_rfl)]
      (try simp only [zGa]); (try simp only [zGb]); (try simp only [zGc])
      go_simp
      with_reducible refine (HCB.out _ _ (hP.none _ _)).mono ?_
      rintro e W' ⟨z, rfl, hz, hb⟩
      dsimp only
      obtain ⟨Az, cz, rfl⟩ := own_shape hz
      have hP := hP.call hb
      have hC := hC.call hb
      have hEr := own_call2 hEr hb
      have HV := fun j f h1 h2 => (HV j f h1 h2).call hb
      refine hK.out _ _ (belI_call hS hb) (fun hS => ?_)
      clear hK
      (try simp only [Act.put]); (try simp only [zPa]); (try simp only [zPb, zPc])
      refine wpAnyH_ready (rs := [12]) (by kernel_rfl) (by simp) ?_
      refine (AllReadyH.cons rfl (fun K hK => ?_) AllReadyH.nil)
      ·rw [if_pos (by kernel_rfl)]
       (try simp only [zGa]); (try simp only [zGb]); (try simp only [zGc])
       go_simp
       with_reducible refine (HJN.out _ _ _ (RdR.of_own hEr) (RdR.of_own hz)).mono ?_
       rintro e W' ⟨y, rfl, hy, hb⟩
       dsimp only
       obtain ⟨Ay, cy, rfl⟩ := own_shape hy
       have hyg : g ∉ (Value.slice Ay J.length cy).ownBlock.toList := fun e => by have h1 := (own_ltB hy g e).1; have h2 := hC.lt; omega
       have hyl : ∀ b ∈ (Value.slice Ay J.length cy).ownBlock.toList, w.heap.size ≤ b := fun b hb => by have h1 := (own_ltB hy b hb).1; have h2 := hS.size; omega
       have hP := hP.call hb
       have hC := hC.call hb
       have hEr := own_call2 hEr hb
       have HV := fun j f h1 h2 => (HV j f h1 h2).call hb
       have hz := own_call2 hz hb
       refine hK.out _ _ (belI_call hS hb) (fun hS => ?_)
       clear hK
       (try simp only [Act.put]); (try simp only [zPa]); (try simp only [zPb, zPc])
       refine tkH (i := 13) (v := .pointer (some ⟨g, k * 12, none⟩)) rfl ?_
       refine tkH (i := 14) (v := .pointer (some ⟨g, k * 12, none⟩)) rfl ?_
       (try simp only [Act.put]); (try simp only [zPa]); (try simp only [zPb, zPc])
       refine wpAnyH_ready (rs := [15]) (by kernel_rfl) (by simp) ?_
       refine (AllReadyH.cons rfl (fun K hK => ?_) AllReadyH.nil)
       ·rw [if_pos (by kernel_rfl)]
        (try simp only [zGa]); (try simp only [zGb]); (try simp only [zGc])
        have cS := hC.c0
        have fS := halfP_frozen hP (k * 12)
        go_simp
        clear cS fS
        have hP9 := hP.put0 hP.len Hat.out (own_rebase hy fun _ _ => Nat.zero_le _) hyg
        skip
        skip
        have HV9 := fun j f (h1 : j < k) h2 => seV_other (k := k) (y := .slice Ay J.length cy) (HV j f h1 h2) (by omega)
        skip
        have hy9 := own_chgN hy (Chg.setCell _ ⟨g, k * 12, none⟩ (.slice Ay J.length cy)) (fun b hb e => hyg (by rw [← show b = g by simpa using e]; exact hb))
        have hc9 := cell_set_self (show C12 _ g (k * 12) f _ _ from hC).c0 (.slice Ay J.length cy)
        refine hK.out _ _ (below_grownG hS (grown_setI _ g (k * 12) _) (by omega)) (fun hS => ?_)
        clear hK
        (try simp only [Act.put]); (try simp only [zPa]); (try simp only [zPb, zPc])
        refine wpAnyH_done (by kernel_rfl) ?_ _
        obtain ⟨cs9, hP9, _, hcs9⟩ := hP9
        rw [Nat.add_zero, Hset.out] at hP9
        have HT9 : Hid (SeT w s.w s.h s.fs bs g (k + 1) (k + 1) _) := Lib.hid ⟨⟨cs9, hP9, fun b hb => (hcs9 b hb).elim (fun h => Hcs.out b h) (fun h => .inr (hyl b h))⟩, fun j f' h1 h2 => by
         rcases Nat.lt_or_ge j k with hjk | hjk
         ·exact HV9 j f' hjk h2
         ·obtain rfl : j = k := by omega
          obtain rfl : f = f' := Option.some.inj (Hf.out.symm.trans h2)
          rw [← HJe.out]
          exact ⟨_, hc9, own_rebase hy9 hyl, hyg⟩, hS⟩
        clear hP9 hy9 HV9 hc9 hcs9
        go_wp2_with fail
        go_roundg (k + 1 - (k + 1))
        case measure => omega
        case rel => exact ⟨k + 1, _, rfl, by omega, rfl, by go_num, HT9⟩
    ·rw [if_pos (by kernel_rfl)]
     (try simp only [zGa]); (try simp only [zGb]); (try simp only [zGc])
     go_simp
     with_reducible refine (HCB.out _ _ (hP.none _ _)).mono ?_
     rintro e W' ⟨z, rfl, hz, hb⟩
     dsimp only
     obtain ⟨Az, cz, rfl⟩ := own_shape hz
     have hP := hP.call hb
     have hC := hC.call hb
     have hEr := own_call2 hEr hb
     have HV := fun j f h1 h2 => (HV j f h1 h2).call hb
     refine hK.out _ _ (belI_call hS hb) (fun hS => ?_)
     clear hK
     (try simp only [Act.put]); (try simp only [zPa]); (try simp only [zPb, zPc])
     refine wpAnyH_ready (rs := [6]) (by kernel_rfl) (by simp) ?_
     refine (AllReadyH.cons rfl (fun K hK => ?_) AllReadyH.nil)
     ·rw [if_pos (by kernel_rfl)]
      (try simp only [zGa]); (try simp only [zGb]); (try simp only [zGc])
      have cS := hC.c0
      go_simp
      clear cS
      skip
      skip
      skip
      skip
      skip
      refine hK.out _ _ (hS) (fun hS => ?_)
      clear hK
      (try simp only [Act.put]); (try simp only [zPa]); (try simp only [zPb, zPc])
      refine wpAnyH_ready (rs := [12]) (by kernel_rfl) (by simp) ?_
      refine (AllReadyH.cons rfl (fun K hK => ?_) AllReadyH.nil)
      ·rw [if_pos (by kernel_rfl)]
       (try simp only [zGa]); (try simp only [zGb]); (try simp only [zGc])
       go_simp
       with_reducible refine (HJN.out _ _ _ (RdR.of_own hEr) (RdR.of_own hz)).mono ?_
       rintro e W' ⟨y, rfl, hy, hb⟩
       dsimp only
       obtain ⟨Ay, cy, rfl⟩ := own_shape hy
       have hyg : g ∉ (Value.slice Ay J.length cy).ownBlock.toList := fun e => by have h1 := (own_ltB hy g e).1; have h2 := hC.lt; omega
       have hyl : ∀ b ∈ (Value.slice Ay J.length cy).ownBlock.toList, w.heap.size ≤ b := fun b hb => by have h1 := (own_ltB hy b hb).1; have h2 := hS.size; omega
       have hP := hP.call hb
       have hC := hC.call hb
       have hEr := own_call2 hEr hb
       have HV := fun j f h1 h2 => (HV j f h1 h2).call hb
       have hz := own_call2 hz hb
       refine hK.out _ _ (belI_call hS hb) (fun hS => ?_)
       clear hK
       (try simp only [Act.put]); (try simp only [zPa]); (try simp only [zPb, zPc])
       refine tkH (i := 13) (v := .pointer (some ⟨g, k * 12, none⟩)) rfl ?_
       refine tkH (i := 14) (v := .pointer (some ⟨g, k * 12, none⟩)) rfl ?_
       (try simp only [Act.put]); (try simp only [zPa]); (try simp only [zPb, zPc])
       refine wpAnyH_ready (rs := [15]) (by kernel_rfl) (by simp) ?_
       refine (AllReadyH.cons rfl (fun K hK => ?_) AllReadyH.nil)
       ·rw [if_pos (by kernel_rfl)]
        (try simp only [zGa]); (try simp only [zGb]); (try simp only [zGc])
        have cS := hC.c0
        have fS := halfP_frozen hP (k * 12)
        go_simp
        clear cS fS
        have hP9 := hP.put0 hP.len Hat.out (own_rebase hy fun _ _ => Nat.zero_le _) hyg
        skip
        skip
        have HV9 := fun j f (h1 : j < k) h2 => seV_other (k := k) (y := .slice Ay J.length cy) (HV j f h1 h2) (by omega)
        skip
        have hy9 := own_chgN hy (Chg.setCell _ ⟨g, k * 12, none⟩ (.slice Ay J.length cy)) (fun b hb e => hyg (by rw [← show b = g by simpa using e]; exact hb))
        have hc9 := cell_set_self (show C12 _ g (k * 12) f _ _ from hC).c0 (.slice Ay J.length cy)
        refine hK.out _ _ (below_grownG hS (grown_setI _ g (k * 12) _) (by omega)) (fun hS => ?_)
        clear hK
        (try simp only [Act.put]); (try simp only [zPa]); (try simp only [zPb, zPc])
        refine wpAnyH_done (by kernel_rfl) ?_ _
        obtain ⟨cs9, hP9, _, hcs9⟩ := hP9
        rw [Nat.add_zero, Hset.out] at hP9
        have HT9 : Hid (SeT w s.w s.h s.fs bs g (k + 1) (k + 1) _) := Lib.hid ⟨⟨cs9, hP9, fun b hb => (hcs9 b hb).elim (fun h => Hcs.out b h) (fun h => .inr (hyl b h))⟩, fun j f' h1 h2 => by
         rcases Nat.lt_or_ge j k with hjk | hjk
         ·exact HV9 j f' hjk h2
         ·obtain rfl : j = k := by omega
          obtain rfl : f = f' := Option.some.inj (Hf.out.symm.trans h2)
          rw [← HJe.out]
          exact ⟨_, hc9, own_rebase hy9 hyl, hyg⟩, hS⟩
        clear hP9 hy9 HV9 hc9 hcs9
        go_wp2_with fail
        go_roundg (k + 1 - (k + 1))
        case measure => omega
        case rel => exact ⟨k + 1, _, rfl, by omega, rfl, by go_num, HT9⟩
  ·obtain rfl : k = N := by omega
   have hni : ¬ (k : Int) < (k : Int) := by omega
   go_wp2_with fail
   go_ret
   refine ⟨g, by rw [← HN.out]; rfl, by rw [← HN.out]; exact HT.out, by omega⟩
end Go.Proofs.YtdgagooldlnpeaaGreat
