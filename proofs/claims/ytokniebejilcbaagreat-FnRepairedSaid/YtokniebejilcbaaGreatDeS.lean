/- The contract of DoEdits of the model. No statement is proved here. -/
import Derived.Test.YtokniebejilcbaaGreatMA
import Derived.Test.YtokniebejilcbaaGreatMC
import Derived.Test.YtokniebejilcbaaGreatMB
import Derived.Test.YtokniebejilcbaaGreatSnS
import Derived.Test.YtokniebejilcbaaGreatSnD
import Derived.Test.YtokniebejilcbaaGreatEdH
import Derived.Test.YtokniebejilcbaaGreatEdW
import Derived.Test.YtokniebejilcbaaGreatEdQ
import Derived.Test.YtokniebejilcbaaGreatEdS
import Derived.Test.YtokniebejilcbaaGreatProg
import Derived.WalkKit
import Derived.ProofKit
import Derived.OpenShut
import Derived.WalkLawsBesides
import Derived.WalkSpells
import Derived.ShutString
import Derived.ChangeOld
import Derived.Below
import Derived.Lib.Hide
import Derived.BigQuiet
import Derived.Deep.QuietTactic
import Derived.Maps.AppendAt
import Derived.Deep.OwnRows
import Derived.Handy
import Derived.Deep.Draws
import Derived.OwnWalk
import Derived.Deep.AppendLies
import Derived.Deep.LoopGhost
import Derived.Deep.Onto
import Derived.Deep.MidRow
import Derived.Deep.WholeRow
import Derived.Laws.BitsAllLaws
import Derived.Lib.QuoteBits
import Derived.Deep.RegionHeld3
import Derived.Deep.DeepCutAuto
import Derived.Test.YtokniebejilcbaaGreatShelf
import Derived.Laws.CopyOwn
import Derived.Deep.RegionLaw
import Derived.Great.BuildSlice
import Derived.Shelf.RegionOpenPlain
import Derived.Lib.SliceRun
import Derived.Deep.RegionWith
import Derived.Laws.AppendOwn
import Derived.Deep.CutBlock
namespace Go.Proofs.YtokniebejilcbaaGreat
open Go.RowKit
def EdsAnsS (s : Sn) (L : List Ed) (w : World) (e' : Ending) (w' : World) : Prop := ∃ u bs, e' = .returned (.tuple #[.agg #[.int .i64 (doEs s L).1.w, .int .i64 (doEs s L).1.h, .int .i64 (doEs s L).1.back, u], .int .i64 ((doEs s L).2 : Nat)]) ∧ repSfs.Own w.heap.size w' (doEs s L).1.fs [u] bs ∧ Below w.heap.size w w'
structure DeV (w : World) (b : Nat) (s : Sn) (v : Value) (bs : List Nat) (V : World) : Prop where
 z : BkAt V (w.heap.size + 1) 34 #[.int .i64 0, .int .i64 0, .int .i64 0, .slice none 0 0]
 bx : BkAt V b 34 #[.int .i64 s.w, .int .i64 s.h, .int .i64 s.back, v]
 own : repSfs.Own (w.heap.size + 2) V s.fs [v] bs
 nb : b ∉ bs
 bb : w.heap.size + 2 ≤ b
 bw : Below w.heap.size w V
theorem eq_of_single {x q : Nat} (h : x ∈ (some q).toList) : q = x := by simpa [eq_comm] using h
theorem DeV.call {w : World} {b : Nat} {s : Sn} {v : Value} {bs : List Nat} {V V' : World} (h : DeV w b s v bs V) (hb : Below V.heap.size V V') : DeV w b s v bs V' := ⟨h.z.call hb, h.bx.call hb, h.own.call hb, h.nb, h.bb, belI_call h.bw hb⟩
theorem DeV.far {w : World} {b : Nat} {s : Sn} {v : Value} {bs : List Nat} {V V' : World} {q : Nat} (h : DeV w b s v bs V) (hg : V.grownBy V' (some q)) (h1 : q ∉ bs) (h2 : q ≠ b) (h3 : w.heap.size + 2 ≤ q) : DeV w b s v bs V' :=
 ⟨h.z.grown hg fun e => by have := Option.some.inj e; omega, h.bx.grown hg fun e => h2 (Option.some.inj e).symm, h.own.chg (Chg.of_grown hg) fun x hx e => h1 (eq_of_single e ▸ hx), h.nb, h.bb, (Chg.of_grown hg).below h.bw h.bw.size fun k hk => (eq_of_single hk ▸ (by omega : w.heap.size ≤ q))⟩
theorem DeV.put {w : World} {b : Nat} {s t : Sn} {v u : Value} {bs cs : List Nat} {V : World} (h : DeV w b s v bs V) (ho : repSfs.Own 0 V t.fs [u] cs) (hlo : ∀ q ∈ cs, w.heap.size + 2 ≤ q) (hn : b ∉ cs) :
  DeV w b t u cs ((((V.setCell ⟨b, 0, none⟩ (.int .i64 t.w)).setCell ⟨b, 1, none⟩ (.int .i64 t.h)).setCell ⟨b, 2, none⟩ (.int .i64 t.back)).setCell ⟨b, 3, none⟩ u) := by
 have hg := (((grown_setB V b 0 (.int .i64 t.w)).trans (grown_setB _ b 1 (.int .i64 t.h))).trans (grown_setB _ b 2 (.int .i64 t.back))).trans (grown_setB _ b 3 u)
 have hbb := h.bb
 refine ⟨h.z.grown hg fun e => by have := Option.some.inj e; omega, h.bx.all4 _ _ _ _, ⟨Rep.chg ho.r (Chg.of_grown hg) fun x hx e => hn ?_, ho.nd, hlo⟩, hn, h.bb, (Chg.of_grown hg).below h.bw h.bw.size fun k hk => ?_⟩
 ·have h0 : x = b := (by simpa using e)
  rw [← h0]; exact hx
 ·have h0 : k = b := (by simpa using hk)
  omega
theorem es_take {L : List Ed} {k : Nat} {e : Ed} (h : L[k]? = some e) : L.take (k + 1) = L.take k ++ [e] := by rw [List.take_add_one, h]; rfl
set_option maxHeartbeats 4000000 in
set_option maxRecDepth 10000 in
theorem desS (s : Sn) (L : List Ed) (v z : Value) (bs bz : List Nat) (w : World) (hm : sizFs s.fs ≤ 1048576) (hml : ∀ e ∈ L, e.data.length ≤ 1048576) (h : repSfs.R w s.fs [v] bs) (hL : repEds.R w L [z] bz) :
  Calls Tryz.prog 24 #[.agg #[.int .i64 s.w, .int .i64 s.h, .int .i64 s.back, v], z] w (EdsAnsS s L w) := by
 obtain ⟨⟨A, c, rfl⟩, _⟩ := repSfs_form h
 obtain ⟨⟨Az, cz, rfl⟩, hmz⟩ := form_lEs hL
 unfold maxLen at hmz
 obtain ⟨N, hN⟩ : ∃ N, N = L.length := ⟨_, rfl⟩
 rw [← hN] at hL hmz ⊢
 have HN := Lib.hid hN
 have HZ := Lib.hid hL
 have Hml := Lib.hid hml
 have HCP := Lib.hid (fun V h => copySn s (.slice A s.fs.length c) bs V (Nat.le_trans hm (by omega)) h)
 unfold SnAns at HCP
 have Hm := Lib.hid hm
 have HW := Lib.hid h
 obtain ⟨wA, hwA⟩ : ∃ V, V = (w.alloc (.cells #[.int .i64 s.w, .int .i64 s.h, .int .i64 s.back, .slice A s.fs.length c] 34)).alloc (.cells #[.int .i64 0, .int .i64 0, .int .i64 0, .slice none 0 0] 34) := ⟨_, rfl⟩
 have hA : BkAt wA w.heap.size 34 #[.int .i64 s.w, .int .i64 s.h, .int .i64 s.back, .slice A s.fs.length c] := by rw [hwA]; exact (BkAt.new _ _ _).call (belI_box _ _)
 have hz : BkAt wA (w.heap.size + 1) 34 #[.int .i64 0, .int .i64 0, .int .i64 0, .slice none 0 0] := by rw [hwA]; exact BkAt.newAt (by simp) _ _
 have hb : Below w.heap.size w wA := by rw [hwA]; exact belI_call (belI_box _ _) (belI_box _ _)
 have hsz : wA.heap.size = w.heap.size + 2 := by rw [hwA]; simp
 obtain ⟨a0, a1, a2, a3⟩ := hA.cells4
 rw [hwA] at a0 a1 a2 a3
 have HA := Lib.hid hwA
 have Hz := Lib.hid hz
 have Hb := Lib.hid hb
 have Hsz := Lib.hid hsz
 clear h hm hml hL hN hwA hA hz hb hsz
 go_enter Tryz.func24, Tryz.ntmps24
 go_wp2_with fail
 rw [← HA.out]
 clear a0 a1 a2 a3
 refine (HCP.out _ (Rep.call HW.out Hb.out)).mono ?_
 rintro e w1 ⟨u, bs1, rfl, hO, hb⟩
 obtain ⟨Au, cu, hu⟩ := (repSfs_form hO.r).1
 subst hu
 obtain ⟨V1, hV1⟩ : ∃ V, V = w1.alloc (.cells #[.int .i64 s.w, .int .i64 s.h, .int .i64 s.back, .slice Au s.fs.length cu] 34) := ⟨_, rfl⟩
 obtain ⟨b, hbb⟩ : ∃ b, b = w1.heap.size := ⟨_, rfl⟩
 have hbx : Below w1.heap.size w1 V1 := by rw [hV1]; exact belI_box _ _
 have HD : Hid (DeV w b s (.slice Au s.fs.length cu) bs1 V1) := Lib.hid ⟨(Hz.out.call hb).call hbx, by rw [hV1, hbb]; exact BkAt.new _ _ _, (hO.call hbx).mono (by rw [Hsz.out]; exact Nat.le_refl _), fun e => by have := repSfs.ex hO.r b e; omega, by have := hb.size; rw [Hsz.out] at this; omega, belI_call (belI_call Hb.out hb) hbx⟩
 have HE : Hid (doEs s (L.take 0) = (s, 0)) := Lib.hid rfl
 have HV1 := Lib.hid hV1
 have Hbb := Lib.hid hbb
 clear hO hb hV1 hbb hbx
 go_wp2_with fail
 rw [← HV1.out, ← Hbb.out]
 go_loopg [7, 8] N (fun gk s7 s8 wr => ∃ (k n : Nat) (r : Sn) (u : Value) (bs : List Nat) (V : World), V = wr ∧ k ≤ N ∧ gk = N - k ∧ n ≤ k ∧ s7 = .int .i64 n ∧ s8 = .int .i64 k ∧ Hid (doEs s (L.take k) = (r, n)) ∧ Hid (sizFs r.fs ≤ 1048576) ∧ Hid (DeV w b r u bs V))
 case atStart => exact ⟨0, 0, _, _, _, _, rfl, Nat.zero_le _, by omega, Nat.le_refl _, rfl, rfl, HE, Hm, HD⟩
 case round =>
  clear HE HD HV1 Hbb
  obtain ⟨k, n, r, u, bs, V, hV, hk, rfl, hn, rfl, rfl, HE, HM, HD⟩ := hrel
  subst hV
  obtain ⟨Ar, cr, hu⟩ := (repSfs_form HD.out.own.r).1
  subst hu
  by_cases hlt : k < N
  ·obtain ⟨gz, e, d, be, rfl, hf, hR, hC⟩ := at_lEs HZ.out (k := k) (by rw [← HN.out]; exact hlt)
   obtain ⟨d', hd', hdr⟩ := hR
   obtain rfl : d = d' := by injection hd' with _ h; injection h with _ h; injection h with _ h; injection h with _ h; injection h with _ h; injection h with _ h; injection h
   obtain ⟨⟨Ad, cd, rfl⟩, _⟩ := ints_form hdr
   have HC0 : Hid (∀ V', Below w.heap.size w V' → ∀ j u, (edCells e (.slice Ad e.data.length cd))[j]? = some u → V'.cell? ⟨gz, k * 7 + j, none⟩ = some u) := Lib.hid fun V' hb j u hu => (hb.cell (World.block_lt_of_cell? w _ (hC j u hu))).trans (hC j u hu)
   have HR0 : Hid (∀ V', Below w.heap.size w V' → repInts.R V' e.data [.slice Ad e.data.length cd] be) := Lib.hid fun V' hb => Rep.call hdr hb
   have Hle := Lib.hid (Hml.out e (List.mem_of_getElem? hf))
   have Hnx := Lib.hid (doEs_snoc s (L.take k) e)
   rw [HE.out, ← es_take hf] at Hnx
   dsimp only at Hnx
   have k0 : (0 : Int) ≤ (k : Int) := by omega
   have k1 : (k : Int) < (N : Int) := by omega
   have HV : Hid (∀ q ∈ bs, q < V.heap.size) := Lib.hid (fun q hq => repSfs.ex HD.out.own.r q hq)
   have Hbl : Hid (b < V.heap.size ∧ w.heap.size + 2 ≤ b) := Lib.hid ⟨HD.out.bx.lt, HD.out.bb⟩
   have hD := HD.out
   have HDl := Lib.hid (doE_siz e HM.out).1
   clear hf hC hdr HD hd'
   go_upto_region 6 with fail
   refine wp_region_held_drew (S := fun V' => DeV w b r (.slice Ar r.fs.length cr) bs V' ∧ V.heap.size ≤ V'.heap.size) (by kernel_rfl) ⟨hD.call (belI_drew _), Nat.le_refl _⟩ (fun hS => ?_)
   refine tcH (i := 0) (v := .agg #[.int .i64 r.w, .int .i64 r.h, .int .i64 r.back, .slice Ar r.fs.length cr]) rfl (by intro w' hSw; (try dsimp only at hSw); (obtain ⟨c0, c1, c2, c3⟩ := hSw.1.bx.cells4); go_simp) ?_
   refine tkH (i := 1) (v := .slice (some ⟨gz, 0, none⟩) N cz) rfl ?_
   refine tkH (i := 2) (v := .int .i64 (k : Int)) rfl ?_
   refine tkH (i := 3) (v := .pointer (some ⟨gz, k * 7, none⟩)) rfl ?_
   refine tcH (i := 4) (v := .agg #[.int .i64 e.kind, .int .i64 e.id, .int .i64 e.a, .int .i64 e.b, .int .i64 e.bw, .int .i64 e.bh, .slice Ad e.data.length cd]) rfl (by intro w' hSw; (try dsimp only at hSw); (have e0 := HC0.out _ hSw.1.bw 0 _ rfl); (have e1 := HC0.out _ hSw.1.bw 1 _ rfl); (have e2 := HC0.out _ hSw.1.bw 2 _ rfl); (have e3 := HC0.out _ hSw.1.bw 3 _ rfl); (have e4 := HC0.out _ hSw.1.bw 4 _ rfl); (have e5 := HC0.out _ hSw.1.bw 5 _ rfl); (have e6 := HC0.out _ hSw.1.bw 6 _ rfl); (rw [Nat.add_zero] at e0); go_simp) ?_
   (try simp only [Act.put]); (try simp only [zPa]); (try simp only [zPb, zPc])
   refine wpAnyH_ready (rs := [5, 9]) (by kernel_rfl) (by simp) ?_
   refine (AllReadyH.cons rfl (fun K hK => ?_) (AllReadyH.cons rfl (fun K hK => ?_) AllReadyH.nil))
   ·rw [if_pos (by kernel_rfl)]
    (try simp only [zGa]); (try simp only [zGb]); (try simp only [zGc])
    go_simp
    have k5 := hS.2
    with_reducible refine (doeS r e (.slice Ar r.fs.length cr) _ bs be _ HM.out Hle.out hS.1.own.r (HR0.out _ hS.1.bw)).mono ?_
    rintro e' W' ⟨u2, bs2, rfl, hO2, hb⟩
    obtain ⟨T, hTT⟩ : ∃ T, T = doE r e := ⟨_, rfl⟩
    rw [← hTT] at hO2
    try rw [← hTT]
    have HTT := Lib.hid hTT
    clear hTT
    obtain ⟨A2, c2, hu2⟩ := (repSfs_form hO2.r).1
    subst hu2
    have Hlo2 : Hid (∀ q ∈ bs2, V.heap.size ≤ q) := Lib.hid (fun q hq => Nat.le_trans k5 (hO2.lo q hq))
    replace hO2 := hO2.mono (Nat.zero_le _)
    clear k5
    dsimp only
    refine hK.out _ _ (⟨hS.1.call hb, Nat.le_trans hS.2 hb.size⟩) (fun hS => ?_)
    clear hK
    (try simp only [Act.put]); (try simp only [zPa]); (try simp only [zPb, zPc])
    refine tkH (i := 6) (v := .tuple #[.agg #[.int .i64 T.1.w, .int .i64 T.1.h, .int .i64 T.1.back, .slice A2 T.1.fs.length c2], .bool T.2]) rfl ?_
    refine tkH (i := 7) (v := .agg #[.int .i64 T.1.w, .int .i64 T.1.h, .int .i64 T.1.back, .slice A2 T.1.fs.length c2]) rfl ?_
    refine tkH (i := 8) (v := .bool T.2) rfl ?_
    (try simp only [Act.put]); (try simp only [zPa]); (try simp only [zPb, zPc])
    refine wpAnyH_ready (rs := [9]) (by kernel_rfl) (by simp) ?_
    refine (AllReadyH.cons rfl (fun K hK => ?_) AllReadyH.nil)
    ·rw [if_pos (by kernel_rfl)]
     (try simp only [zGa]); (try simp only [zGb]); (try simp only [zGc])
     have k9s := hS.2
     refine wp_alloc_bk 34 #[.int .i64 0, .int .i64 0, .int .i64 0, .slice none 0 0] (fun _ => by kernel_rfl) rfl 9 rfl ?_
     intro b9 W' hb GB lB
     have K9 := Lib.hid (Nat.le_trans k9s lB)
     clear k9s
     have Hn9 : Hid (b9 ∉ bs2) := Lib.hid (fun h => by have := repSfs.ex hO2.r b9 h; omega)
     have hO2 := hO2.call hb
     refine hK.out _ _ (⟨hS.1.call hb, Nat.le_trans hS.2 hb.size⟩) (fun hS => ?_)
     clear hK
     (try simp only [Act.put]); (try simp only [zPa]); (try simp only [zPb, zPc])
     refine wpAnyH_ready (rs := [10]) (by kernel_rfl) (by simp) ?_
     refine (AllReadyH.cons rfl (fun K hK => ?_) AllReadyH.nil)
     ·rw [if_pos (by kernel_rfl)]
      (try simp only [zGa]); (try simp only [zGb]); (try simp only [zGc])
      refine wp_store_bk 34 (.tmp 9) (.tmp 26) rfl b9 _ #[.int .i64 0, .int .i64 0, .int .i64 0, .slice none 0 0] #[.int .i64 T.1.w, .int .i64 T.1.h, .int .i64 T.1.back, .slice A2 T.1.fs.length c2] (by kernel_rfl) rfl (by simp [Value.oneCell']) rfl (by first | with_reducible rfl | (go_simp; done) | rfl) GB ?_
      intro W9 IB hgB
      have hO9 := hO2.chg (Chg.of_grown hgB) (fun q hq e => Hn9.out (by have h0 : q = b9 := (by simpa using e); rw [← h0]; exact hq))
      skip
      refine hK.out _ _ (⟨hS.1.far hgB (fun e => by have := HV.out b9 e; have := K9.out; omega) (by have := Hbl.out; have := K9.out; omega) (by have := Hbl.out; have := K9.out; omega), Nat.le_trans hS.2 hgB.size⟩) (fun hS => ?_)
      clear hK
      (try simp only [Act.put]); (try simp only [zPa]); (try simp only [zPb, zPc])
      refine tkH (i := 11) (v := .bool T.2) rfl ?_
      refine wpAnyH_done (by kernel_rfl) ?_ _
      have HM9 : Hid (sizFs T.1.fs ≤ 1048576) := Lib.hid (by rw [HTT.out]; exact HDl.out)
      have HP9 := Lib.hid (hS.1.put hO9 (fun q hq => by have := Hlo2.out q hq; have := Hbl.out; omega) (fun e => by have := Hlo2.out b e; have := Hbl.out; omega))
      obtain ⟨i0, i1, i2, i3⟩ := IB.cells4
      obtain ⟨c0, c1, c2', c3⟩ := hS.1.bx.cells4
      have f0 := hS.1.bx.frozen 0
      have f1 := hS.1.bx.frozen 1
      have f2 := hS.1.bx.frozen 2
      have f3 := hS.1.bx.frozen 3
      obtain ⟨tb, htb⟩ : ∃ x, x = T.2 := ⟨_, rfl⟩
      rw [← htb]
      have HE9 : Hid (doEs s (L.take (k + 1)) = (T.1, n + if tb = true then 1 else 0)) := Lib.hid (by rw [Hnx.out, ← HTT.out, ← htb])
      clear htb hO9
      cases tb
      ·go_wp2_with fail
       go_roundg (N - (k + 1))
       case measure => omega
       case rel => exact ⟨k + 1, n, T.1, _, bs2, _, rfl, by omega, rfl, by omega, rfl, by go_num, HE9, HM9, HP9⟩
      ·go_wp2_with fail
       go_roundg (N - (k + 1))
       case measure => omega
       case rel => exact ⟨k + 1, n + 1, T.1, _, bs2, _, rfl, by omega, rfl, by omega, by go_num, by go_num, HE9, HM9, HP9⟩
   ·rw [if_pos (by kernel_rfl)]
    (try simp only [zGa]); (try simp only [zGb]); (try simp only [zGc])
    have k9s := hS.2
    refine wp_alloc_bk 34 #[.int .i64 0, .int .i64 0, .int .i64 0, .slice none 0 0] (fun _ => by kernel_rfl) rfl 9 rfl ?_
    intro b9 W' hb GB lB
    have K9 := Lib.hid (Nat.le_trans k9s lB)
    clear k9s
    refine hK.out _ _ (⟨hS.1.call hb, Nat.le_trans hS.2 hb.size⟩) (fun hS => ?_)
    clear hK
    (try simp only [Act.put]); (try simp only [zPa]); (try simp only [zPb, zPc])
    refine wpAnyH_ready (rs := [5]) (by kernel_rfl) (by simp) ?_
    refine (AllReadyH.cons rfl (fun K hK => ?_) AllReadyH.nil)
    ·rw [if_pos (by kernel_rfl)]
     (try simp only [zGa]); (try simp only [zGb]); (try simp only [zGc])
     go_simp
     have k5 := hS.2
     have g5 := GB.lt
     with_reducible refine (doeS r e (.slice Ar r.fs.length cr) _ bs be _ HM.out Hle.out hS.1.own.r (HR0.out _ hS.1.bw)).mono ?_
     rintro e' W' ⟨u2, bs2, rfl, hO2, hb⟩
     obtain ⟨T, hTT⟩ : ∃ T, T = doE r e := ⟨_, rfl⟩
     rw [← hTT] at hO2
     try rw [← hTT]
     have HTT := Lib.hid hTT
     clear hTT
     obtain ⟨A2, c2, hu2⟩ := (repSfs_form hO2.r).1
     subst hu2
     have Hlo2 : Hid (∀ q ∈ bs2, V.heap.size ≤ q) := Lib.hid (fun q hq => Nat.le_trans k5 (hO2.lo q hq))
     have Hn9 : Hid (b9 ∉ bs2) := Lib.hid (fun h => by have := hO2.lo b9 h; omega)
     replace hO2 := hO2.mono (Nat.zero_le _)
     clear k5 g5
     dsimp only
     have GB := GB.call hb
     refine hK.out _ _ (⟨hS.1.call hb, Nat.le_trans hS.2 hb.size⟩) (fun hS => ?_)
     clear hK
     (try simp only [Act.put]); (try simp only [zPa]); (try simp only [zPb, zPc])
     refine tkH (i := 6) (v := .tuple #[.agg #[.int .i64 T.1.w, .int .i64 T.1.h, .int .i64 T.1.back, .slice A2 T.1.fs.length c2], .bool T.2]) rfl ?_
     refine tkH (i := 7) (v := .agg #[.int .i64 T.1.w, .int .i64 T.1.h, .int .i64 T.1.back, .slice A2 T.1.fs.length c2]) rfl ?_
     refine tkH (i := 8) (v := .bool T.2) rfl ?_
     (try simp only [Act.put]); (try simp only [zPa]); (try simp only [zPb, zPc])
     refine wpAnyH_ready (rs := [10]) (by kernel_rfl) (by simp) ?_
     refine (AllReadyH.cons rfl (fun K hK => ?_) AllReadyH.nil)
     ·rw [if_pos (by kernel_rfl)]
      (try simp only [zGa]); (try simp only [zGb]); (try simp only [zGc])
      refine wp_store_bk 34 (.tmp 9) (.tmp 26) rfl b9 _ #[.int .i64 0, .int .i64 0, .int .i64 0, .slice none 0 0] #[.int .i64 T.1.w, .int .i64 T.1.h, .int .i64 T.1.back, .slice A2 T.1.fs.length c2] (by kernel_rfl) rfl (by simp [Value.oneCell']) rfl (by first | with_reducible rfl | (go_simp; done) | rfl) GB ?_
      intro W9 IB hgB
      skip
      have hO9 := hO2.chg (Chg.of_grown hgB) (fun q hq e => Hn9.out (by have h0 : q = b9 := (by simpa using e); rw [← h0]; exact hq))
      refine hK.out _ _ (⟨hS.1.far hgB (fun e => by have := HV.out b9 e; have := K9.out; omega) (by have := Hbl.out; have := K9.out; omega) (by have := Hbl.out; have := K9.out; omega), Nat.le_trans hS.2 hgB.size⟩) (fun hS => ?_)
      clear hK
      (try simp only [Act.put]); (try simp only [zPa]); (try simp only [zPb, zPc])
      refine tkH (i := 11) (v := .bool T.2) rfl ?_
      refine wpAnyH_done (by kernel_rfl) ?_ _
      have HM9 : Hid (sizFs T.1.fs ≤ 1048576) := Lib.hid (by rw [HTT.out]; exact HDl.out)
      have HP9 := Lib.hid (hS.1.put hO9 (fun q hq => by have := Hlo2.out q hq; have := Hbl.out; omega) (fun e => by have := Hlo2.out b e; have := Hbl.out; omega))
      obtain ⟨i0, i1, i2, i3⟩ := IB.cells4
      obtain ⟨c0, c1, c2', c3⟩ := hS.1.bx.cells4
      have f0 := hS.1.bx.frozen 0
      have f1 := hS.1.bx.frozen 1
      have f2 := hS.1.bx.frozen 2
      have f3 := hS.1.bx.frozen 3
      obtain ⟨tb, htb⟩ : ∃ x, x = T.2 := ⟨_, rfl⟩
      rw [← htb]
      have HE9 : Hid (doEs s (L.take (k + 1)) = (T.1, n + if tb = true then 1 else 0)) := Lib.hid (by rw [Hnx.out, ← HTT.out, ← htb])
      clear htb hO9
      cases tb
      ·go_wp2_with fail
       go_roundg (N - (k + 1))
       case measure => omega
       case rel => exact ⟨k + 1, n, T.1, _, bs2, _, rfl, by omega, rfl, by omega, rfl, by go_num, HE9, HM9, HP9⟩
      ·go_wp2_with fail
       go_roundg (N - (k + 1))
       case measure => omega
       case rel => exact ⟨k + 1, n + 1, T.1, _, bs2, _, rfl, by omega, rfl, by omega, by go_num, by go_num, HE9, HM9, HP9⟩
  ·obtain rfl : k = N := by omega
   have hfull : L.take k = L := List.take_of_length_le (by rw [← HN.out]; exact Nat.le_refl _)
   have hE := HE.out
   rw [hfull] at hE
   have HE2 := Lib.hid hE
   have hD := HD.out
   have hni : ¬ (k : Int) < (k : Int) := by omega
   obtain ⟨c0, c1, c2, c3⟩ := hD.bx.cells4
   obtain ⟨z0, z1, z2, z3⟩ := hD.z.cells4
   have f0 := hD.z.frozen 0
   have f1 := hD.z.frozen 1
   have f2 := hD.z.frozen 2
   have f3 := hD.z.frozen 3
   have HJ := Lib.hid (hD.z.all4 (.int .i64 r.w) (.int .i64 r.h) (.int .i64 r.back) (.slice Ar r.fs.length cr))
   have Hg := Lib.hid ((((grown_setB V (w.heap.size + 1) 0 (.int .i64 r.w)).trans (grown_setB _ (w.heap.size + 1) 1 (.int .i64 r.h))).trans (grown_setB _ (w.heap.size + 1) 2 (.int .i64 r.back))).trans (grown_setB _ (w.heap.size + 1) 3 (.slice Ar r.fs.length cr)))
   clear hfull hE HE HD
   go_wp2_with fail
   obtain ⟨s0, s1, s2, s3⟩ := HJ.out.cells4
   refine bodyPost_ret (v := .tuple #[.agg #[.int .i64 r.w, .int .i64 r.h, .int .i64 r.back, .slice Ar r.fs.length cr], .int .i64 (n : Int)]) (by simp [results, Tryz.results24, go_sem, s0, s1, s2, s3]) rfl ?_
   unfold EdsAnsS
   rw [HE2.out]
   exact ⟨_, bs, rfl, (hD.own.chg (Chg.of_grown Hg.out) (fun q hq e => by have h1 := hD.own.lo q hq; have h2 : q = w.heap.size + 1 := (by simpa using e); omega)).mono (by omega), (Chg.of_grown Hg.out).below hD.bw hD.bw.size fun q hq => eq_of_single hq ▸ Nat.le_succ _⟩
end Go.Proofs.YtokniebejilcbaaGreat
