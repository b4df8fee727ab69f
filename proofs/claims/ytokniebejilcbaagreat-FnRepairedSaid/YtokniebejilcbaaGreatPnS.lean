/- The contracts of painting, of the model. No statement is proved here. -/
import Derived.Test.YtokniebejilcbaaGreatMA
import Derived.Test.YtokniebejilcbaaGreatMB
import Derived.Test.YtokniebejilcbaaGreatMC
import Derived.Test.YtokniebejilcbaaGreatCpyI
import Derived.Test.YtokniebejilcbaaGreatFilB
import Derived.Test.YtokniebejilcbaaGreatFilS
import Derived.Test.YtokniebejilcbaaGreatSnS
import Derived.Test.YtokniebejilcbaaGreatSfR
import Derived.Test.YtokniebejilcbaaGreatOrdB
import Derived.Test.YtokniebejilcbaaGreatOrdS
import Derived.Test.YtokniebejilcbaaGreatOrdI
import Derived.Test.YtokniebejilcbaaGreatOrdA
import Derived.Test.YtokniebejilcbaaGreatSclB
import Derived.Test.YtokniebejilcbaaGreatSfP
import Derived.Test.YtokniebejilcbaaGreatPnM
import Derived.Test.YtokniebejilcbaaGreatProg
import Derived.WalkKit
import Derived.ProofKit
import Derived.OpenShut
import Derived.WalkLawsBesides
import Derived.WalkSpells
import Derived.ShutString
import Derived.ChangeOld
import Derived.Below
import Derived.Lib.Hide
import Derived.BigQuiet
import Derived.Deep.QuietTactic
import Derived.Maps.AppendAt
import Derived.Deep.OwnRows
import Derived.Handy
import Derived.Deep.Draws
import Derived.OwnWalk
import Derived.Deep.AppendLies
import Derived.Deep.LoopGhost
import Derived.Deep.Onto
import Derived.Deep.MidRow
import Derived.Deep.WholeRow
import Derived.Laws.BitsAllLaws
import Derived.Lib.QuoteBits
import Derived.Deep.RegionHeld3
import Derived.Deep.DeepCutAuto
import Derived.Test.YtokniebejilcbaaGreatShelf
import Derived.Laws.CopyOwn
import Derived.Deep.RegionLaw
import Derived.Great.BuildSlice
import Derived.Laws.AppendOwn
import Derived.ChangeKeysEq
namespace Go.Proofs.YtokniebejilcbaaGreat
open Go.RowKit
structure PnA (w : World) (W H : Nat) (sb : Int) (fs : List Sf) (v : Value) (bs : List Nat) (bo : Nat) (u : Value) (V : World) : Prop where
 a : SnA w.heap.size ⟨W, H, sb, fs⟩ v bs V
 r : ImAt V (w.heap.size + 1) 55 0 0 (.slice none 0 0)
 o : ImAt V bo 55 W H u
 bw : Below w.heap.size w V
theorem PnA.call {w : World} {W H : Nat} {sb : Int} {fs : List Sf} {v : Value} {bs : List Nat} {bo : Nat} {u : Value} {V V' : World} (h : PnA w W H sb fs v bs bo u V) (hb : Below V.heap.size V V') : PnA w W H sb fs v bs bo u V' := ⟨h.a.call hb, h.r.call hb, h.o.call hb, belI_call h.bw hb⟩
theorem PnA.set {w : World} {W H : Nat} {sb : Int} {fs : List Sf} {v : Value} {bs : List Nat} {bo gq : Nat} {u : Value} {V V' : World} (h : PnA w W H sb fs v bs bo u V) (ho : (∀ b ∈ bs, b < w.heap.size) ∧ w.heap.size + 1 < gq ∧ bo ≠ gq) (hg : V.grownBy V' (some gq)) : PnA w W H sb fs v bs bo u V' :=
 ⟨⟨h.a.at_.grown hg (fun e => by have := Option.some.inj e; omega), Rep.chg h.a.r (Chg.of_grown hg) fun b hb e => by have := ho.1 b hb; have : b = gq := (by simpa using e); omega⟩, h.r.grown hg (fun e => by have := Option.some.inj e; omega), h.o.grown hg (fun e => ho.2.2 (Option.some.inj e)), h.bw.grown hg h.bw.size (fun k e => by have := Option.some.inj e; omega)⟩
theorem PnA.cells {w : World} {W H : Nat} {sb : Int} {fs : List Sf} {v : Value} {bs : List Nat} {bo : Nat} {u : Value} {V : World} (h : PnA w W H sb fs v bs bo u V) : V.cell? ⟨w.heap.size, 0, none⟩ = some (.int .i64 W) ∧ V.cell? ⟨w.heap.size, 1, none⟩ = some (.int .i64 H) ∧ V.cell? ⟨w.heap.size, 2, none⟩ = some (.int .i64 sb) ∧ V.cell? ⟨w.heap.size, 3, none⟩ = some v := h.a.cells
structure PnC (w : World) (W H : Nat) (sb : Int) (fs : List Sf) (v : Value) (bs : List Nat) (bo : Nat) (u : Value) (br : Nat) (r : Rc) (bp : Nat) (P : Im) (up : Value) (bx X Y n h : Nat) (V : World) : Prop where
 p : PnA w W H sb fs v bs bo u V
 r : RcAt V br r
 i : ImAt V bp 55 P.w P.h up
 d : RdI V up P.d
 x : RcAt V bx ⟨X, Y, n, h⟩
def PnO (w : World) (bs : List Nat) (bo gq br bp gp bx : Nat) : Prop := ((∀ b ∈ bs, b < w.heap.size) ∧ w.heap.size + 1 < gq ∧ bo ≠ gq) ∧ br ≠ gq ∧ bp ≠ gq ∧ bx ≠ gq ∧ gp ≠ gq
theorem PnC.call {w : World} {W H : Nat} {sb : Int} {fs : List Sf} {v : Value} {bs : List Nat} {bo : Nat} {u : Value} {br : Nat} {r : Rc} {bp : Nat} {P : Im} {up : Value} {bx X Y n h : Nat} {V V' : World} (k : PnC w W H sb fs v bs bo u br r bp P up bx X Y n h V) (hb : Below V.heap.size V V') : PnC w W H sb fs v bs bo u br r bp P up bx X Y n h V' :=
 ⟨k.p.call hb, k.r.below hb k.r.lt, k.i.call hb, k.d.call hb, k.x.below hb k.x.lt⟩
theorem PnC.set {w : World} {W H : Nat} {sb : Int} {fs : List Sf} {v : Value} {bs : List Nat} {bo gq gp pn cp : Nat} {u : Value} {br : Nat} {r : Rc} {bp : Nat} {P : Im} {bx X Y n h : Nat} {V V' : World} (k : PnC w W H sb fs v bs bo u br r bp P (.slice (some ⟨gp, 0, none⟩) pn cp) bx X Y n h V) (ho : PnO w bs bo gq br bp gp bx) (hg : V.grownBy V' (some gq)) : PnC w W H sb fs v bs bo u br r bp P (.slice (some ⟨gp, 0, none⟩) pn cp) bx X Y n h V' :=
 ⟨k.p.set ho.1 hg, k.r.grownI hg (fun e => ho.2.1 (Option.some.inj e)), k.i.grown hg (fun e => ho.2.2.1 (Option.some.inj e)), k.d.grown hg (fun q hq e => by have h1 : gp = q := (by simpa [Value.ownBlock] using hq); have h2 := Option.some.inj e; exact ho.2.2.2.2 (h1.trans h2)), k.x.grownI hg (fun e => ho.2.2.2.1 (Option.some.inj e))⟩
set_option maxHeartbeats 4000000 in
set_option maxRecDepth 100000 in
theorem l11S_ok (W H : Nat) (sb : Int) (fs : List Sf) (v : Value) (bs : List Nat) (w : World) (hs : snOk ⟨W, H, sb, fs⟩) (h : repSfs.R w fs [v] bs) :
  Calls Tryz.prog 74 #[.agg #[.int .i64 W, .int .i64 H, .int .i64 sb, v]] w (AnsIm (pnIm ⟨W, H, sb, fs⟩) w) := by
 obtain ⟨D0, hD0⟩ : ∃ D, D = flatN W H sb := ⟨_, rfl⟩
 have HA : Hid (pnIm ⟨W, H, sb, fs⟩ = ⟨W, H, pnL W D0 fs⟩) := Lib.hid (by rw [pnIm_yes hs, hD0]; rfl)
 have HC := fun V => newS W H sb V
 unfold AnsIm at HC
 rw [new_yes hs.1 hs.2.1.1, ← hD0] at HC
 dsimp only at HC
 have HC := Lib.hid HC
 obtain ⟨m, hm⟩ : ∃ m, m = D0.length := ⟨_, rfl⟩
 have hmW : m = W * H := by rw [hm, hD0]; unfold flatN; rw [tabI_length, ← Int.natCast_mul, Int.toNat_natCast]
 obtain ⟨wl, wh, hl, hh⟩ : 1 ≤ W ∧ W ≤ 16 ∧ 1 ≤ H ∧ H ≤ 16 := by have := hs.1; unfold szOk at this; dsimp only at this; omega
 have hm1 : 1 ≤ m := by rw [hmW]; exact Nat.mul_pos wl hl
 have hm2 : m ≤ 256 := by rw [hmW]; exact mul_256 wh hh
 have Hs := Lib.hid hs
 have hold : ∀ b ∈ bs, b < w.heap.size := fun b hb => repSfs.ex h b hb
 obtain ⟨⟨A, c, rfl⟩, hml⟩ := repSfs_form h
 obtain ⟨N, hN⟩ : ∃ N, N = fs.length := ⟨_, rfl⟩
 rw [← hN] at h hml ⊢
 have hN6 : N ≤ 6 := by rw [hN]; exact hs.2.2.1
 have HN := Lib.hid hN
 have Hm := Lib.hid hm
 have HmW := Lib.hid hmW
 have Hold := Lib.hid hold
 have hA0 := (SnA.born (s := ⟨W, H, sb, fs⟩) h).call (belI_box _ (.cells #[.int .i64 0, .int .i64 0, .slice none 0 0] 55))
 have hR0 : ImAt ((w.alloc (.cells #[.int .i64 W, .int .i64 H, .int .i64 sb, .slice A N c] 34)).alloc (.cells #[.int .i64 0, .int .i64 0, .slice none 0 0] 55)) (w.heap.size + 1) 55 0 0 (.slice none 0 0) := ImAt.newAt (by simp) _ _ _ _
 have hb0 := belI_call (belI_box w (.cells #[.int .i64 W, .int .i64 H, .int .i64 sb, .slice A N c] 34)) (belI_box _ (.cells #[.int .i64 0, .int .i64 0, .slice none 0 0] 55))
 obtain ⟨d0, d1, d2, d3⟩ := hA0.cells
 dsimp only at hA0 d0 d1 d2 d3
 clear hs hD0 hm hmW hN h hold hml
 go_enter Tryz.func74, Tryz.ntmps74
 go_wp2_with fail
 refine (HC.out _).mono ?_
 rintro e w1 ⟨u, rfl, hown, hb⟩
 rw [← Hm.out] at hown
 obtain ⟨gq, cq, hu, hg1, hg2⟩ := hown.form (by omega)
 subst hu
 have hz := hb.size
 simp at hz hg1
 obtain ⟨bo, hbo⟩ : ∃ b, b = w1.heap.size := ⟨_, rfl⟩
 have hbx := belI_box w1 (.cells #[.int .i64 W, .int .i64 H, .slice (some ⟨gq, 0, none⟩) m cq] 55)
 obtain ⟨V0, hV0⟩ : ∃ V, V = w1.alloc (.cells #[.int .i64 W, .int .i64 H, .slice (some ⟨gq, 0, none⟩) m cq] 55) := ⟨_, rfl⟩
 have HP0 : Hid (PnA w W H sb fs (.slice A N c) bs bo (.slice (some ⟨gq, 0, none⟩) m cq) V0) := Lib.hid (by
  rw [hV0]; exact ⟨(hA0.call hb).call hbx, (hR0.call hb).call hbx, ImAt.newAt hbo.symm _ _ _ _, belI_call (belI_call hb0 hb) hbx⟩)
 have HO : Hid (V0.ownsRow (w.heap.size + 2) 3 1 (.slice (some ⟨gq, 0, none⟩) m cq) m (intCells (pnL W D0 (fs.take 0)))) := Lib.hid (by
  rw [hV0]; exact (hown.mono (by simp)).alloc _)
 have Hsep : Hid ((∀ b ∈ bs, b < w.heap.size) ∧ w.heap.size + 1 < gq ∧ bo ≠ gq ∧ gq < V0.heap.size) := Lib.hid ⟨Hold.out, by omega, by omega, by rw [hV0]; simp; omega⟩
 have HV0 := Lib.hid hV0
 have Hbo := Lib.hid hbo
 clear hA0 hR0 hb0 hb hown hbx hV0 hbo hg1 hg2 hz d0 d1 d2 d3
 go_wp2_with fail
 rw [← HV0.out, ← Hbo.out]
 go_loopg [4] N (fun g4 s4 wr => ∃ (k : Nat) (V : World), V = wr ∧ k ≤ N ∧ g4 = N - k ∧ s4 = .int .i64 k ∧ Hid (PnA w W H sb fs (.slice A N c) bs bo (.slice (some ⟨gq, 0, none⟩) m cq) V) ∧ Hid (V.ownsRow (w.heap.size + 2) 3 1 (.slice (some ⟨gq, 0, none⟩) m cq) m (intCells (pnL W D0 (fs.take k)))) ∧ Hid (V0.heap.size ≤ V.heap.size))
 case atStart => exact ⟨0, _, rfl, Nat.zero_le _, by omega, rfl, HP0, HO, Lib.hid (Nat.le_refl _)⟩
 case round =>
  clear HP0 HO
  obtain ⟨k, V, hV, hk, rfl, rfl, HP, HO, Hsz⟩ := hrel
  subst hV
  obtain ⟨d0, d1, d2, d3⟩ := HP.out.cells
  by_cases hlt : k < N
  ·obtain ⟨g, f, d, hA1, hf, hC, hd⟩ := repSfs_at HP.out.a.r (k := k) (by dsimp only; rw [← HN.out]; exact hlt)
   dsimp only at hf
   subst hA1
   obtain ⟨Ad, cd, rfl⟩ := hd.form
   have Hf := Lib.hid hf
   have hsf := (Hs.out.2.2.2 k f hf).1
   obtain ⟨r, hr⟩ : ∃ r, r = sfRect f := ⟨_, rfl⟩
   obtain ⟨P, hP⟩ : ∃ P, P = sfPic f := ⟨_, rfl⟩
   have hPk := (sfPic_ok hsf).2.2
   have HR := srS f _ V hd
   unfold SrAns RcAns at HR
   have HQ := fun W0 (h : RdI W0 (.slice Ad f.data.length cd) f.data) => picS f _ W0 h
   unfold PicAns AnsIm at HQ
   rw [← hr] at HR
   rw [← hP] at HQ hPk
   obtain ⟨pn, hpn⟩ : ∃ q, q = P.d.length := ⟨_, rfl⟩
   have hpn1 : 1 ≤ pn := by have := sz_pos hPk.1; have := hPk.2.1; omega
   unfold ImAns at HQ
   rw [← hpn] at HQ
   have HR := Lib.hid HR
   have HQ := Lib.hid HQ
   have Hr := Lib.hid hr
   have HPf := Lib.hid hP
   have Hpn := Lib.hid hpn
   have HPk := Lib.hid hPk
   have HC1 := Lib.hid hC
   have Hd := Lib.hid hd
   obtain ⟨c0, c1, c2, c3, c4, c5, c6, c7, c8, c9, c10⟩ := hC
   have k0 : (0 : Int) ≤ (k : Int) := by omega
   have k1 : (k : Int) < (N : Int) := by omega
   clear hf hsf hr hP hPk hpn hd
   go_wp2_with fail
   refine HR.out.mono ?_
   rintro e w2 ⟨rfl, hb⟩
   have hbx := belI_box w2 (.cells #[.int .i64 r.x, .int .i64 r.y, .int .i64 r.w, .int .i64 r.h] 111)
   obtain ⟨br, hbr⟩ : ∃ b, b = w2.heap.size := ⟨_, rfl⟩
   have hsz1 := Nat.le_trans Hsz.out hb.size
   have hRr := RcAt.newAt (w := w2) hbr.symm r
   obtain ⟨V1, hV1⟩ : ∃ V, V = w2.alloc (.cells #[.int .i64 r.x, .int .i64 r.y, .int .i64 r.w, .int .i64 r.h] 111) := ⟨_, rfl⟩
   rw [← hV1] at hbx hRr
   have HP1 := Lib.hid ((HP.out.call hb).call hbx)
   have HO1 := Lib.hid (ownI_call (ownI_call HO.out hb) hbx)
   have hC1 := (HC1.out.call hb).call hbx
   have Hd1 := Lib.hid ((Hd.out.call hb).call hbx)
   have HRr := Lib.hid hRr
   clear c0 c1 c2 c3 c4 c5 c6 c7 c8 c9 c10 d0 d1 d2 d3 HC1 Hd HP HO hb hbx hRr
   obtain ⟨c0, c1, c2, c3, c4, c5, c6, c7, c8, c9, c10⟩ := hC1
   obtain ⟨d0, d1, d2, d3⟩ := HP1.out.cells
   rw [hV1] at c0 c1 c2 c3 c4 c5 c6 c7 c8 c9 c10 d0 d1 d2 d3
   have HV1 := Lib.hid hV1
   have Hbr := Lib.hid hbr
   have Hbr2 := Lib.hid (show V0.heap.size ≤ br ∧ br < V1.heap.size from ⟨by omega, by rw [hV1]; simp; omega⟩)
   clear hV1 hbr hsz1
   go_wp2_with fail
   rw [← HV1.out, ← Hbr.out]
   clear c0 c1 c2 c3 c4 c5 c6 c7 c8 c9 c10 d0 d1 d2 d3
   refine (HQ.out V1 Hd1.out).mono ?_
   rintro e w3 ⟨u, rfl, howP, hb⟩
   obtain ⟨gp, cp, hu, hp1, hp2⟩ := howP.form (by omega)
   subst hu
   have hRP : RdI w3 (.slice (some ⟨gp, 0, none⟩) pn cp) P.d := by have := RdI.of_own howP; rwa [Hpn.out] at this ⊢
   have hbx := belI_box w3 (.cells #[.int .i64 P.w, .int .i64 P.h, .slice (some ⟨gp, 0, none⟩) pn cp] 55)
   obtain ⟨bp, hbp⟩ : ∃ b, b = w3.heap.size := ⟨_, rfl⟩
   have hI := ImAt.newAt (w := w3) hbp.symm 55 P.w P.h (.slice (some ⟨gp, 0, none⟩) pn cp)
   obtain ⟨V2, hV2⟩ : ∃ V, V = w3.alloc (.cells #[.int .i64 P.w, .int .i64 P.h, .slice (some ⟨gp, 0, none⟩) pn cp] 55) := ⟨_, rfl⟩
   rw [← hV2] at hbx hI
   have hsz2 := hb.size
   have HP2 := Lib.hid ((HP1.out.call hb).call hbx)
   have HO2 := Lib.hid (ownI_call (ownI_call HO1.out hb) hbx)
   have hRr := (HRr.out.below hb HRr.out.lt).below hbx (by have := HRr.out.lt; omega)
   have HRr2 := Lib.hid hRr
   have HRP := Lib.hid (hRP.call hbx)
   have HI := Lib.hid hI
   obtain ⟨r0, r1, r2, r3⟩ := hRr.cells
   obtain ⟨d0, d1, d2, d3⟩ := HP2.out.cells
   rw [hV2] at r0 r1 r2 r3 d0 d1 d2 d3
   have HV2 := Lib.hid hV2
   have Hbp := Lib.hid hbp
   have Hgp := Lib.hid (show V0.heap.size < gp ∧ gp < bp ∧ V1.heap.size ≤ bp from ⟨by have := Hbr2.out; omega, by omega, by omega⟩)
   clear HP1 HO1 Hd1 HRr hb howP hRP hbx hI hRr hV2 hbp hp1 hp2 hsz2
   go_wp2_with fail
   rw [← HV2.out, ← Hbp.out]
   clear r0 r1 r2 r3 d0 d1 d2 d3
   refine (partS r W H wl wh hl hh V2).mono ?_
   rintro e w4 ⟨⟨X, Y, n, h, rfl, hXn, hYh, hn1, HJ⟩, hb⟩
   have hbx := belI_box w4 (.cells #[.int .i64 X, .int .i64 Y, .int .i64 n, .int .i64 h] 111)
   obtain ⟨bx, hbx2⟩ : ∃ b, b = w4.heap.size := ⟨_, rfl⟩
   have hX := RcAt.newAt (w := w4) hbx2.symm ⟨X, Y, n, h⟩
   dsimp only at hX
   obtain ⟨V3, hV3⟩ : ∃ V, V = w4.alloc (.cells #[.int .i64 X, .int .i64 Y, .int .i64 n, .int .i64 h] 111) := ⟨_, rfl⟩
   rw [← hV3] at hbx hX
   obtain ⟨x0, x1, x2, x3⟩ := hX.cells4
   rw [hV3, hbx2] at x0 x1 x2 x3
   have hl2 := HI.out.lt
   have hl3 := hb.size
   have Hcc : Hid (PnC w W H sb fs (.slice (some ⟨g, 0, none⟩) N c) bs bo (.slice (some ⟨gq, 0, none⟩) m cq) br r bp P (.slice (some ⟨gp, 0, none⟩) pn cp) bx X Y n h V3) := Lib.hid ⟨(HP2.out.call hb).call hbx, (HRr2.out.below hb HRr2.out.lt).below hbx (by have := HRr2.out.lt; omega), (HI.out.call hb).call hbx, (HRP.out.call hb).call hbx, hX⟩
   have Hoo : Hid (PnO w bs bo gq br bp gp bx) := Lib.hid ⟨⟨Hsep.out.1, Hsep.out.2.1, Hsep.out.2.2.1⟩, by have := Hsep.out; have := Hbr2.out; omega, by have := Hsep.out; have := Hgp.out; omega, by have := Hsep.out; have := Hgp.out; omega, by have := Hsep.out; have := Hgp.out; omega⟩
   obtain ⟨D, hD⟩ : ∃ D : Nat → Int, D = fun j => (pnL W D0 (fs.take k)).getD j 0 := ⟨_, rfl⟩
   have hDl : (pnL W D0 (fs.take k)).length = m := by rw [pnL_len, ← Hm.out]
   have HDl : Hid (pnL W D0 (fs.take (k + 1)) = tabI m (pnF W f D)) := Lib.hid (by rw [pnL_take W D0 Hf.out]; unfold pn1; rw [hDl, hD])
   have HOO : Hid (V3.ownsRow (w.heap.size + 2) 3 1 (.slice (some ⟨gq, 0, none⟩) m cq) m (intCells (tabI m (pnS W (pnPx W f.x f.y P) D X Y n Y X)))) := Lib.hid (by
    rw [tabI_congr m (fun j _ => pnS_start W (pnPx W f.x f.y P) D X Y n j), hD, ← hDl, ← tabI_self, hDl]
    exact ownI_call (ownI_call HO2.out hb) hbx)
   have Hsz3 : Hid (V0.heap.size ≤ V3.heap.size) := Lib.hid (by have := Hgp.out; have := hbx.size; omega)
   have HV3 := Lib.hid hV3
   have Hbx := Lib.hid hbx2
   clear HP2 HO2 HRr2 HRP HI hb hbx hX hV3 hbx2 hl2 hl3 hD hDl
   go_wp2_with fail
   rw [← HV3.out, ← Hbx.out]
   clear x0 x1 x2 x3
   go_loopg [8] h (fun g8 s8 wr => ∃ (y : Nat) (V : World), V = wr ∧ Y ≤ y ∧ y ≤ Y + h ∧ g8 = Y + h - y ∧ s8 = .int .i64 y ∧ Hid (PnC w W H sb fs (.slice (some ⟨g, 0, none⟩) N c) bs bo (.slice (some ⟨gq, 0, none⟩) m cq) br r bp P (.slice (some ⟨gp, 0, none⟩) pn cp) bx X Y n h V) ∧ Hid (V.ownsRow (w.heap.size + 2) 3 1 (.slice (some ⟨gq, 0, none⟩) m cq) m (intCells (tabI m (pnS W (pnPx W f.x f.y P) D X Y n y X)))) ∧ Hid (V0.heap.size ≤ V.heap.size))
   case atStart => exact ⟨Y, _, rfl, Nat.le_refl _, by omega, by omega, rfl, Hcc, HOO, Hsz3⟩
   case round =>
    clear Hcc HOO Hsz3
    obtain ⟨y, V, hV, hy1, hy2, rfl, rfl, Hcc, HOO, Hsz4⟩ := hrel
    subst hV
    obtain ⟨x0, x1, x2, x3⟩ := Hcc.out.x.cells4
    by_cases hyl : y < Y + h
    ·have hyi : (y : Int) < (Y : Int) + (h : Int) := by omega
     go_wp2_with fail
     go_loopg [9] n (fun g9 s9 wz => ∃ (x : Nat) (V : World), V = wz ∧ X ≤ x ∧ x ≤ X + n ∧ g9 = X + n - x ∧ s9 = .int .i64 x ∧ Hid (PnC w W H sb fs (.slice (some ⟨g, 0, none⟩) N c) bs bo (.slice (some ⟨gq, 0, none⟩) m cq) br r bp P (.slice (some ⟨gp, 0, none⟩) pn cp) bx X Y n h V) ∧ Hid (V.ownsRow (w.heap.size + 2) 3 1 (.slice (some ⟨gq, 0, none⟩) m cq) m (intCells (tabI m (pnS W (pnPx W f.x f.y P) D X Y n y x)))) ∧ Hid (V0.heap.size ≤ V.heap.size))
     case atStart => exact ⟨X, _, rfl, Nat.le_refl _, by omega, by omega, rfl, Hcc, HOO, Hsz4⟩
     case round =>
      clear Hcc HOO Hsz4 x0 x1 x2 x3
      obtain ⟨x, V, hV, hx1, hx2, rfl, rfl, Hcc, HOO, Hsz4⟩ := hrel
      subst hV
      obtain ⟨x0, x1, x2, x3⟩ := Hcc.out.x.cells4
      by_cases hxl : x < X + n
      ·have hxi : (x : Int) < (X : Int) + (n : Int) := by omega
       have hin := (HJ.out x y).1 ⟨hx1, hxl, hy1, hyl⟩
       have hbb := hin.1
       rw [Hr.out] at hbb
       obtain ⟨_, hpx, hpy, hre⟩ := has_pic hbb
       rw [← HPf.out] at hpx hpy hre
       rw [← Hr.out] at hre
       have hrx : r.x = f.x := by rw [hre]
       have hry : r.y = f.y := by rw [hre]
       obtain ⟨p0, p1, p2, p3, p4⟩ := px_place HPk.out hpx hpy
       have hPs := HPk.out.1
       unfold szOk at hPs
       obtain ⟨iy, hiy⟩ := Int.eq_ofNat_of_zero_le hpy.1
       obtain ⟨m2, hm2⟩ := Int.eq_ofNat_of_zero_le p0
       obtain ⟨j, hj⟩ := Int.eq_ofNat_of_zero_le p2
       obtain ⟨mm, hmm⟩ : ∃ q, q = y * W := ⟨_, rfl⟩
       have l1 : mm + x < m := by rw [hmm, HmW.out]; exact plc_lt hin.2.1 hin.2.2
       rw [← Hpn.out] at p3 p4
       have hjl : j < pn := by omega
       obtain ⟨gp', z, hg', hz, hcz⟩ := (show RdI V (.slice (some ⟨gp, 0, none⟩) pn cp) P.d from Hcc.out.d).at_ (k := j) (by rw [← Hpn.out]; exact hjl)
       obtain rfl : gp = gp' := by injection hg' with e; injection e
       have Hz : Hid (pnPx W f.x f.y P (y * W + x) = z) := Lib.hid (by
        unfold pnPx
        rw [plc_div y hin.2.1, plc_mod y hin.2.1, hj, Int.toNat_natCast, List.getD_eq_getElem?_getD, hz]; rfl)
       have q1 : IntKind.i64.wrap ((y : Int) * (W : Int)) = (mm : Int) := by rw [hmm, wrap_in _ (by have := Int.natCast_mul y W; omega) (by have := Int.natCast_mul y W; omega)]; simp
       have q2 := wrap_in ((mm : Int) + (x : Int)) (by omega) (by omega)
       have q3 : IntKind.i64.wrap ((y : Int) - r.y) = (iy : Int) := by rw [hry, hiy, wrap_in _ (by omega) (by omega)]
       have q4 : IntKind.i64.wrap ((iy : Int) * P.w) = (m2 : Int) := by rw [← hiy, hm2, wrap_in _ (by omega) (by omega)]
       have q5 := wrap_in ((m2 : Int) + (x : Int)) (by omega) (by omega)
       have q6 : IntKind.i64.wrap ((m2 : Int) + (x : Int) - r.x) = (j : Int) := by rw [hrx, ← hj, ← hm2, wrap_in _ (by omega) (by omega)]; omega
       have t1 : ((mm : Int) + (x : Int)).toNat = mm + x := by omega
       have u1 : (mm : Int) + (x : Int) < (m : Int) := by omega
       have v1 : (0 : Int) ≤ (mm : Int) + (x : Int) := by omega
       have u2 : (j : Int) < (pn : Int) := by omega
       have Hmm := Lib.hid hmm
       have Hxy := Lib.hid hin.2
       have hcD := (own_at_put HOO.out (j := mm + x) l1 (tabI_length _ _)).1
       have hfD := (own_at_put HOO.out (j := mm + x) l1 (tabI_length _ _)).2
       rw [tabI_getD _ _ _ l1, hmm, pnS_at W (pnPx W f.x f.y P) D X Y n y x hin.2.1, ← hmm] at hcD
       obtain ⟨t, ht⟩ : ∃ t, t = D (mm + x) := ⟨_, rfl⟩
       rw [← ht] at hcD
       have Ht := Lib.hid ht
       have hT : PnC w W H sb fs (.slice (some ⟨g, 0, none⟩) N c) bs bo (.slice (some ⟨gq, 0, none⟩) m cq) br r bp P (.slice (some ⟨gp, 0, none⟩) pn cp) bx X Y n h V ∧ V.cell? ⟨gp, j, none⟩ = some (.int .i64 z) := ⟨Hcc.out, hcz⟩
       clear hin hbb hpx hpy hre hrx hry p0 p1 p2 p3 p4 hiy hm2 hj hmm hz hcz ht hg' hPs
       go_upto_region 14 with fail
       clear x0 x1 x2 x3
       refine wp_region_held_drew (S := fun V => PnC w W H sb fs (.slice (some ⟨g, 0, none⟩) N c) bs bo (.slice (some ⟨gq, 0, none⟩) m cq) br r bp P (.slice (some ⟨gp, 0, none⟩) pn cp) bx X Y n h V ∧ V.cell? ⟨gp, j, none⟩ = some (.int .i64 z)) (by kernel_rfl) ⟨hT.1.call (belI_drew _), hT.2⟩ (fun hS => ?_)
       have cS : V.drew.cell? ⟨gq, mm + x, none⟩ = some (.int .i64 t) := hcD
       have fS : V.drew.frozen? ⟨gq, mm + x, none⟩ = false := hfD
       clear hcD hfD
       refine tkH (i := 0) (v := .pointer (some ⟨bo, 2, none⟩)) rfl ?_
       refine tcH (i := 1) (v := .slice (some ⟨gq, 0, none⟩) m cq) rfl (by intro w' hSw; (try dsimp only at hSw); (have o2 := hSw.1.p.o.cells.2.2); go_simp) ?_
       refine tkH (i := 2) (v := .int .i64 (y : Int)) rfl ?_
       refine tkH (i := 3) (v := .pointer (some ⟨w.heap.size, 0, none⟩)) rfl ?_
       refine tcH (i := 4) (v := .int .i64 (W : Int)) rfl (by intro w' hSw; (try dsimp only at hSw); (have d0 := hSw.1.p.cells.1); go_simp) ?_
       refine tkH (i := 5) (v := .int .i64 (mm : Int)) rfl ?_
       refine tkH (i := 6) (v := .int .i64 (x : Int)) rfl ?_
       refine tkH (i := 7) (v := .int .i64 ((mm : Int) + (x : Int))) rfl ?_
       refine tkH (i := 8) (v := .pointer (some ⟨bp, 2, none⟩)) rfl ?_
       refine tcH (i := 9) (v := .slice (some ⟨gp, 0, none⟩) pn cp) rfl (by intro w' hSw; (try dsimp only at hSw); (have i2 := hSw.1.i.cells.2.2); go_simp) ?_
       refine tkH (i := 10) (v := .int .i64 (y : Int)) rfl ?_
       refine tkH (i := 11) (v := .pointer (some ⟨br, 1, none⟩)) rfl ?_
       refine tcH (i := 12) (v := .int .i64 r.y) rfl (by intro w' hSw; (try dsimp only at hSw); (have r1 := hSw.1.r.cells.2.1); go_simp) ?_
       refine tkH (i := 13) (v := .int .i64 (iy : Int)) rfl ?_
       refine tkH (i := 14) (v := .pointer (some ⟨bp, 0, none⟩)) rfl ?_
       refine tcH (i := 15) (v := .int .i64 P.w) rfl (by intro w' hSw; (try dsimp only at hSw); (have i0 := hSw.1.i.cells.1); go_simp) ?_
       refine tkH (i := 16) (v := .int .i64 (m2 : Int)) rfl ?_
       refine tkH (i := 17) (v := .int .i64 (x : Int)) rfl ?_
       refine tkH (i := 18) (v := .int .i64 ((m2 : Int) + (x : Int))) rfl ?_
       refine tkH (i := 19) (v := .pointer (some ⟨br, 0, none⟩)) rfl ?_
       refine tcH (i := 20) (v := .int .i64 r.x) rfl (by intro w' hSw; (try dsimp only at hSw); (have r0 := hSw.1.r.cells.1); go_simp) ?_
       refine tkH (i := 21) (v := .int .i64 (j : Int)) rfl ?_
       refine tkH (i := 22) (v := .pointer (some ⟨gp, j, none⟩)) rfl ?_
       refine tcH (i := 23) (v := .int .i64 z) rfl (by intro w' hSw; (try dsimp only at hSw); (have zc := hSw.2); go_simp) ?_
       refine tkH (i := 24) (v := .pointer (some ⟨bo, 2, none⟩)) rfl ?_
       refine tcH (i := 25) (v := .slice (some ⟨gq, 0, none⟩) m cq) rfl (by intro w' hSw; (try dsimp only at hSw); (have o2 := hSw.1.p.o.cells.2.2); go_simp) ?_
       refine tkH (i := 26) (v := .int .i64 (y : Int)) rfl ?_
       refine tkH (i := 27) (v := .pointer (some ⟨w.heap.size, 0, none⟩)) rfl ?_
       refine tcH (i := 28) (v := .int .i64 (W : Int)) rfl (by intro w' hSw; (try dsimp only at hSw); (have d0 := hSw.1.p.cells.1); go_simp) ?_
       refine tkH (i := 29) (v := .int .i64 (mm : Int)) rfl ?_
       refine tkH (i := 30) (v := .int .i64 (x : Int)) rfl ?_
       refine tkH (i := 31) (v := .int .i64 ((mm : Int) + (x : Int))) rfl ?_
       refine tkH (i := 32) (v := .pointer (some ⟨gq, mm + x, none⟩)) rfl ?_
       (try simp only [Act.put]); (try simp only [zPa]); (try simp only [zPb, zPc])
       refine wpAnyH_ready (rs := [33]) (by kernel_rfl) (by simp) ?_
       refine (AllReadyH.cons rfl (fun K hK => ?_) AllReadyH.nil)
       ·rw [if_pos (by kernel_rfl)]
        (try simp only [zGa]); (try simp only [zGb]); (try simp only [zGc])
        go_simp
        refine hK.out _ _ (hS) (fun hS => ?_)
        clear hK
        (try simp only [Act.put]); (try simp only [zPa]); (try simp only [zPb, zPc])
        refine wpAnyH_ready (rs := [34]) (by kernel_rfl) (by simp) ?_
        refine (AllReadyH.cons rfl (fun K hK => ?_) AllReadyH.nil)
        ·rw [if_pos (by kernel_rfl)]
         (try simp only [zGa]); (try simp only [zGb]); (try simp only [zGc])
         go_simp
         with_reducible refine (overS_any z t _).mono ?_
         rintro e W' ⟨rfl, rfl⟩
         dsimp only
         refine hK.out _ _ (hS) (fun hS => ?_)
         clear hK
         (try simp only [Act.put]); (try simp only [zPa]); (try simp only [zPb, zPc])
         refine tkH (i := 35) (v := .pointer (some ⟨gq, mm + x, none⟩)) rfl ?_
         (try simp only [Act.put]); (try simp only [zPa]); (try simp only [zPb, zPc])
         refine wpAnyH_ready (rs := [36]) (by kernel_rfl) (by simp) ?_
         refine (AllReadyH.cons rfl (fun K hK => ?_) AllReadyH.nil)
         ·rw [if_pos (by kernel_rfl)]
          (try simp only [zGa]); (try simp only [zGb]); (try simp only [zGc])
          go_simp
          refine hK.out _ _ (⟨hS.1.set Hoo.out (grown_setI _ gq (mm + x) _), cell_grown hS.2 (grown_setI _ gq (mm + x) _) (fun e => Hoo.out.2.2.2.2 (Option.some.inj e))⟩) (fun hS => ?_)
          clear hK
          (try simp only [Act.put]); (try simp only [zPa]); (try simp only [zPb, zPc])
          refine wpAnyH_done (by kernel_rfl) ?_ _
          go_wp2_with fail
          go_roundg (X + n - (x + 1))
          case measure => omega
          case rel =>
           have h := (ownI_put (show World.ownsRow V.drew _ _ _ _ _ _ from HOO.out) (mm + x) (over z t)).1
           have he : ∀ j, (if j = mm + x then over z t else pnS W (pnPx W f.x f.y P) D X Y n y x j) = pnS W (pnPx W f.x f.y P) D X Y n y (x + 1) j := fun j => by rw [Hmm.out]; exact pnS_set W (pnPx W f.x f.y P) D X Y n y x j Hxy.out.1 hx1 hxl hy1 (by rw [Hz.out, Ht.out, Hmm.out])
           rw [tabI_set, tabI_congr m (fun j _ => he j)] at h
           exact ⟨x + 1, _, rfl, by omega, by omega, rfl, by go_num, Lib.hid hS.1, Lib.hid (show World.ownsRow (V.drew.setCell _ _) _ _ _ _ _ _ from h), Lib.hid (by have := Hsz4.out; simpa using this)⟩
      ·obtain rfl : x = X + n := by omega
       have hxi : ¬ ((X + n : Nat) : Int) < (X : Int) + (n : Int) := by omega
       go_wp2_with fail
       go_roundg (Y + h - (y + 1))
       case measure => omega
       case rel =>
        refine ⟨y + 1, _, rfl, by omega, by omega, rfl, by go_num, Hcc, ?_, Hsz4⟩
        rw [← tabI_congr m (fun j _ => pnS_row W (pnPx W f.x f.y P) D X Y n y j)]
        exact HOO
    ·obtain rfl : y = Y + h := by omega
     have hyi : ¬ ((Y + h : Nat) : Int) < (Y : Int) + (h : Int) := by omega
     go_wp2_with fail
     go_roundg (N - (k + 1))
     case measure => omega
     case rel =>
      refine ⟨k + 1, _, rfl, by omega, rfl, by go_num, Lib.hid Hcc.out.p, ?_, Hsz4⟩
      rw [HDl.out, ← tabI_congr m (fun j hj => pnS_end W H f D X Y n h j (by rw [← HmW.out]; exact hj) (by have := HJ.out; rwa [Hr.out] at this)), ← HPf.out]
      exact HOO
  ·obtain rfl : k = N := by omega
   obtain ⟨o0, o1, o2⟩ := HP.out.o.cells
   obtain ⟨r0, r1, r2⟩ := HP.out.r.cells
   have f0 := HP.out.r.frozen 0
   have f1 := HP.out.r.frozen 1
   have f2 := HP.out.r.frozen 2
   have HJ := Lib.hid (HP.out.r.set3 W H (.slice (some ⟨gq, 0, none⟩) m cq))
   have HB := Lib.hid HP.out.bw
   have hni : ¬ (k : Int) < (k : Int) := by omega
   clear HP
   go_wp2_with fail
   obtain ⟨s0, s1, s2⟩ := HJ.out.cells
   refine bodyPost_ret (v := .agg #[.int .i64 W, .int .i64 H, .slice (some ⟨gq, 0, none⟩) m cq]) (by simp [results, Tryz.results74, go_sem, s0, s1, s2]) rfl ?_
   rw [HA.out]
   have h := HO.out
   rw [List.take_of_length_le (by rw [← HN.out]; exact Nat.le_refl _)] at h
   exact ans_set h (by rw [pnL_len, Hm.out]) (by omega) (by omega) HB.out
theorem l11S (s : Sn) (v : Value) (bs : List Nat) (w : World) (hs : snOk s) (h : repSfs.R w s.fs [v] bs) :
  Calls Tryz.prog 74 #[.agg #[.int .i64 s.w, .int .i64 s.h, .int .i64 s.back, v]] w (AnsIm (pnIm s) w) := by
 obtain ⟨x, y, b, fs⟩ := s
 obtain ⟨p, q, rfl, rfl, _⟩ := sz_nat (show szOk x y from hs.1)
 exact l11S_ok p q b fs v bs w hs h
end Go.Proofs.YtokniebejilcbaaGreat
