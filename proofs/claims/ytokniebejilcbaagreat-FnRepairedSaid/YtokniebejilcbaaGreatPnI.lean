/- The contract of painting a surface within parts of the screen, of the program. No statement is proved here. -/
import Derived.Test.YtokniebejilcbaaGreatMA
import Derived.Test.YtokniebejilcbaaGreatMB
import Derived.Test.YtokniebejilcbaaGreatMC
import Derived.Test.YtokniebejilcbaaGreatCpyI
import Derived.Test.YtokniebejilcbaaGreatFilB
import Derived.Test.YtokniebejilcbaaGreatSnS
import Derived.Test.YtokniebejilcbaaGreatSfR
import Derived.Test.YtokniebejilcbaaGreatOrdB
import Derived.Test.YtokniebejilcbaaGreatOrdS
import Derived.Test.YtokniebejilcbaaGreatOrdI
import Derived.Test.YtokniebejilcbaaGreatSclB
import Derived.Test.YtokniebejilcbaaGreatSfP
import Derived.Test.YtokniebejilcbaaGreatPnM
import Derived.Test.YtokniebejilcbaaGreatOcM
import Derived.Test.YtokniebejilcbaaGreatPnS
import Derived.Test.YtokniebejilcbaaGreatProg
import Derived.WalkKit
import Derived.ProofKit
import Derived.OpenShut
import Derived.WalkLawsBesides
import Derived.WalkSpells
import Derived.ShutString
import Derived.ChangeOld
import Derived.Below
import Derived.Lib.Hide
import Derived.BigQuiet
import Derived.Deep.QuietTactic
import Derived.Maps.AppendAt
import Derived.Deep.OwnRows
import Derived.Handy
import Derived.Deep.Draws
import Derived.OwnWalk
import Derived.Deep.AppendLies
import Derived.Deep.LoopGhost
import Derived.Deep.Onto
import Derived.Deep.MidRow
import Derived.Deep.WholeRow
import Derived.Laws.BitsAllLaws
import Derived.Lib.QuoteBits
import Derived.Deep.RegionHeld3
import Derived.Deep.DeepCutAuto
import Derived.Test.YtokniebejilcbaaGreatShelf
import Derived.Laws.CopyOwn
import Derived.Deep.RegionLaw
import Derived.Great.BuildSlice
import Derived.Laws.AppendOwn
import Derived.ChangeKeysEq
import Derived.Deep.RegionWith
namespace Go.Proofs.YtokniebejilcbaaGreat
open Go.RowKit
structure PsD (w : World) (W H : Nat) (f : Sf) (d : Value) (bo gq m cq bp : Nat) (P : Im) (up v : Value) (L : List Rc) (V : World) : Prop where
 s : BkAt V w.heap.size 153 #[.int .i64 f.id, .int .i64 f.x, .int .i64 f.y, .int .i64 f.w, .int .i64 f.h, .int .i64 f.alpha, .int .i64 f.orient, .bool f.vis, .int .i64 f.bw, .int .i64 f.bh, d]
 o : ImAt V bo 55 W H (.slice (some ⟨gq, 0, none⟩) m cq)
 i : ImAt V bp 114 P.w P.h up
 d : RdI V up P.d
 p : RdR V v L
 gr : w.grownBy V (some gq)
theorem PsD.call {w : World} {W H : Nat} {f : Sf} {d : Value} {bo gq m cq bp : Nat} {P : Im} {up v : Value} {L : List Rc} {V V' : World} (k : PsD w W H f d bo gq m cq bp P up v L V) (hb : Below V.heap.size V V') : PsD w W H f d bo gq m cq bp P up v L V' := ⟨k.s.call hb, k.o.call hb, k.i.call hb, k.d.call hb, k.p.call hb, grown_below k.gr hb⟩
structure PsC (w : World) (W H : Nat) (f : Sf) (d : Value) (bo gq m cq bp : Nat) (P : Im) (up v : Value) (L : List Rc) (bx X Y n h : Nat) (V : World) : Prop where
 s : BkAt V w.heap.size 153 #[.int .i64 f.id, .int .i64 f.x, .int .i64 f.y, .int .i64 f.w, .int .i64 f.h, .int .i64 f.alpha, .int .i64 f.orient, .bool f.vis, .int .i64 f.bw, .int .i64 f.bh, d]
 o : ImAt V bo 55 W H (.slice (some ⟨gq, 0, none⟩) m cq)
 i : ImAt V bp 114 P.w P.h up
 d : RdI V up P.d
 p : RdR V v L
 gr : w.grownBy V (some gq)
 x : RcAt V bx ⟨X, Y, n, h⟩
theorem PsC.call {w : World} {W H : Nat} {f : Sf} {d : Value} {bo gq m cq bp : Nat} {P : Im} {up v : Value} {L : List Rc} {bx X Y n h : Nat} {V V' : World} (k : PsC w W H f d bo gq m cq bp P up v L bx X Y n h V) (hb : Below V.heap.size V V') : PsC w W H f d bo gq m cq bp P up v L bx X Y n h V' := ⟨k.s.call hb, k.o.call hb, k.i.call hb, k.d.call hb, k.p.call hb, grown_below k.gr hb, k.x.below hb k.x.lt⟩
theorem PsC.out {w : World} {W H : Nat} {f : Sf} {d : Value} {bo gq m cq bp : Nat} {P : Im} {up v : Value} {L : List Rc} {bx X Y n h : Nat} {V : World} (k : PsC w W H f d bo gq m cq bp P up v L bx X Y n h V) : PsD w W H f d bo gq m cq bp P up v L V := ⟨k.s, k.o, k.i, k.d, k.p, k.gr⟩
theorem PsC.set {w : World} {W H : Nat} {f : Sf} {d : Value} {bo gq m cq bp gp pn cp : Nat} {P : Im} {v : Value} {L : List Rc} {bx X Y n h : Nat} {V V' : World} (k : PsC w W H f d bo gq m cq bp P (.slice (some ⟨gp, 0, none⟩) pn cp) v L bx X Y n h V) (ho : bo ≠ gq ∧ w.heap.size ≠ gq ∧ bx ≠ gq ∧ bp ≠ gq ∧ gp ≠ gq) (hv : ∀ q, v.ownBlock = some q → q ≠ gq) (hg : V.grownBy V' (some gq)) : PsC w W H f d bo gq m cq bp P (.slice (some ⟨gp, 0, none⟩) pn cp) v L bx X Y n h V' :=
 ⟨k.s.grown hg (fun e => ho.2.1 (Option.some.inj e)), k.o.grown hg (fun e => ho.1 (Option.some.inj e)), k.i.grown hg (fun e => ho.2.2.2.1 (Option.some.inj e)), k.d.grown hg (fun q hq e => by have h1 : gp = q := (by simpa [Value.ownBlock] using hq); have h2 := Option.some.inj e; exact ho.2.2.2.2 (h1.trans h2)), k.p.grown hg (fun q hq e => hv q hq (Option.some.inj e)), k.gr.trans hg, k.x.grownI hg (fun e => ho.2.2.1 (Option.some.inj e))⟩
theorem PsC.row {w : World} {lo gq m cq : Nat} {D : List Int} {j : Nat} (h : w.ownsRow lo 3 1 (.slice (some ⟨gq, 0, none⟩) m cq) m (intCells D)) (hl : D.length = m) (hj : j < m) : w.cell? ⟨gq, j, none⟩ = some (.int .i64 (D.getD j 0)) ∧ w.frozen? ⟨gq, j, none⟩ = false := own_at_put h hj hl
set_option maxHeartbeats 4000000 in
set_option maxRecDepth 100000 in
theorem psfI (W H : Nat) (f : Sf) (d : Value) (bo gq m cq lo : Nat) (D : List Int) (L : List Rc) (v : Value) (w : World) (hW : 1 ≤ W ∧ W ≤ 16 ∧ 1 ≤ H ∧ H ≤ 16) (hm : m = W * H) (hD : D.length = m) (hs : sfOk f) (hv : RdI w d f.data)
  (ho : ImAt w bo 55 W H (.slice (some ⟨gq, 0, none⟩) m cq)) (hrow : w.ownsRow lo 3 1 (.slice (some ⟨gq, 0, none⟩) m cq) m (intCells D)) (hne : bo ≠ gq) (hL : PartsOk W H f L) (hL6 : L.length ≤ 1000) (hp : RdR w v L) (hvq : ∀ q, v.ownBlock = some q → q ≠ gq) :
  Calls Tryz.prog 159 #[.pointer (some ⟨bo, 0, none⟩), .agg #[.int .i64 f.id, .int .i64 f.x, .int .i64 f.y, .int .i64 f.w, .int .i64 f.h, .int .i64 f.alpha, .int .i64 f.orient, .bool f.vis, .int .i64 f.bw, .int .i64 f.bh, d], v] w fun e w' => e = .returned (.tuple #[]) ∧ w.grownBy w' (some gq) ∧ w'.ownsRow lo 3 1 (.slice (some ⟨gq, 0, none⟩) m cq) m (intCells (oc1 W D f L)) := by
 obtain ⟨wl, wh, hl, hh⟩ := hW
 have hm1 : 1 ≤ m := by rw [hm]; exact Nat.mul_pos wl hl
 have hm2 : m ≤ 256 := by rw [hm]; exact mul_256 wh hh
 obtain ⟨Ad, cd, rfl⟩ := hv.form
 have hbo := ho.lt
 have hgq := (hrow.lt gq rfl).2
 have Hold : Hid (bo < w.heap.size ∧ gq < w.heap.size) := Lib.hid ⟨hbo, hgq⟩
 have hS := BkAt.new w 153 #[.int .i64 f.id, .int .i64 f.x, .int .i64 f.y, .int .i64 f.w, .int .i64 f.h, .int .i64 f.alpha, .int .i64 f.orient, .bool f.vis, .int .i64 f.bw, .int .i64 f.bh, .slice Ad f.data.length cd]
 have hbx0 := belI_box w (.cells #[.int .i64 f.id, .int .i64 f.x, .int .i64 f.y, .int .i64 f.w, .int .i64 f.h, .int .i64 f.alpha, .int .i64 f.orient, .bool f.vis, .int .i64 f.bw, .int .i64 f.bh, .slice Ad f.data.length cd] 153)
 obtain ⟨P, hP⟩ : ∃ P, P = sfPic f := ⟨_, rfl⟩
 have hPk := (sfPic_ok hs).2.2
 have HQ := picI f _ (w.alloc (.cells #[.int .i64 f.id, .int .i64 f.x, .int .i64 f.y, .int .i64 f.w, .int .i64 f.h, .int .i64 f.alpha, .int .i64 f.orient, .bool f.vis, .int .i64 f.bw, .int .i64 f.bh, .slice Ad f.data.length cd] 153)) (hv.call hbx0)
 unfold PicAns AnsIm at HQ
 rw [← hP] at HQ hPk
 obtain ⟨pn, hpn⟩ : ∃ q, q = P.d.length := ⟨_, rfl⟩
 have hpn1 : 1 ≤ pn := by have := sz_pos hPk.1; have := hPk.2.1; omega
 unfold ImAns at HQ
 rw [← hpn] at HQ
 have HQ := Lib.hid HQ
 have HPf := Lib.hid hP
 have Hpn := Lib.hid hpn
 have HPk := Lib.hid hPk
 have HmW := Lib.hid hm
 have HDm := Lib.hid hD
 have HL := Lib.hid hL
 have Hvq := Lib.hid hvq
 obtain ⟨Av, cv, rfl⟩ := hp.form
 obtain ⟨nl, hnl⟩ : ∃ q, q = L.length := ⟨_, rfl⟩
 have ho1 := ho.call hbx0
 have hp1 := hp.call hbx0
 have hrow1 := ownI_call hrow hbx0
 have hgr1 : w.grownBy (w.alloc (.cells #[.int .i64 f.id, .int .i64 f.x, .int .i64 f.y, .int .i64 f.w, .int .i64 f.h, .int .i64 f.alpha, .int .i64 f.orient, .bool f.vis, .int .i64 f.bw, .int .i64 f.bh, .slice Ad f.data.length cd] 153)) (some gq) := grown_below (World.grownBy.refl _ _) hbx0
 rw [← hnl] at hp1 Hvq hL6 ⊢
 have Hnl := Lib.hid hnl
 have e0 := hS.cell 0 rfl
 have e1 := hS.cell 1 rfl
 have e2 := hS.cell 2 rfl
 have e3 := hS.cell 3 rfl
 have e4 := hS.cell 4 rfl
 have e5 := hS.cell 5 rfl
 have e6 := hS.cell 6 rfl
 have e7 := hS.cell 7 rfl
 have e8 := hS.cell 8 rfl
 have e9 := hS.cell 9 rfl
 have e10 := hS.cell 10 rfl
 obtain ⟨D0, hD0⟩ : ∃ D0 : Nat → Int, D0 = fun j => D.getD j 0 := ⟨_, rfl⟩
 have HDl : Hid (oc1 W D f L = tabI m (ocF W f L D0)) := Lib.hid (by unfold oc1; rw [hD, hD0])
 have HD0 : Hid (D = tabI m (ocF W f (L.take 0) D0)) := Lib.hid (by
  rw [List.take_zero, tabI_congr m (fun j _ => ocF_nil W f D0 j), hD0, ← hD, ← tabI_self])
 clear hs hP hPk hpn hv ho hrow hm hD hbo hgq hL hvq hp hnl hD0
 go_enter Tryz.func159, Tryz.ntmps159
 go_wp2_with fail
 refine HQ.out.mono ?_
 rintro e w3 ⟨u, rfl, howP, hb⟩
 obtain ⟨gp, cp, hu, hp1', hp2'⟩ := howP.form (by omega)
 subst hu
 have hRP : RdI w3 (.slice (some ⟨gp, 0, none⟩) pn cp) P.d := by have := RdI.of_own howP; rwa [Hpn.out] at this ⊢
 have hbb := belI_box w3 (.cells #[.int .i64 P.w, .int .i64 P.h, .slice (some ⟨gp, 0, none⟩) pn cp] 114)
 obtain ⟨bp, hbp⟩ : ∃ b, b = w3.heap.size := ⟨_, rfl⟩
 have hI := ImAt.newAt (w := w3) hbp.symm 114 P.w P.h (.slice (some ⟨gp, 0, none⟩) pn cp)
 obtain ⟨V2, hV2⟩ : ∃ V, V = w3.alloc (.cells #[.int .i64 P.w, .int .i64 P.h, .slice (some ⟨gp, 0, none⟩) pn cp] 114) := ⟨_, rfl⟩
 rw [← hV2] at hbb hI
 have hlt1 := hS.lt
 have hlt2 := hb.size
 have Hcc : Hid (PsD w W H f (.slice Ad f.data.length cd) bo gq m cq bp P (.slice (some ⟨gp, 0, none⟩) pn cp) (.slice Av nl cv) L V2) := Lib.hid ⟨(hS.call hb).call hbb, (ho1.call hb).call hbb, hI, hRP.call hbb, (hp1.call hb).call hbb, grown_below (grown_below hgr1 hb) hbb⟩
 have Hne : Hid (bo ≠ gq ∧ w.heap.size ≠ gq ∧ bp ≠ gq ∧ gp ≠ gq ∧ w.heap.size < bp) := Lib.hid ⟨hne, by have := Hold.out.2; omega, by have := Hold.out.2; omega, by have := Hold.out.2; omega, by omega⟩
 have HOO : Hid (V2.ownsRow lo 3 1 (.slice (some ⟨gq, 0, none⟩) m cq) m (intCells (tabI m (ocF W f (L.take 0) D0)))) := Lib.hid (by rw [← HD0.out]; exact ownI_call (ownI_call hrow1 hb) hbb)
 have HV2 := Lib.hid hV2
 have Hbp := Lib.hid hbp
 have Hsz : Hid (gq < V2.heap.size) := Lib.hid (by have := Hold.out.2; have := hbb.size; omega)
 clear hb howP hRP hbb hI hV2 hbp hp1' hp2' hlt1 hlt2 e0 e1 e2 e3 e4 e5 e6 e7 e8 e9 e10 hS hbx0 ho1 hp1 hrow1 hgr1 HQ
 go_wp2_with fail
 rw [← HV2.out, ← Hbp.out]
 go_loopg [16] nl (fun g16 s16 wo => ∃ (j : Nat) (V : World), V = wo ∧ j ≤ nl ∧ g16 = nl - j ∧ s16 = .int .i64 j ∧ Hid (PsD w W H f (.slice Ad f.data.length cd) bo gq m cq bp P (.slice (some ⟨gp, 0, none⟩) pn cp) (.slice Av nl cv) L V) ∧ Hid (gq < V.heap.size) ∧ Hid (V.ownsRow lo 3 1 (.slice (some ⟨gq, 0, none⟩) m cq) m (intCells (tabI m (ocF W f (L.take j) D0)))))
 case atStart => exact ⟨0, _, rfl, Nat.zero_le _, by omega, rfl, Hcc, Hsz, HOO⟩
 case round =>
  clear Hcc HOO Hsz
  obtain ⟨j, V, hV, hj, rfl, rfl, Hcc, Hsz, HOO⟩ := hrel
  subst hV
  by_cases hjl : j < nl
  ·obtain ⟨gv, r, rfl, hr, hC⟩ := Hcc.out.p.at_ (k := j) (by rw [← Hnl.out]; exact hjl)
   obtain ⟨X, Y, n, h, rfl, hXn, hYh⟩ := (HL.out.scr r (List.mem_of_getElem? hr)).n
   have HJ : Hid (∀ x y : Nat, X ≤ x → x < X + n → Y ≤ y → y < Y + h → hasB (sfRect f) x y = true ∧ x < W ∧ y < H) := Lib.hid (fun x y h1 h2 h3 h4 => ⟨HL.out.pic _ (List.mem_of_getElem? hr) x y (by unfold inRc; dsimp only; omega), by omega, by omega⟩)
   have Hr := Lib.hid hr
   obtain ⟨c0, c1, c2, c3⟩ := hC.cells
   dsimp only at c0 c1 c2 c3
   obtain ⟨V3, hV3⟩ : ∃ V3, V3 = V.alloc (.cells #[.int .i64 X, .int .i64 Y, .int .i64 n, .int .i64 h] 111) := ⟨_, rfl⟩
   obtain ⟨bx, hbx⟩ : ∃ b, b = V.heap.size := ⟨_, rfl⟩
   have hbb : Below V.heap.size V V3 := by rw [hV3]; exact belI_box _ _
   have hX : RcAt V3 bx ⟨X, Y, n, h⟩ := by rw [hV3]; exact RcAt.newAt hbx.symm ⟨X, Y, n, h⟩
   have hK := Hcc.out.call hbb
   have HK : Hid (PsC w W H f (.slice Ad f.data.length cd) bo gq m cq bp P (.slice (some ⟨gp, 0, none⟩) pn cp) (.slice (some ⟨gv, 0, none⟩) nl cv) L bx X Y n h V3) := Lib.hid ⟨hK.s, hK.o, hK.i, hK.d, hK.p, hK.gr, hX⟩
   have Hne2 : Hid (bo ≠ gq ∧ w.heap.size ≠ gq ∧ bx ≠ gq ∧ bp ≠ gq ∧ gp ≠ gq) := Lib.hid ⟨Hne.out.1, Hne.out.2.1, by have := Hsz.out; omega, Hne.out.2.2.1, Hne.out.2.2.2.1⟩
   have HO3 := Lib.hid (ownI_call HOO.out hbb)
   have Hsz3 : Hid (gq < V3.heap.size) := Lib.hid (by have := Hsz.out; have := hbb.size; omega)
   obtain ⟨D', hD'⟩ : ∃ D' : Nat → Int, D' = ocF W f (L.take j) D0 := ⟨_, rfl⟩
   have HDn : Hid (tabI m (ocF W f (L.take (j + 1)) D0) = tabI m (pnS W (pnPx W f.x f.y P) D' X Y n (Y + h) X)) := Lib.hid (by
    rw [hD', HPf.out]
    exact (tabI_congr m (fun k hk => ocF_next ⟨wl, wh⟩ ⟨hl, hh⟩ HL.out hr k (by rw [← HmW.out]; exact hk))).symm)
   have HO4 : Hid (V3.ownsRow lo 3 1 (.slice (some ⟨gq, 0, none⟩) m cq) m (intCells (tabI m (pnS W (pnPx W f.x f.y P) D' X Y n Y X)))) := Lib.hid (by
    rw [tabI_congr m (fun j _ => pnS_start W (pnPx W f.x f.y P) D' X Y n j), hD']
    exact HO3.out)
   have HV3 := Lib.hid hV3
   have Hbx := Lib.hid hbx
   have hX16 : X + n ≤ 16 := by omega
   have hY16 : Y + h ≤ 16 := by omega
   have j0 : (0 : Int) ≤ (j : Int) := by omega
   have j1 : (j : Int) < (nl : Int) := by omega
   clear hr hC hV3 hbx hbb hX hK Hcc HOO HO3 Hsz hD'
   go_wp2_with fail
   rw [← HV3.out, ← Hbx.out]
   clear c0 c1 c2 c3
   go_loopg [9] h (fun g6 s6 wr => ∃ (y : Nat) (V : World), V = wr ∧ Y ≤ y ∧ y ≤ Y + h ∧ g6 = Y + h - y ∧ s6 = .int .i64 y ∧ Hid (PsC w W H f (.slice Ad f.data.length cd) bo gq m cq bp P (.slice (some ⟨gp, 0, none⟩) pn cp) (.slice (some ⟨gv, 0, none⟩) nl cv) L bx X Y n h V) ∧ Hid (gq < V.heap.size) ∧ Hid (V.ownsRow lo 3 1 (.slice (some ⟨gq, 0, none⟩) m cq) m (intCells (tabI m (pnS W (pnPx W f.x f.y P) D' X Y n y X)))))
   case atStart => exact ⟨Y, _, rfl, Nat.le_refl _, by omega, by omega, rfl, HK, Hsz3, HO4⟩
   case round =>
    clear HK HO4 Hsz3
    obtain ⟨y, V, hV, hy1, hy2, rfl, rfl, Hcc, Hsz, HOO⟩ := hrel
    subst hV
    obtain ⟨x0, x1, x2, x3⟩ := Hcc.out.x.cells4
    go_wp2_with fail
    refine (bottom_nat X Y n h hX16 hY16 _).mono ?_
    rintro e V3 ⟨rfl, hbb⟩
    have Hcc2 := Lib.hid (Hcc.out.call hbb)
    have HOO2 := Lib.hid (ownI_call HOO.out hbb)
    have Hsz2 : Hid (gq < V3.heap.size) := Lib.hid (by have := Hsz.out; have := hbb.size; omega)
    clear hbb x0 x1 x2 x3 Hcc HOO Hsz
    obtain ⟨x0, x1, x2, x3⟩ := Hcc2.out.x.cells4
    by_cases hyl : y < Y + h
    ·have hyi : (y : Int) < (Y : Int) + (h : Int) := by omega
     go_wp2_with fail
     go_loopg [10] n (fun g7 s7 wz => ∃ (x : Nat) (V : World), V = wz ∧ X ≤ x ∧ x ≤ X + n ∧ g7 = X + n - x ∧ s7 = .int .i64 x ∧ Hid (PsC w W H f (.slice Ad f.data.length cd) bo gq m cq bp P (.slice (some ⟨gp, 0, none⟩) pn cp) (.slice (some ⟨gv, 0, none⟩) nl cv) L bx X Y n h V) ∧ Hid (gq < V.heap.size) ∧ Hid (V.ownsRow lo 3 1 (.slice (some ⟨gq, 0, none⟩) m cq) m (intCells (tabI m (pnS W (pnPx W f.x f.y P) D' X Y n y x)))))
     case atStart => exact ⟨X, _, rfl, Nat.le_refl _, by omega, by omega, rfl, Hcc2, Hsz2, HOO2⟩
     case round =>
      clear Hcc2 HOO2 Hsz2 x0 x1 x2 x3
      obtain ⟨x, V, hV, hx1, hx2, rfl, rfl, Hcc, Hsz, HOO⟩ := hrel
      subst hV
      obtain ⟨x0, x1, x2, x3⟩ := Hcc.out.x.cells4
      go_wp2_with fail
      refine (right_nat X Y n h hX16 hY16 _).mono ?_
      rintro e V5 ⟨rfl, hbb⟩
      have Hcc2 := Lib.hid (Hcc.out.call hbb)
      have HOO2 := Lib.hid (ownI_call HOO.out hbb)
      have Hsz2 : Hid (gq < V5.heap.size) := Lib.hid (by have := Hsz.out; have := hbb.size; omega)
      clear hbb x0 x1 x2 x3 Hcc HOO Hsz
      by_cases hxl : x < X + n
      ·have hxi : (x : Int) < (X : Int) + (n : Int) := by omega
       have hin := HJ.out x y hx1 hxl hy1 hyl
       obtain ⟨_, hpx, hpy, hre⟩ := has_pic hin.1
       rw [← HPf.out] at hpx hpy hre
       obtain ⟨p0, p1, p2, p3, p4⟩ := px_place HPk.out hpx hpy
       obtain ⟨mm, hmm⟩ : ∃ q, q = y * W := ⟨_, rfl⟩
       have l1 : mm + x < m := by rw [hmm, HmW.out]; exact plc_lt hin.2.1 hin.2.2
       have HX := fun W0 (h : RdI W0 (.slice (some ⟨gp, 0, none⟩) pn cp) P.d) => pixelI P.w P.h ((x : Int) - f.x) ((y : Int) - f.y) _ P.d W0 HPk.out hpx hpy h
       obtain ⟨z, hz⟩ : ∃ z, z = P.d.getD (((y : Int) - f.y) * P.w + ((x : Int) - f.x)).toNat 0 := ⟨_, rfl⟩
       rw [← hz] at HX
       have HX := Lib.hid HX
       have Hz : Hid (pnPx W f.x f.y P (y * W + x) = z) := Lib.hid (by
        unfold pnPx
        rw [plc_div y hin.2.1, plc_mod y hin.2.1, hz])
       have hPs := HPk.out.1
       unfold szOk at hPs
       have q1 : IntKind.i64.wrap ((y : Int) * (W : Int)) = (mm : Int) := by rw [hmm, wrap_in _ (by have := Int.natCast_mul y W; omega) (by have := Int.natCast_mul y W; omega)]; simp
       have q2 := wrap_in ((mm : Int) + (x : Int)) (by omega) (by omega)
       have q3 : IntKind.i64.wrap ((x : Int) - f.x) = (x : Int) - f.x := wrap_in _ (by omega) (by omega)
       have q4 : IntKind.i64.wrap ((y : Int) - f.y) = (y : Int) - f.y := wrap_in _ (by omega) (by omega)
       have t1 : ((mm : Int) + (x : Int)).toNat = mm + x := by omega
       have u1 : (mm : Int) + (x : Int) < (m : Int) := by omega
       have v1 : (0 : Int) ≤ (mm : Int) + (x : Int) := by omega
       have Hmm := Lib.hid hmm
       have Hxy := Lib.hid hin.2
       obtain ⟨t, ht⟩ : ∃ t, t = D' (mm + x) := ⟨_, rfl⟩
       have HcD := Lib.hid (fun (V' : World) (h : V'.ownsRow lo 3 1 (.slice (some ⟨gq, 0, none⟩) m cq) m (intCells (tabI m (pnS W (pnPx W f.x f.y P) D' X Y n y x)))) => show V'.cell? ⟨gq, mm + x, none⟩ = some (.int .i64 t) ∧ V'.frozen? ⟨gq, mm + x, none⟩ = false from by
        have h1 := PsC.row h (tabI_length _ _) l1
        rw [tabI_getD _ _ _ l1, hmm, pnS_at W (pnPx W f.x f.y P) D' X Y n y x hin.2.1, ← hmm, ← ht] at h1
        exact h1)
       have Ht := Lib.hid ht
       have hT := Hcc2.out
       have hOw := HOO2.out
       have hSz := Hsz2.out
       obtain ⟨o0, o1, o2⟩ := hT.o.cells
       clear hin hpx hpy hre p0 p1 p2 p3 p4 hmm hz ht hPs Hcc2 HOO2 Hsz2
       go_upto_region 11 with fail
       clear o0 o1 o2
       refine wp_region_held_drew (S := fun V => PsC w W H f (.slice Ad f.data.length cd) bo gq m cq bp P (.slice (some ⟨gp, 0, none⟩) pn cp) (.slice (some ⟨gv, 0, none⟩) nl cv) L bx X Y n h V) (by kernel_rfl) (hT.call (belI_drew _)) (fun hS => ?_)
       replace hOw := ownI_call hOw (belI_drew _)
       refine tkH (i := 0) (v := .pointer (some ⟨bo, 0, none⟩)) rfl ?_
       refine tkH (i := 1) (v := .pointer (some ⟨bo, 0, none⟩)) rfl ?_
       refine tkH (i := 2) (v := .pointer (some ⟨bo, 2, none⟩)) rfl ?_
       refine tcH (i := 3) (v := .slice (some ⟨gq, 0, none⟩) m cq) rfl (by intro w' hSw; (try dsimp only at hSw); (have o2 := hSw.o.cells.2.2); go_simp) ?_
       refine tkH (i := 4) (v := .int .i64 (y : Int)) rfl ?_
       refine tkH (i := 5) (v := .pointer (some ⟨bo, 0, none⟩)) rfl ?_
       refine tkH (i := 6) (v := .pointer (some ⟨bo, 0, none⟩)) rfl ?_
       refine tkH (i := 7) (v := .pointer (some ⟨bo, 0, none⟩)) rfl ?_
       refine tcH (i := 8) (v := .int .i64 (W : Int)) rfl (by intro w' hSw; (try dsimp only at hSw); (have o0 := hSw.o.cells.1); go_simp) ?_
       refine tkH (i := 9) (v := .int .i64 (mm : Int)) rfl ?_
       refine tkH (i := 10) (v := .int .i64 (x : Int)) rfl ?_
       refine tkH (i := 11) (v := .int .i64 ((mm : Int) + (x : Int))) rfl ?_
       refine tkH (i := 12) (v := .pointer (some ⟨gq, mm + x, none⟩)) rfl ?_
       refine tkH (i := 13) (v := .pointer (some ⟨gq, mm + x, none⟩)) rfl ?_
       go_simp
       refine wpAnyH_done (by kernel_rfl) ?_ _
       go_wp2_with fail
       refine wp_region_held_drew (S := fun V => PsC w W H f (.slice Ad f.data.length cd) bo gq m cq bp P (.slice (some ⟨gp, 0, none⟩) pn cp) (.slice (some ⟨gv, 0, none⟩) nl cv) L bx X Y n h V) (by kernel_rfl) (hS.call (belI_drew _)) (fun hS => ?_)
       replace hOw := ownI_call hOw (belI_drew _)
       refine tkH (i := 0) (v := .pointer (some ⟨gq, mm + x, none⟩)) rfl ?_
       refine tcH (i := 1) (v := .agg #[.int .i64 P.w, .int .i64 P.h, .slice (some ⟨gp, 0, none⟩) pn cp]) rfl (by intro w' hSw; (try dsimp only at hSw); (obtain ⟨i0, i1, i2⟩ := hSw.i.cells); go_simp) ?_
       refine tkH (i := 2) (v := .int .i64 (x : Int)) rfl ?_
       refine tkH (i := 3) (v := .pointer (some ⟨w.heap.size, 1, none⟩)) rfl ?_
       refine tcH (i := 4) (v := .int .i64 f.x) rfl (by intro w' hSw; (try dsimp only at hSw); (have e1 := hSw.s.cell 1 rfl); go_simp) ?_
       refine tkH (i := 5) (v := .int .i64 ((x : Int) - f.x)) rfl ?_
       refine tkH (i := 6) (v := .int .i64 (y : Int)) rfl ?_
       refine tkH (i := 7) (v := .pointer (some ⟨w.heap.size, 2, none⟩)) rfl ?_
       refine tcH (i := 8) (v := .int .i64 f.y) rfl (by intro w' hSw; (try dsimp only at hSw); (have e2 := hSw.s.cell 2 rfl); go_simp) ?_
       refine tkH (i := 9) (v := .int .i64 ((y : Int) - f.y)) rfl ?_
       refine tkH (i := 11) (v := .pointer (some ⟨gq, mm + x, none⟩)) rfl ?_
       refine tkH (i := 12) (v := .pointer (some ⟨gq, mm + x, none⟩)) rfl ?_
       (try simp only [Act.put]); (try simp only [zPa]); (try simp only [zPb, zPc])
       refine wpAnyH_ready (rs := [10, 13]) (by kernel_rfl) (by simp) ?_
       refine (AllReadyH.cons rfl (fun K hK => ?_) (AllReadyH.cons rfl (fun K hK => ?_) AllReadyH.nil))
       ·rw [if_pos (by kernel_rfl)]
        (try simp only [zGa]); (try simp only [zGb]); (try simp only [zGc])
        go_simp
        with_reducible refine (HX.out _ hS.d).mono ?_
        rintro e W' ⟨rfl, hb⟩
        dsimp only
        have hOw := ownI_call hOw hb
        have hSz := Nat.lt_of_lt_of_le hSz hb.size
        refine hK.out _ _ (hS.call hb) (fun hS => ?_)
        clear hK
        (try simp only [Act.put]); (try simp only [zPa]); (try simp only [zPb, zPc])
        refine wpAnyH_ready (rs := [13]) (by kernel_rfl) (by simp) ?_
        refine (AllReadyH.cons rfl (fun K hK => ?_) AllReadyH.nil)
        ·rw [if_pos (by kernel_rfl)]
         (try simp only [zGa]); (try simp only [zGb]); (try simp only [zGc])
         have cS := (HcD.out _ hOw).1
         go_simp
         clear cS
         skip
         skip
         refine hK.out _ _ (hS) (fun hS => ?_)
         clear hK
         (try simp only [Act.put]); (try simp only [zPa]); (try simp only [zPb, zPc])
         refine wpAnyH_ready (rs := [14]) (by kernel_rfl) (by simp) ?_
         refine (AllReadyH.cons rfl (fun K hK => ?_) AllReadyH.nil)
         ·rw [if_pos (by kernel_rfl)]
          (try simp only [zGa]); (try simp only [zGb]); (try simp only [zGc])
          go_simp
          with_reducible refine (overI_any z t _).mono ?_
          rintro e W' ⟨rfl, hb⟩
          dsimp only
          have hOw := ownI_call hOw hb
          have hSz := Nat.lt_of_lt_of_le hSz hb.size
          refine hK.out _ _ (hS.call hb) (fun hS => ?_)
          clear hK
          (try simp only [Act.put]); (try simp only [zPa]); (try simp only [zPb, zPc])
          refine tkH (i := 15) (v := .pointer (some ⟨gq, mm + x, none⟩)) rfl ?_
          (try simp only [Act.put]); (try simp only [zPa]); (try simp only [zPb, zPc])
          refine wpAnyH_ready (rs := [16]) (by kernel_rfl) (by simp) ?_
          refine (AllReadyH.cons rfl (fun K hK => ?_) AllReadyH.nil)
          ·rw [if_pos (by kernel_rfl)]
           (try simp only [zGa]); (try simp only [zGb]); (try simp only [zGc])
           have cS := (HcD.out _ hOw).1
           have fS := (HcD.out _ hOw).2
           go_simp
           clear cS fS
           have hOx := (ownI_put hOw (mm + x) (over z t)).1
           have hSx := Nat.lt_of_lt_of_le hSz (grown_setI _ gq (mm + x) (.int .i64 (over z t))).size
           refine hK.out _ _ (hS.set Hne2.out Hvq.out (grown_setI _ gq (mm + x) _)) (fun hS => ?_)
           clear hK
           (try simp only [Act.put]); (try simp only [zPa]); (try simp only [zPb, zPc])
           refine wpAnyH_done (by kernel_rfl) ?_ _
           go_wp2_with fail
           go_roundg (X + n - (x + 1))
           case measure => omega
           case rel =>
            have he : ∀ j, (if j = mm + x then over z t else pnS W (pnPx W f.x f.y P) D' X Y n y x j) = pnS W (pnPx W f.x f.y P) D' X Y n y (x + 1) j := fun j => by rw [Hmm.out]; exact pnS_set W (pnPx W f.x f.y P) D' X Y n y x j Hxy.out.1 hx1 hxl hy1 (by rw [Hz.out, Ht.out, Hmm.out])
            rw [tabI_set, tabI_congr m (fun j _ => he j)] at hOx
            exact ⟨x + 1, _, rfl, by omega, by omega, rfl, by go_num, Lib.hid hS, Lib.hid hSx, Lib.hid hOx⟩
       ·rw [if_pos (by kernel_rfl)]
        (try simp only [zGa]); (try simp only [zGb]); (try simp only [zGc])
        have cS := (HcD.out _ hOw).1
        go_simp
        clear cS
        skip
        skip
        refine hK.out _ _ (hS) (fun hS => ?_)
        clear hK
        (try simp only [Act.put]); (try simp only [zPa]); (try simp only [zPb, zPc])
        refine wpAnyH_ready (rs := [10]) (by kernel_rfl) (by simp) ?_
        refine (AllReadyH.cons rfl (fun K hK => ?_) AllReadyH.nil)
        ·rw [if_pos (by kernel_rfl)]
         (try simp only [zGa]); (try simp only [zGb]); (try simp only [zGc])
         go_simp
         with_reducible refine (HX.out _ hS.d).mono ?_
         rintro e W' ⟨rfl, hb⟩
         dsimp only
         have hOw := ownI_call hOw hb
         have hSz := Nat.lt_of_lt_of_le hSz hb.size
         refine hK.out _ _ (hS.call hb) (fun hS => ?_)
         clear hK
         (try simp only [Act.put]); (try simp only [zPa]); (try simp only [zPb, zPc])
         refine wpAnyH_ready (rs := [14]) (by kernel_rfl) (by simp) ?_
         refine (AllReadyH.cons rfl (fun K hK => ?_) AllReadyH.nil)
         ·rw [if_pos (by kernel_rfl)]
          (try simp only [zGa]); (try simp only [zGb]); (try simp only [zGc])
          go_simp
          with_reducible refine (overI_any z t _).mono ?_
          rintro e W' ⟨rfl, hb⟩
          dsimp only
          have hOw := ownI_call hOw hb
          have hSz := Nat.lt_of_lt_of_le hSz hb.size
          refine hK.out _ _ (hS.call hb) (fun hS => ?_)
          clear hK
          (try simp only [Act.put]); (try simp only [zPa]); (try simp only [zPb, zPc])
          refine tkH (i := 15) (v := .pointer (some ⟨gq, mm + x, none⟩)) rfl ?_
          (try simp only [Act.put]); (try simp only [zPa]); (try simp only [zPb, zPc])
          refine wpAnyH_ready (rs := [16]) (by kernel_rfl) (by simp) ?_
          refine (AllReadyH.cons rfl (fun K hK => ?_) AllReadyH.nil)
          ·rw [if_pos (by kernel_rfl)]
           (try simp only [zGa]); (try simp only [zGb]); (try simp only [zGc])
           have cS := (HcD.out _ hOw).1
           have fS := (HcD.out _ hOw).2
           go_simp
           clear cS fS
           have hOx := (ownI_put hOw (mm + x) (over z t)).1
           have hSx := Nat.lt_of_lt_of_le hSz (grown_setI _ gq (mm + x) (.int .i64 (over z t))).size
           refine hK.out _ _ (hS.set Hne2.out Hvq.out (grown_setI _ gq (mm + x) _)) (fun hS => ?_)
           clear hK
           (try simp only [Act.put]); (try simp only [zPa]); (try simp only [zPb, zPc])
           refine wpAnyH_done (by kernel_rfl) ?_ _
           go_wp2_with fail
           go_roundg (X + n - (x + 1))
           case measure => omega
           case rel =>
            have he : ∀ j, (if j = mm + x then over z t else pnS W (pnPx W f.x f.y P) D' X Y n y x j) = pnS W (pnPx W f.x f.y P) D' X Y n y (x + 1) j := fun j => by rw [Hmm.out]; exact pnS_set W (pnPx W f.x f.y P) D' X Y n y x j Hxy.out.1 hx1 hxl hy1 (by rw [Hz.out, Ht.out, Hmm.out])
            rw [tabI_set, tabI_congr m (fun j _ => he j)] at hOx
            exact ⟨x + 1, _, rfl, by omega, by omega, rfl, by go_num, Lib.hid hS, Lib.hid hSx, Lib.hid hOx⟩
      ·obtain rfl : x = X + n := by omega
       have hxi : ¬ ((X + n : Nat) : Int) < (X : Int) + (n : Int) := by omega
       go_wp2_with fail
       go_roundg (Y + h - (y + 1))
       case measure => omega
       case rel =>
        refine ⟨y + 1, _, rfl, by omega, by omega, rfl, by go_num, Hcc2, Hsz2, ?_⟩
        rw [← tabI_congr m (fun j _ => pnS_row W (pnPx W f.x f.y P) D' X Y n y j)]
        exact HOO2
    ·obtain rfl : y = Y + h := by omega
     have hyi : ¬ ((Y + h : Nat) : Int) < (Y : Int) + (h : Int) := by omega
     go_wp2_with fail
     go_roundg (nl - (j + 1))
     case measure => omega
     case rel =>
      refine ⟨j + 1, _, rfl, by omega, rfl, by go_num, Lib.hid Hcc2.out.out, Hsz2, ?_⟩
      rw [HDn.out]
      exact HOO2
  ·obtain rfl : j = nl := by omega
   have hji : ¬ (j : Int) < (j : Int) := by omega
   go_wp2_with fail
   refine bodyPost_end (v := .tuple #[]) (by simp [results, Tryz.results159, go_sem]) rfl ⟨rfl, Hcc.out.gr, ?_⟩
   have h := HOO.out
   rw [List.take_of_length_le (by rw [← Hnl.out]; exact Nat.le_refl _), ← HDl.out] at h
   exact h
end Go.Proofs.YtokniebejilcbaaGreat
