/- What the laws draw: an edit. No statement is proved here. -/
import Derived.Test.YtokniebejilcbaaGreatMA
import Derived.Test.YtokniebejilcbaaGreatMC
import Derived.Test.YtokniebejilcbaaGreatMB
import Derived.Test.YtokniebejilcbaaGreatCpyI
import Derived.Test.YtokniebejilcbaaGreatFilB
import Derived.Test.YtokniebejilcbaaGreatDrwI
import Derived.Test.YtokniebejilcbaaGreatProg
import Derived.WalkKit
import Derived.ProofKit
import Derived.OpenShut
import Derived.WalkLawsBesides
import Derived.WalkSpells
import Derived.ShutString
import Derived.ChangeOld
import Derived.Below
import Derived.Lib.Hide
import Derived.BigQuiet
import Derived.Deep.QuietTactic
import Derived.Maps.AppendAt
import Derived.Deep.OwnRows
import Derived.Handy
import Derived.Deep.Draws
import Derived.OwnWalk
import Derived.Deep.AppendLies
import Derived.Deep.LoopGhost
import Derived.Deep.Onto
import Derived.Deep.MidRow
import Derived.Deep.WholeRow
import Derived.Laws.BitsAllLaws
import Derived.Lib.QuoteBits
import Derived.Test.YtokniebejilcbaaGreatShelf
import Derived.Laws.CopyOwn
import Derived.Deep.RegionLaw
import Derived.Deep.RegionHeld3
import Derived.Deep.DeepCutAuto
import Derived.Great.BuildSlice
import Derived.Laws.AppendOwn
import Derived.Deep.CutBlock
namespace Go.Proofs.YtokniebejilcbaaGreat
open Go.RowKit
def DrawnEd (w : World) (g : Nat) (e' : Ending) (w' : World) : Prop :=
 ∃ (x : Ed) (d : Value), e' = .returned (.agg #[.int .i64 x.kind, .int .i64 x.id, .int .i64 x.a, .int .i64 x.b, .int .i64 x.bw, .int .i64 x.bh, d]) ∧ x.data.length ≤ 256 ∧ w'.ownsRow w.heap.size 3 1 d x.data.length (intCells x.data) ∧ Cur w' g ∧ w.grownBy w' (some g)
structure DeB (w : World) (g b : Nat) (x : Ed) (d : Value) (V : World) : Prop where
 t : BkAt V w.heap.size 94 #[.int .i64 0, .int .i64 0, .int .i64 0, .int .i64 0, .int .i64 0, .int .i64 0, .slice none 0 0]
 bk : BkAt V b 94 #[.int .i64 x.kind, .int .i64 x.id, .int .i64 x.a, .int .i64 x.b, .int .i64 x.bw, .int .i64 x.bh, d]
 own : V.ownsRow (w.heap.size + 1) 3 1 d x.data.length (intCells x.data)
 nb : ∀ q, d.ownBlock = some q → q ≠ b
 bb : w.heap.size + 1 ≤ b
 gg : g < w.heap.size
 cur : Cur V g
 gr : w.grownBy V (some g)
 sm : x.data.length ≤ 256
theorem own_row_ne {V : World} {B n k : Nat} {e : TypeId} {d : Value} {L : List Int} (_ : V.ownsRow B e 1 d n (intCells L)) (hk : ∀ q, d.ownBlock = some q → q ≠ k) : d.ownBlock = none ∨ d.ownBlock ≠ some k := by
 rcases hq : d.ownBlock with _ | q
 ·exact .inl rfl
 ·exact .inr fun e => hk q hq (Option.some.inj e)
theorem DeB.turn {w : World} {g b : Nat} {x : Ed} {d : Value} {V V' : World} (h : DeB w g b x d V) (hg : V.grownBy V' (some g)) (hc : Cur V' g) : DeB w g b x d V' :=
 ⟨h.t.grown hg (fun e => by have := Option.some.inj e; have := h.gg; omega), h.bk.grown hg (fun e => by have := Option.some.inj e; have := h.gg; have := h.bb; omega), h.own.kept hg (own_row_ne h.own fun q hq e => by have := (h.own.lt q hq).1; have := h.gg; omega), h.nb, h.bb, h.gg, hc, h.gr.trans hg, h.sm⟩
theorem DeB.call {w : World} {g b : Nat} {x : Ed} {d : Value} {V V' : World} (h : DeB w g b x d V) (hb : Below V.heap.size V V') : DeB w g b x d V' :=
 ⟨h.t.call hb, h.bk.call hb, ownI_call h.own hb, h.nb, h.bb, h.gg, h.cur.below hb h.cur.lt, grown_below h.gr hb, h.sm⟩
theorem DeB.put {w : World} {g b : Nat} {x y : Ed} {d u : Value} {V V' : World} (h : DeB w g b x d V) (hg : V.grownBy V' (some b)) (hb : BkAt V' b 94 #[.int .i64 y.kind, .int .i64 y.id, .int .i64 y.a, .int .i64 y.b, .int .i64 y.bw, .int .i64 y.bh, u]) (ho : V.ownsRow (w.heap.size + 1) 3 1 u y.data.length (intCells y.data)) (hn : ∀ q, u.ownBlock = some q → q ≠ b) (hs : y.data.length ≤ 256) : DeB w g b y u V' :=
 ⟨h.t.grown hg (fun e => by have := Option.some.inj e; have := h.bb; omega), hb, ho.kept hg (own_row_ne ho hn), hn, h.bb, h.gg, h.cur.grown hg (fun k e => by have := Option.some.inj e; have := h.bb; have := h.gg; omega), h.gr.andThen hg (fun j e => by have := Option.some.inj e; have := h.bb; exact .inl (by omega)), hs⟩
theorem DeB.setA {w : World} {g b : Nat} {x : Ed} {d : Value} {V : World} (h : DeB w g b x d V) (v : Int) : DeB w g b { x with a := v } d (V.setCell ⟨b, 2, none⟩ (.int .i64 v)) := h.put (grown_setB _ b 2 _) (h.bk.put 2 _ rfl) h.own h.nb h.sm
theorem DeB.setB {w : World} {g b : Nat} {x : Ed} {d : Value} {V : World} (h : DeB w g b x d V) (v : Int) : DeB w g b { x with b := v } d (V.setCell ⟨b, 3, none⟩ (.int .i64 v)) := h.put (grown_setB _ b 3 _) (h.bk.put 3 _ rfl) h.own h.nb h.sm
theorem DeB.setIm {w : World} {g b : Nat} {x : Ed} {d u : Value} {X Y : Int} {L : List Int} {V : World} (h : DeB w g b x d V) (ho : V.ownsRow (w.heap.size + 1) 3 1 u L.length (intCells L)) (hn : ∀ q, u.ownBlock = some q → q ≠ b) (hs : L.length ≤ 256) : DeB w g b { x with bw := X, bh := Y, data := L } u (((V.setCell ⟨b, 4, none⟩ (.int .i64 X)).setCell ⟨b, 5, none⟩ (.int .i64 Y)).setCell ⟨b, 6, none⟩ u) :=
 h.put (((grown_setB V b 4 _).trans (grown_setB _ b 5 _)).trans (grown_setB _ b 6 _)) (((h.bk.put 4 _ rfl).put 5 _ rfl).put 6 _ rfl) ho hn hs
set_option maxHeartbeats 8000000 in
set_option maxRecDepth 100000 in
theorem l10Edit_any (w : World) (g : Nat) (hc : Cur w g) : Calls Tryz.prog 134 #[.pointer (some ⟨g, 0, none⟩)] w (DrawnEd w g) := by
 have hgl := hc.lt
 have hT := BkAt.new w 94 #[.int .i64 0, .int .i64 0, .int .i64 0, .int .i64 0, .int .i64 0, .int .i64 0, .slice none 0 0]
 have hC := hc.alloc (.cells #[.int .i64 0, .int .i64 0, .int .i64 0, .int .i64 0, .int .i64 0, .int .i64 0, .slice none 0 0] 94)
 have hG := px_grown_alloc w (.cells #[.int .i64 0, .int .i64 0, .int .i64 0, .int .i64 0, .int .i64 0, .int .i64 0, .slice none 0 0] 94) (some g)
 clear hc
 go_enter Tryz.func134, Tryz.ntmps134
 go_wp2_with fail
 refine (below_any _ g 11 (by omega) hC).mono ?_
 rintro e' w1 ⟨kd, rfl, k0, k1, k2, hC1, hg1⟩
 have hT1 := hT.grown hg1 (fun e => by have := Option.some.inj e; omega)
 have hG1 := hG.trans hg1
 clear hC hT hG hg1 k2
 have k1 := k1 (by omega)
 go_wp2_with fail
 refine (below_any _ g 4 (by omega) hC1).mono ?_
 rintro e' w2 ⟨i, rfl, i0, i1, i2, hC2, hg2⟩
 have hT2 := hT1.grown hg2 (fun e => by have := Option.some.inj e; omega)
 have hG2 := hG1.trans hg2
 have i1 := i1 (by omega)
 obtain ⟨b, hb⟩ : ∃ b, b = w2.heap.size := ⟨_, rfl⟩
 have hlt := hT2.lt
 have hB2 := BkAt.newAt (w := w2) hb.symm 94 #[.int .i64 kd, .int .i64 (1 + i), .int .i64 0, .int .i64 0, .int .i64 0, .int .i64 0, .slice none 0 0]
 obtain ⟨V0, hV0⟩ : ∃ V, V = w2.alloc (.cells #[.int .i64 kd, .int .i64 (1 + i), .int .i64 0, .int .i64 0, .int .i64 0, .int .i64 0, .slice none 0 0] 94) := ⟨_, rfl⟩
 have hD : DeB w g b ⟨kd, 1 + i, 0, 0, 0, 0, []⟩ (.slice none 0 0) V0 := by
  rw [hV0]; exact ⟨hT2.alloc _, hB2, World.ownsRow_nil _ _ _ _, fun q hq => by simp [Value.ownBlock] at hq, by omega, hgl, hC2.alloc _, grown_below hG2 (belI_box _ _), by simp⟩
 have HD := Lib.hid hD
 have HV := Lib.hid hV0
 have Hb := Lib.hid hb
 have b0 := hD.bk.cell 0 rfl
 rw [hV0, hb] at b0
 clear hT1 hG1 hC1 hT2 hG2 hC2 hg2 hB2 hD hV0 hb hlt i2
 go_upto_block 0 with fail
 rw [← HV.out, ← Hb.out]
 clear b0
 go_cut [11] (fun s11 wx => ∃ V, V = wx ∧ ∃ (x : Ed) (d : Value), DeB w g b x d V)
 case first =>
  have hD := HD.out
  by_cases hk0 : kd = 0
  ·skip
   have kd0 : (kd == 0) = true := by rw [hk0]; rfl
   have kd5 : (kd == 5) = false := by rw [hk0]; rfl
   have kd2 : (kd == 2) = false := by rw [hk0]; rfl
   have kd6 : (kd == 6) = false := by rw [hk0]; rfl
   have kd7 : (kd == 7) = false := by rw [hk0]; rfl
   have kd8 : (kd == 8) = false := by rw [hk0]; rfl
   have kd9 : (kd == 9) = false := by rw [hk0]; rfl
   have kd10 : (kd == 10) = false := by rw [hk0]; rfl
   clear hk0
   go_wp2_with fail
   refine (below_any _ g 12 (by omega) hD.cur).mono ?_
   rintro e' vA ⟨yA, rfl, y0, y1, y2, hcq, hgq⟩
   have y1 := y1 (by omega)
   have hDA := hD.turn hgq hcq
   clear hgq hcq y2
   have c2 := hDA.bk.cell 2 rfl
   have f2 := hDA.bk.frozen 2
   have hEA := Lib.hid (hDA.setA (yA - 2))
   clear hD
   go_wp2_with fail
   clear c2 f2 y0 y1
   refine (below_any _ g 8 (by omega) hEA.out.cur).mono ?_
   rintro e' vB ⟨yB, rfl, y0, y1, y2, hcq, hgq⟩
   have y1 := y1 (by omega)
   have hDB := hEA.out.turn hgq hcq
   clear hgq hcq y2 hDA
   have c3 := hDB.bk.cell 3 rfl
   have f3 := hDB.bk.frozen 3
   have hEB := Lib.hid (hDB.setB (yB - 2))
   go_wp2_with fail
   clear c3 f3 y0 y1
   refine (l05Image_any _ g 6 (by omega) (by omega) hEB.out.cur).mono ?_
   rintro e' vC ⟨X, Y, L, u, rfl, hok, hX, hY, hown, hcq, hgq⟩
   have hDC := hEB.out.turn hgq hcq
   have hszB := hEB.out.bk.lt
   have htB := hEB.out.t.lt
   obtain ⟨Au, cu, hu⟩ := ownI_shape hown
   subst hu
   have hlen : L.length ≤ 256 := by have h1 := sz_mul hok.1; have h2 := hok.2.1; omega
   have hEC := Lib.hid (hDC.setIm (X := X) (Y := Y) (hown.mono (by omega)) (fun q hq e => by have h1 := (hown.lt q hq).1; omega) hlen)
   have c4 := hDC.bk.cell 4 rfl
   have f4 := hDC.bk.frozen 4
   have c5 := hDC.bk.cell 5 rfl
   have f5 := hDC.bk.frozen 5
   have c6 := hDC.bk.cell 6 rfl
   have f6 := hDC.bk.frozen 6
   clear hgq hcq hown hok hX hY hszB htB hlen hDB
   go_wp2_with fail
   go_meet
   case rel => exact ⟨_, rfl, _, _, hEC.out⟩
  by_cases hk5 : kd = 5
  ·skip
   have kd0 : (kd == 0) = false := by rw [hk5]; rfl
   have kd5 : (kd == 5) = true := by rw [hk5]; rfl
   have kd2 : (kd == 2) = false := by rw [hk5]; rfl
   have kd6 : (kd == 6) = false := by rw [hk5]; rfl
   have kd7 : (kd == 7) = false := by rw [hk5]; rfl
   have kd8 : (kd == 8) = false := by rw [hk5]; rfl
   have kd9 : (kd == 9) = false := by rw [hk5]; rfl
   have kd10 : (kd == 10) = false := by rw [hk5]; rfl
   clear hk0 hk5
   go_wp2_with fail
   refine (below_any _ g 12 (by omega) hD.cur).mono ?_
   rintro e' vA ⟨yA, rfl, y0, y1, y2, hcq, hgq⟩
   have y1 := y1 (by omega)
   have hDA := hD.turn hgq hcq
   clear hgq hcq y2
   have c2 := hDA.bk.cell 2 rfl
   have f2 := hDA.bk.frozen 2
   have hEA := Lib.hid (hDA.setA (yA - 2))
   clear hD
   go_wp2_with fail
   clear c2 f2 y0 y1
   refine (below_any _ g 8 (by omega) hEA.out.cur).mono ?_
   rintro e' vB ⟨yB, rfl, y0, y1, y2, hcq, hgq⟩
   have y1 := y1 (by omega)
   have hDB := hEA.out.turn hgq hcq
   clear hgq hcq y2 hDA
   have c3 := hDB.bk.cell 3 rfl
   have f3 := hDB.bk.frozen 3
   have hEB := Lib.hid (hDB.setB (yB - 2))
   go_wp2_with fail
   clear c3 f3 y0 y1
   refine (l05Image_any _ g 6 (by omega) (by omega) hEB.out.cur).mono ?_
   rintro e' vC ⟨X, Y, L, u, rfl, hok, hX, hY, hown, hcq, hgq⟩
   have hDC := hEB.out.turn hgq hcq
   have hszB := hEB.out.bk.lt
   have htB := hEB.out.t.lt
   obtain ⟨Au, cu, hu⟩ := ownI_shape hown
   subst hu
   have hlen : L.length ≤ 256 := by have h1 := sz_mul hok.1; have h2 := hok.2.1; omega
   have hEC := Lib.hid (hDC.setIm (X := X) (Y := Y) (hown.mono (by omega)) (fun q hq e => by have h1 := (hown.lt q hq).1; omega) hlen)
   have c4 := hDC.bk.cell 4 rfl
   have f4 := hDC.bk.frozen 4
   have c5 := hDC.bk.cell 5 rfl
   have f5 := hDC.bk.frozen 5
   have c6 := hDC.bk.cell 6 rfl
   have f6 := hDC.bk.frozen 6
   clear hgq hcq hown hok hX hY hszB htB hlen hDB
   go_wp2_with fail
   go_meet
   case rel => exact ⟨_, rfl, _, _, hEC.out⟩
  by_cases hk2 : kd = 2
  ·skip
   have kd0 : (kd == 0) = false := by rw [hk2]; rfl
   have kd5 : (kd == 5) = false := by rw [hk2]; rfl
   have kd2 : (kd == 2) = true := by rw [hk2]; rfl
   have kd6 : (kd == 6) = false := by rw [hk2]; rfl
   have kd7 : (kd == 7) = false := by rw [hk2]; rfl
   have kd8 : (kd == 8) = false := by rw [hk2]; rfl
   have kd9 : (kd == 9) = false := by rw [hk2]; rfl
   have kd10 : (kd == 10) = false := by rw [hk2]; rfl
   clear hk0 hk5 hk2
   go_wp2_with fail
   refine (below_any _ g 14 (by omega) hD.cur).mono ?_
   rintro e' vA ⟨yA, rfl, y0, y1, y2, hcq, hgq⟩
   have y1 := y1 (by omega)
   have hDA := hD.turn hgq hcq
   clear hgq hcq y2
   have c2 := hDA.bk.cell 2 rfl
   have f2 := hDA.bk.frozen 2
   have hEA := Lib.hid (hDA.setA (yA - 3))
   clear hD
   go_wp2_with fail
   clear c2 f2 y0 y1
   refine (below_any _ g 10 (by omega) hEA.out.cur).mono ?_
   rintro e' vB ⟨yB, rfl, y0, y1, y2, hcq, hgq⟩
   have y1 := y1 (by omega)
   have hDB := hEA.out.turn hgq hcq
   clear hgq hcq y2 hDA
   have c3 := hDB.bk.cell 3 rfl
   have f3 := hDB.bk.frozen 3
   have hEB := Lib.hid (hDB.setB (yB - 3))
   go_wp2_with fail
   go_meet
   case rel => exact ⟨_, rfl, _, _, hEB.out⟩
  by_cases hk6 : kd = 6
  ·skip
   have kd0 : (kd == 0) = false := by rw [hk6]; rfl
   have kd5 : (kd == 5) = false := by rw [hk6]; rfl
   have kd2 : (kd == 2) = false := by rw [hk6]; rfl
   have kd6 : (kd == 6) = true := by rw [hk6]; rfl
   have kd7 : (kd == 7) = false := by rw [hk6]; rfl
   have kd8 : (kd == 8) = false := by rw [hk6]; rfl
   have kd9 : (kd == 9) = false := by rw [hk6]; rfl
   have kd10 : (kd == 10) = false := by rw [hk6]; rfl
   clear hk0 hk5 hk2 hk6
   go_wp2_with fail
   have hR := rd_built V0 [255, 128, 0] 3 #[.int .i64 255, .int .i64 128, .int .i64 0] rfl (by simp)
   have hDx := hD.call (belI_box V0 (.cells #[.int .i64 255, .int .i64 128, .int .i64 0] 3))
   refine (pickI_any _ _ _ g (by simp) hDx.cur hR (fun q hq e => by have h1 : V0.heap.size = q := (by simpa [Value.ownBlock] using hq); have h2 := hD.cur.lt; omega)).mono ?_
   rintro e' vA ⟨yA, rfl, _, hcq, hgq⟩
   have hDA := hDx.turn hgq hcq
   clear hgq hcq hR hDx hD
   have c2 := hDA.bk.cell 2 rfl
   have f2 := hDA.bk.frozen 2
   have hEA := Lib.hid (hDA.setA (yA))
   go_wp2_with fail
   go_meet
   case rel => exact ⟨_, rfl, _, _, hEA.out⟩
  by_cases hk7 : kd = 7
  ·skip
   have kd0 : (kd == 0) = false := by rw [hk7]; rfl
   have kd5 : (kd == 5) = false := by rw [hk7]; rfl
   have kd2 : (kd == 2) = false := by rw [hk7]; rfl
   have kd6 : (kd == 6) = false := by rw [hk7]; rfl
   have kd7 : (kd == 7) = true := by rw [hk7]; rfl
   have kd8 : (kd == 8) = false := by rw [hk7]; rfl
   have kd9 : (kd == 9) = false := by rw [hk7]; rfl
   have kd10 : (kd == 10) = false := by rw [hk7]; rfl
   clear hk0 hk5 hk2 hk6 hk7
   go_wp2_with fail
   refine (below_any _ g 8 (by omega) hD.cur).mono ?_
   rintro e' vA ⟨yA, rfl, y0, y1, y2, hcq, hgq⟩
   have y1 := y1 (by omega)
   have hDA := hD.turn hgq hcq
   clear hgq hcq y2
   have c2 := hDA.bk.cell 2 rfl
   have f2 := hDA.bk.frozen 2
   have hEA := Lib.hid (hDA.setA (yA))
   clear hD
   go_wp2_with fail
   go_meet
   case rel => exact ⟨_, rfl, _, _, hEA.out⟩
  by_cases hk8 : kd = 8
  ·skip
   have kd0 : (kd == 0) = false := by rw [hk8]; rfl
   have kd5 : (kd == 5) = false := by rw [hk8]; rfl
   have kd2 : (kd == 2) = false := by rw [hk8]; rfl
   have kd6 : (kd == 6) = false := by rw [hk8]; rfl
   have kd7 : (kd == 7) = false := by rw [hk8]; rfl
   have kd8 : (kd == 8) = true := by rw [hk8]; rfl
   have kd9 : (kd == 9) = false := by rw [hk8]; rfl
   have kd10 : (kd == 10) = false := by rw [hk8]; rfl
   clear hk0 hk5 hk2 hk6 hk7 hk8
   go_wp2_with fail
   refine (once_any _ g 2 (by omega) hD.cur).mono ?_
   rintro e' vO ⟨bo, rfl, hcq, hgq⟩
   have hDO := hD.turn hgq hcq
   clear hgq hcq hD
   cases bo
   case false =>
    go_wp2_with fail
    go_meet
    case rel => exact ⟨_, rfl, _, _, hDO⟩
   case true =>
    go_wp2_with fail
    refine (below_any _ g 9 (by omega) hDO.cur).mono ?_
    rintro e' vA ⟨yA, rfl, y0, y1, y2, hcq, hgq⟩
    have y1 := y1 (by omega)
    have hDA := hDO.turn hgq hcq
    clear hgq hcq y2
    have c2 := hDA.bk.cell 2 rfl
    have f2 := hDA.bk.frozen 2
    have hEA := Lib.hid (hDA.setA (1 + yA))
    clear hDO
    go_wp2_with fail
    clear c2 f2 y0 y1
    refine (below_any _ g 9 (by omega) hEA.out.cur).mono ?_
    rintro e' vB ⟨yB, rfl, y0, y1, y2, hcq, hgq⟩
    have y1 := y1 (by omega)
    have hDB := hEA.out.turn hgq hcq
    clear hgq hcq y2 hDA
    have c3 := hDB.bk.cell 3 rfl
    have f3 := hDB.bk.frozen 3
    have hEB := Lib.hid (hDB.setB (1 + yB))
    go_wp2_with fail
    go_meet
    case rel => exact ⟨_, rfl, _, _, hEB.out⟩
  by_cases hk9 : kd = 9
  ·skip
   have kd0 : (kd == 0) = false := by rw [hk9]; rfl
   have kd5 : (kd == 5) = false := by rw [hk9]; rfl
   have kd2 : (kd == 2) = false := by rw [hk9]; rfl
   have kd6 : (kd == 6) = false := by rw [hk9]; rfl
   have kd7 : (kd == 7) = false := by rw [hk9]; rfl
   have kd8 : (kd == 8) = false := by rw [hk9]; rfl
   have kd9 : (kd == 9) = true := by rw [hk9]; rfl
   have kd10 : (kd == 10) = false := by rw [hk9]; rfl
   clear hk0 hk5 hk2 hk6 hk7 hk8 hk9
   go_wp2_with fail
   refine (below_any _ g 2 (by omega) hD.cur).mono ?_
   rintro e' vA ⟨yA, rfl, y0, y1, y2, hcq, hgq⟩
   have y1 := y1 (by omega)
   have hDA := hD.turn hgq hcq
   clear hgq hcq y2
   have c2 := hDA.bk.cell 2 rfl
   have f2 := hDA.bk.frozen 2
   have hEA := Lib.hid (hDA.setA (yA))
   clear hD
   go_wp2_with fail
   go_meet
   case rel => exact ⟨_, rfl, _, _, hEA.out⟩
  by_cases hk10 : kd = 10
  ·skip
   have kd0 : (kd == 0) = false := by rw [hk10]; rfl
   have kd5 : (kd == 5) = false := by rw [hk10]; rfl
   have kd2 : (kd == 2) = false := by rw [hk10]; rfl
   have kd6 : (kd == 6) = false := by rw [hk10]; rfl
   have kd7 : (kd == 7) = false := by rw [hk10]; rfl
   have kd8 : (kd == 8) = false := by rw [hk10]; rfl
   have kd9 : (kd == 9) = false := by rw [hk10]; rfl
   have kd10 : (kd == 10) = true := by rw [hk10]; rfl
   clear hk0 hk5 hk2 hk6 hk7 hk8 hk9 hk10
   go_wp2_with fail
   refine (l04Draw_any _ g hD.cur).mono ?_
   rintro e' vA ⟨yA, rfl, _, hcq, hgq⟩
   have hDA := hD.turn hgq hcq
   clear hgq hcq hD
   have c2 := hDA.bk.cell 2 rfl
   have f2 := hDA.bk.frozen 2
   have HDA := Lib.hid hDA
   clear hDA
   go_wp2_with fail
   go_meet
   case rel => exact ⟨_, rfl, _, _, HDA.out.setA _⟩
  have kd0 : (kd == 0) = false := by simp [hk0]
  have kd5 : (kd == 5) = false := by simp [hk5]
  have kd2 : (kd == 2) = false := by simp [hk2]
  have kd6 : (kd == 6) = false := by simp [hk6]
  have kd7 : (kd == 7) = false := by simp [hk7]
  have kd8 : (kd == 8) = false := by simp [hk8]
  have kd9 : (kd == 9) = false := by simp [hk9]
  have kd10 : (kd == 10) = false := by simp [hk10]
  clear hk0 hk5 hk2 hk6 hk7 hk8 hk9 hk10
  go_wp2_with fail
  go_meet
  case rel => exact ⟨_, rfl, _, _, hD⟩
 case rest =>
  clear HD
  obtain ⟨V, hV, x, d, hD⟩ := hcut
  subst hV
  obtain ⟨Ad, cd, hd⟩ := ownI_shape hD.own
  subst hd
  have c0 := hD.bk.cell 0 rfl
  have r0 := hD.t.cell 0 rfl
  have f0 := hD.t.frozen 0
  have c1 := hD.bk.cell 1 rfl
  have r1 := hD.t.cell 1 rfl
  have f1 := hD.t.frozen 1
  have c2 := hD.bk.cell 2 rfl
  have r2 := hD.t.cell 2 rfl
  have f2 := hD.t.frozen 2
  have c3 := hD.bk.cell 3 rfl
  have r3 := hD.t.cell 3 rfl
  have f3 := hD.t.frozen 3
  have c4 := hD.bk.cell 4 rfl
  have r4 := hD.t.cell 4 rfl
  have f4 := hD.t.frozen 4
  have c5 := hD.bk.cell 5 rfl
  have r5 := hD.t.cell 5 rfl
  have f5 := hD.t.frozen 5
  have c6 := hD.bk.cell 6 rfl
  have r6 := hD.t.cell 6 rfl
  have f6 := hD.t.frozen 6
  have HJ := Lib.hid (((((((hD.t.put 0 (.int .i64 x.kind) rfl).put 1 (.int .i64 x.id) rfl).put 2 (.int .i64 x.a) rfl).put 3 (.int .i64 x.b) rfl).put 4 (.int .i64 x.bw) rfl).put 5 (.int .i64 x.bh) rfl).put 6 (.slice Ad x.data.length cd) rfl)
  have HD := Lib.hid hD
  clear hD
  go_wp2_with fail
  have s0 := HJ.out.cell 0 rfl
  have s1 := HJ.out.cell 1 rfl
  have s2 := HJ.out.cell 2 rfl
  have s3 := HJ.out.cell 3 rfl
  have s4 := HJ.out.cell 4 rfl
  have s5 := HJ.out.cell 5 rfl
  have s6 := HJ.out.cell 6 rfl
  refine bodyPost_ret (v := .agg #[.int .i64 x.kind, .int .i64 x.id, .int .i64 x.a, .int .i64 x.b, .int .i64 x.bw, .int .i64 x.bh, .slice Ad x.data.length cd]) (by simp [results, Tryz.results134, go_sem, s0, s1, s2, s3, s4, s5, s6]) rfl ?_
  have hg := ((((((grown_setB V w.heap.size 0 (.int .i64 x.kind)).trans (grown_setB _ w.heap.size 1 (.int .i64 x.id))).trans (grown_setB _ w.heap.size 2 (.int .i64 x.a))).trans (grown_setB _ w.heap.size 3 (.int .i64 x.b))).trans (grown_setB _ w.heap.size 4 (.int .i64 x.bw))).trans (grown_setB _ w.heap.size 5 (.int .i64 x.bh))).trans (grown_setB _ w.heap.size 6 (.slice Ad x.data.length cd))
  exact ⟨x, _, rfl, HD.out.sm, (HD.out.own.kept hg (own_row_ne HD.out.own fun q hq e => by have h1 := (HD.out.own.lt q hq).1; omega)).mono (by omega), HD.out.cur.grown hg (fun k e => by have h1 := Option.some.inj e; have h2 := HD.out.gg; omega), HD.out.gr.andThen hg (fun j e => by have h1 := Option.some.inj e; exact .inl (by omega))⟩
end Go.Proofs.YtokniebejilcbaaGreat
