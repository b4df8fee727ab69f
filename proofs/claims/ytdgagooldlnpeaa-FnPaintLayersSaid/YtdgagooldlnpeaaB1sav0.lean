/- Texts of mine in one file: DrE, EdH, EdW, EdQ, OcI, OcS. No statement is proved here. -/
import Derived.Test.YtdgagooldlnpeaaMAv0
import Derived.Test.YtdgagooldlnpeaaMA
import Derived.Test.YtdgagooldlnpeaaDrwIv0
import Derived.Test.YtdgagooldlnpeaaMBv0
import Derived.Test.YtdgagooldlnpeaaSnDv0
import Derived.Test.YtdgagooldlnpeaaSnSv0
import Derived.Test.YtdgagooldlnpeaaB0sav0
import Derived.Test.YtdgagooldlnpeaaB0nav0
import Derived.Test.YtdgagooldlnpeaaProg
import Derived.WalkKit
import Derived.ProofKit
import Derived.OpenShut
import Derived.WalkLawsBesides
import Derived.WalkSpells
import Derived.ShutString
import Derived.ChangeOld
import Derived.Below
import Derived.Lib.Hide
import Derived.BigQuiet
import Derived.Deep.QuietTactic
import Derived.Maps.AppendAt
import Derived.Deep.OwnRows
import Derived.Handy
import Derived.Deep.Draws
import Derived.OwnWalk
import Derived.Deep.AppendLies
import Derived.Deep.LoopGhost
import Derived.Deep.Onto
import Derived.Deep.MidRow
import Derived.Deep.WholeRow
import Derived.Laws.BitsAllLaws
import Derived.Lib.QuoteBits
import Derived.Test.YtdgagooldlnpeaaShelf
import Derived.Laws.CopyOwn
import Derived.Deep.RegionLaw
import Derived.Deep.RegionHeld3
import Derived.Deep.DeepCutAuto
import Derived.Great.BuildSlice
import Derived.Laws.AppendOwn
import Derived.Deep.CutBlock
import Derived.Shelf.RegionOpenPlain
import Derived.Lib.SliceRun
import Derived.Deep.RegionWith
import Derived.ChangeKeysEq
import Derived.Deep.DeepAppendRoom
namespace Go.Proofs.Ytdgagooldlnpeaa
open Go.RowKit
def DrawnEd (w : World) (g : Nat) (e' : Ending) (w' : World) : Prop :=
 ∃ (x : Ed) (d : Value), e' = .returned (.agg #[.int .i64 x.kind, .int .i64 x.id, .int .i64 x.a, .int .i64 x.b, .int .i64 x.bw, .int .i64 x.bh, d]) ∧ x.data.length ≤ 256 ∧ w'.ownsRow w.heap.size 3 1 d x.data.length (intCells x.data) ∧ Cur w' g ∧ w.grownBy w' (some g)
structure DeB (w : World) (g b : Nat) (x : Ed) (d : Value) (V : World) : Prop where
 t : BkAt V w.heap.size 57 #[.int .i64 0, .int .i64 0, .int .i64 0, .int .i64 0, .int .i64 0, .int .i64 0, .slice none 0 0]
 bk : BkAt V b 57 #[.int .i64 x.kind, .int .i64 x.id, .int .i64 x.a, .int .i64 x.b, .int .i64 x.bw, .int .i64 x.bh, d]
 own : V.ownsRow (w.heap.size + 1) 3 1 d x.data.length (intCells x.data)
 nb : ∀ q, d.ownBlock = some q → q ≠ b
 bb : w.heap.size + 1 ≤ b
 gg : g < w.heap.size
 cur : Cur V g
 gr : w.grownBy V (some g)
 sm : x.data.length ≤ 256
theorem own_row_ne {V : World} {B n k : Nat} {e : TypeId} {d : Value} {L : List Int} (_ : V.ownsRow B e 1 d n (intCells L)) (hk : ∀ q, d.ownBlock = some q → q ≠ k) : d.ownBlock = none ∨ d.ownBlock ≠ some k := by
 rcases hq : d.ownBlock with _ | q
 ·exact .inl rfl
 ·exact .inr fun e => hk q hq (Option.some.inj e)
theorem DeB.turn {w : World} {g b : Nat} {x : Ed} {d : Value} {V V' : World} (h : DeB w g b x d V) (hg : V.grownBy V' (some g)) (hc : Cur V' g) : DeB w g b x d V' :=
 ⟨h.t.grown hg (fun e => by have := Option.some.inj e; have := h.gg; omega), h.bk.grown hg (fun e => by have := Option.some.inj e; have := h.gg; have := h.bb; omega), h.own.kept hg (own_row_ne h.own fun q hq e => by have := (h.own.lt q hq).1; have := h.gg; omega), h.nb, h.bb, h.gg, hc, h.gr.trans hg, h.sm⟩
theorem DeB.call {w : World} {g b : Nat} {x : Ed} {d : Value} {V V' : World} (h : DeB w g b x d V) (hb : Below V.heap.size V V') : DeB w g b x d V' :=
 ⟨h.t.call hb, h.bk.call hb, ownI_call h.own hb, h.nb, h.bb, h.gg, h.cur.below hb h.cur.lt, grown_below h.gr hb, h.sm⟩
theorem DeB.put {w : World} {g b : Nat} {x y : Ed} {d u : Value} {V V' : World} (h : DeB w g b x d V) (hg : V.grownBy V' (some b)) (hb : BkAt V' b 57 #[.int .i64 y.kind, .int .i64 y.id, .int .i64 y.a, .int .i64 y.b, .int .i64 y.bw, .int .i64 y.bh, u]) (ho : V.ownsRow (w.heap.size + 1) 3 1 u y.data.length (intCells y.data)) (hn : ∀ q, u.ownBlock = some q → q ≠ b) (hs : y.data.length ≤ 256) : DeB w g b y u V' :=
 ⟨h.t.grown hg (fun e => by have := Option.some.inj e; have := h.bb; omega), hb, ho.kept hg (own_row_ne ho hn), hn, h.bb, h.gg, h.cur.grown hg (fun k e => by have := Option.some.inj e; have := h.bb; have := h.gg; omega), h.gr.andThen hg (fun j e => by have := Option.some.inj e; have := h.bb; exact .inl (by omega)), hs⟩
theorem DeB.setA {w : World} {g b : Nat} {x : Ed} {d : Value} {V : World} (h : DeB w g b x d V) (v : Int) : DeB w g b { x with a := v } d (V.setCell ⟨b, 2, none⟩ (.int .i64 v)) := h.put (grown_setB _ b 2 _) (h.bk.put 2 _ rfl) h.own h.nb h.sm
theorem DeB.setB {w : World} {g b : Nat} {x : Ed} {d : Value} {V : World} (h : DeB w g b x d V) (v : Int) : DeB w g b { x with b := v } d (V.setCell ⟨b, 3, none⟩ (.int .i64 v)) := h.put (grown_setB _ b 3 _) (h.bk.put 3 _ rfl) h.own h.nb h.sm
theorem DeB.setIm {w : World} {g b : Nat} {x : Ed} {d u : Value} {X Y : Int} {L : List Int} {V : World} (h : DeB w g b x d V) (ho : V.ownsRow (w.heap.size + 1) 3 1 u L.length (intCells L)) (hn : ∀ q, u.ownBlock = some q → q ≠ b) (hs : L.length ≤ 256) : DeB w g b { x with bw := X, bh := Y, data := L } u (((V.setCell ⟨b, 4, none⟩ (.int .i64 X)).setCell ⟨b, 5, none⟩ (.int .i64 Y)).setCell ⟨b, 6, none⟩ u) :=
 h.put (((grown_setB V b 4 _).trans (grown_setB _ b 5 _)).trans (grown_setB _ b 6 _)) (((h.bk.put 4 _ rfl).put 5 _ rfl).put 6 _ rfl) ho hn hs
set_option maxHeartbeats 8000000 in
set_option maxRecDepth 100000 in
theorem l10Edit_any (w : World) (g : Nat) (hc : Cur w g) : Calls Try.prog 126 #[.pointer (some ⟨g, 0, none⟩)] w (DrawnEd w g) := by
 have hgl := hc.lt
 have hT := BkAt.new w 57 #[.int .i64 0, .int .i64 0, .int .i64 0, .int .i64 0, .int .i64 0, .int .i64 0, .slice none 0 0]
 have hC := hc.alloc (.cells #[.int .i64 0, .int .i64 0, .int .i64 0, .int .i64 0, .int .i64 0, .int .i64 0, .slice none 0 0] 57)
 have hG := px_grown_alloc w (.cells #[.int .i64 0, .int .i64 0, .int .i64 0, .int .i64 0, .int .i64 0, .int .i64 0, .slice none 0 0] 57) (some g)
 clear hc
 go_enter Try.func126, Try.ntmps126
 go_wp2_with fail
 refine (below_any _ g 11 (by omega) hC).mono ?_
 rintro e' w1 ⟨kd, rfl, k0, k1, k2, hC1, hg1⟩
 have hT1 := hT.grown hg1 (fun e => by have := Option.some.inj e; omega)
 have hG1 := hG.trans hg1
 clear hC hT hG hg1 k2
 have k1 := k1 (by omega)
 go_wp2_with fail
 refine (below_any _ g 4 (by omega) hC1).mono ?_
 rintro e' w2 ⟨i, rfl, i0, i1, i2, hC2, hg2⟩
 have hT2 := hT1.grown hg2 (fun e => by have := Option.some.inj e; omega)
 have hG2 := hG1.trans hg2
 have i1 := i1 (by omega)
 obtain ⟨b, hb⟩ : ∃ b, b = w2.heap.size := ⟨_, rfl⟩
 have hlt := hT2.lt
 have hB2 := BkAt.newAt (w := w2) hb.symm 57 #[.int .i64 kd, .int .i64 (1 + i), .int .i64 0, .int .i64 0, .int .i64 0, .int .i64 0, .slice none 0 0]
 obtain ⟨V0, hV0⟩ : ∃ V, V = w2.alloc (.cells #[.int .i64 kd, .int .i64 (1 + i), .int .i64 0, .int .i64 0, .int .i64 0, .int .i64 0, .slice none 0 0] 57) := ⟨_, rfl⟩
 have hD : DeB w g b ⟨kd, 1 + i, 0, 0, 0, 0, []⟩ (.slice none 0 0) V0 := by
  rw [hV0]; exact ⟨hT2.alloc _, hB2, World.ownsRow_nil _ _ _ _, fun q hq => by simp [Value.ownBlock] at hq, by omega, hgl, hC2.alloc _, grown_below hG2 (belI_box _ _), by simp⟩
 have HD := Lib.hid hD
 have HV := Lib.hid hV0
 have Hb := Lib.hid hb
 have b0 := hD.bk.cell 0 rfl
 rw [hV0, hb] at b0
 clear hT1 hG1 hC1 hT2 hG2 hC2 hg2 hB2 hD hV0 hb hlt i2
 go_upto_block 0 with fail
 rw [← HV.out, ← Hb.out]
 clear b0
 go_cut [11] (fun s11 wx => ∃ V, V = wx ∧ ∃ (x : Ed) (d : Value), DeB w g b x d V)
 case first =>
  have hD := HD.out
  by_cases hk0 : kd = 0
  ·skip
   have kd0 : (kd == 0) = true := by rw [hk0]; rfl
   have kd5 : (kd == 5) = false := by rw [hk0]; rfl
   have kd2 : (kd == 2) = false := by rw [hk0]; rfl
   have kd6 : (kd == 6) = false := by rw [hk0]; rfl
   have kd7 : (kd == 7) = false := by rw [hk0]; rfl
   have kd8 : (kd == 8) = false := by rw [hk0]; rfl
   have kd9 : (kd == 9) = false := by rw [hk0]; rfl
   have kd10 : (kd == 10) = false := by rw [hk0]; rfl
   clear hk0
   go_wp2_with fail
   refine (below_any _ g 12 (by omega) hD.cur).mono ?_
   rintro e' vA ⟨yA, rfl, y0, y1, y2, hcq, hgq⟩
   have y1 := y1 (by omega)
   have hDA := hD.turn hgq hcq
   clear hgq hcq y2
   have c2 := hDA.bk.cell 2 rfl
   have f2 := hDA.bk.frozen 2
   have hEA := Lib.hid (hDA.setA (yA - 2))
   clear hD
   go_wp2_with fail
   clear c2 f2 y0 y1
   refine (below_any _ g 8 (by omega) hEA.out.cur).mono ?_
   rintro e' vB ⟨yB, rfl, y0, y1, y2, hcq, hgq⟩
   have y1 := y1 (by omega)
   have hDB := hEA.out.turn hgq hcq
   clear hgq hcq y2 hDA
   have c3 := hDB.bk.cell 3 rfl
   have f3 := hDB.bk.frozen 3
   have hEB := Lib.hid (hDB.setB (yB - 2))
   go_wp2_with fail
   clear c3 f3 y0 y1
   refine (l05Image_any _ g 6 (by omega) (by omega) hEB.out.cur).mono ?_
   rintro e' vC ⟨X, Y, L, u, rfl, hok, hX, hY, hown, hcq, hgq⟩
   have hDC := hEB.out.turn hgq hcq
   have hszB := hEB.out.bk.lt
   have htB := hEB.out.t.lt
   obtain ⟨Au, cu, hu⟩ := ownI_shape hown
   subst hu
   have hlen : L.length ≤ 256 := by have h1 := sz_mul hok.1; have h2 := hok.2.1; omega
   have hEC := Lib.hid (hDC.setIm (X := X) (Y := Y) (hown.mono (by omega)) (fun q hq e => by have h1 := (hown.lt q hq).1; omega) hlen)
   have c4 := hDC.bk.cell 4 rfl
   have f4 := hDC.bk.frozen 4
   have c5 := hDC.bk.cell 5 rfl
   have f5 := hDC.bk.frozen 5
   have c6 := hDC.bk.cell 6 rfl
   have f6 := hDC.bk.frozen 6
   clear hgq hcq hown hok hX hY hszB htB hlen hDB
   go_wp2_with fail
   go_meet
   case rel => exact ⟨_, rfl, _, _, hEC.out⟩
  by_cases hk5 : kd = 5
  ·skip
   have kd0 : (kd == 0) = false := by rw [hk5]; rfl
   have kd5 : (kd == 5) = true := by rw [hk5]; rfl
   have kd2 : (kd == 2) = false := by rw [hk5]; rfl
   have kd6 : (kd == 6) = false := by rw [hk5]; rfl
   have kd7 : (kd == 7) = false := by rw [hk5]; rfl
   have kd8 : (kd == 8) = false := by rw [hk5]; rfl
   have kd9 : (kd == 9) = false := by rw [hk5]; rfl
   have kd10 : (kd == 10) = false := by rw [hk5]; rfl
   clear hk0 hk5
   go_wp2_with fail
   refine (below_any _ g 12 (by omega) hD.cur).mono ?_
   rintro e' vA ⟨yA, rfl, y0, y1, y2, hcq, hgq⟩
   have y1 := y1 (by omega)
   have hDA := hD.turn hgq hcq
   clear hgq hcq y2
   have c2 := hDA.bk.cell 2 rfl
   have f2 := hDA.bk.frozen 2
   have hEA := Lib.hid (hDA.setA (yA - 2))
   clear hD
   go_wp2_with fail
   clear c2 f2 y0 y1
   refine (below_any _ g 8 (by omega) hEA.out.cur).mono ?_
   rintro e' vB ⟨yB, rfl, y0, y1, y2, hcq, hgq⟩
   have y1 := y1 (by omega)
   have hDB := hEA.out.turn hgq hcq
   clear hgq hcq y2 hDA
   have c3 := hDB.bk.cell 3 rfl
   have f3 := hDB.bk.frozen 3
   have hEB := Lib.hid (hDB.setB (yB - 2))
   go_wp2_with fail
   clear c3 f3 y0 y1
   refine (l05Image_any _ g 6 (by omega) (by omega) hEB.out.cur).mono ?_
   rintro e' vC ⟨X, Y, L, u, rfl, hok, hX, hY, hown, hcq, hgq⟩
   have hDC := hEB.out.turn hgq hcq
   have hszB := hEB.out.bk.lt
   have htB := hEB.out.t.lt
   obtain ⟨Au, cu, hu⟩ := ownI_shape hown
   subst hu
   have hlen : L.length ≤ 256 := by have h1 := sz_mul hok.1; have h2 := hok.2.1; omega
   have hEC := Lib.hid (hDC.setIm (X := X) (Y := Y) (hown.mono (by omega)) (fun q hq e => by have h1 := (hown.lt q hq).1; omega) hlen)
   have c4 := hDC.bk.cell 4 rfl
   have f4 := hDC.bk.frozen 4
   have c5 := hDC.bk.cell 5 rfl
   have f5 := hDC.bk.frozen 5
   have c6 := hDC.bk.cell 6 rfl
   have f6 := hDC.bk.frozen 6
   clear hgq hcq hown hok hX hY hszB htB hlen hDB
   go_wp2_with fail
   go_meet
   case rel => exact ⟨_, rfl, _, _, hEC.out⟩
  by_cases hk2 : kd = 2
  ·skip
   have kd0 : (kd == 0) = false := by rw [hk2]; rfl
   have kd5 : (kd == 5) = false := by rw [hk2]; rfl
   have kd2 : (kd == 2) = true := by rw [hk2]; rfl
   have kd6 : (kd == 6) = false := by rw [hk2]; rfl
   have kd7 : (kd == 7) = false := by rw [hk2]; rfl
   have kd8 : (kd == 8) = false := by rw [hk2]; rfl
   have kd9 : (kd == 9) = false := by rw [hk2]; rfl
   have kd10 : (kd == 10) = false := by rw [hk2]; rfl
   clear hk0 hk5 hk2
   go_wp2_with fail
   refine (below_any _ g 14 (by omega) hD.cur).mono ?_
   rintro e' vA ⟨yA, rfl, y0, y1, y2, hcq, hgq⟩
   have y1 := y1 (by omega)
   have hDA := hD.turn hgq hcq
   clear hgq hcq y2
   have c2 := hDA.bk.cell 2 rfl
   have f2 := hDA.bk.frozen 2
   have hEA := Lib.hid (hDA.setA (yA - 3))
   clear hD
   go_wp2_with fail
   clear c2 f2 y0 y1
   refine (below_any _ g 10 (by omega) hEA.out.cur).mono ?_
   rintro e' vB ⟨yB, rfl, y0, y1, y2, hcq, hgq⟩
   have y1 := y1 (by omega)
   have hDB := hEA.out.turn hgq hcq
   clear hgq hcq y2 hDA
   have c3 := hDB.bk.cell 3 rfl
   have f3 := hDB.bk.frozen 3
   have hEB := Lib.hid (hDB.setB (yB - 3))
   go_wp2_with fail
   go_meet
   case rel => exact ⟨_, rfl, _, _, hEB.out⟩
  by_cases hk6 : kd = 6
  ·skip
   have kd0 : (kd == 0) = false := by rw [hk6]; rfl
   have kd5 : (kd == 5) = false := by rw [hk6]; rfl
   have kd2 : (kd == 2) = false := by rw [hk6]; rfl
   have kd6 : (kd == 6) = true := by rw [hk6]; rfl
   have kd7 : (kd == 7) = false := by rw [hk6]; rfl
   have kd8 : (kd == 8) = false := by rw [hk6]; rfl
   have kd9 : (kd == 9) = false := by rw [hk6]; rfl
   have kd10 : (kd == 10) = false := by rw [hk6]; rfl
   clear hk0 hk5 hk2 hk6
   go_wp2_with fail
   have hR := rd_built V0 [255, 128, 0] 3 #[.int .i64 255, .int .i64 128, .int .i64 0] rfl (by simp)
   have hDx := hD.call (belI_box V0 (.cells #[.int .i64 255, .int .i64 128, .int .i64 0] 3))
   refine (pickI_any _ _ _ g (by simp) hDx.cur hR (fun q hq e => by have h1 : V0.heap.size = q := (by simpa [Value.ownBlock] using hq); have h2 := hD.cur.lt; omega)).mono ?_
   rintro e' vA ⟨yA, rfl, _, hcq, hgq⟩
   have hDA := hDx.turn hgq hcq
   clear hgq hcq hR hDx hD
   have c2 := hDA.bk.cell 2 rfl
   have f2 := hDA.bk.frozen 2
   have hEA := Lib.hid (hDA.setA (yA))
   go_wp2_with fail
   go_meet
   case rel => exact ⟨_, rfl, _, _, hEA.out⟩
  by_cases hk7 : kd = 7
  ·skip
   have kd0 : (kd == 0) = false := by rw [hk7]; rfl
   have kd5 : (kd == 5) = false := by rw [hk7]; rfl
   have kd2 : (kd == 2) = false := by rw [hk7]; rfl
   have kd6 : (kd == 6) = false := by rw [hk7]; rfl
   have kd7 : (kd == 7) = true := by rw [hk7]; rfl
   have kd8 : (kd == 8) = false := by rw [hk7]; rfl
   have kd9 : (kd == 9) = false := by rw [hk7]; rfl
   have kd10 : (kd == 10) = false := by rw [hk7]; rfl
   clear hk0 hk5 hk2 hk6 hk7
   go_wp2_with fail
   refine (below_any _ g 8 (by omega) hD.cur).mono ?_
   rintro e' vA ⟨yA, rfl, y0, y1, y2, hcq, hgq⟩
   have y1 := y1 (by omega)
   have hDA := hD.turn hgq hcq
   clear hgq hcq y2
   have c2 := hDA.bk.cell 2 rfl
   have f2 := hDA.bk.frozen 2
   have hEA := Lib.hid (hDA.setA (yA))
   clear hD
   go_wp2_with fail
   go_meet
   case rel => exact ⟨_, rfl, _, _, hEA.out⟩
  by_cases hk8 : kd = 8
  ·skip
   have kd0 : (kd == 0) = false := by rw [hk8]; rfl
   have kd5 : (kd == 5) = false := by rw [hk8]; rfl
   have kd2 : (kd == 2) = false := by rw [hk8]; rfl
   have kd6 : (kd == 6) = false := by rw [hk8]; rfl
   have kd7 : (kd == 7) = false := by rw [hk8]; rfl
   have kd8 : (kd == 8) = true := by rw [hk8]; rfl
   have kd9 : (kd == 9) = false := by rw [hk8]; rfl
   have kd10 : (kd == 10) = false := by rw [hk8]; rfl
   clear hk0 hk5 hk2 hk6 hk7 hk8
   go_wp2_with fail
   refine (once_any _ g 2 (by omega) hD.cur).mono ?_
   rintro e' vO ⟨bo, rfl, hcq, hgq⟩
   have hDO := hD.turn hgq hcq
   clear hgq hcq hD
   cases bo
   case false =>
    go_wp2_with fail
    go_meet
    case rel => exact ⟨_, rfl, _, _, hDO⟩
   case true =>
    go_wp2_with fail
    refine (below_any _ g 9 (by omega) hDO.cur).mono ?_
    rintro e' vA ⟨yA, rfl, y0, y1, y2, hcq, hgq⟩
    have y1 := y1 (by omega)
    have hDA := hDO.turn hgq hcq
    clear hgq hcq y2
    have c2 := hDA.bk.cell 2 rfl
    have f2 := hDA.bk.frozen 2
    have hEA := Lib.hid (hDA.setA (1 + yA))
    clear hDO
    go_wp2_with fail
    clear c2 f2 y0 y1
    refine (below_any _ g 9 (by omega) hEA.out.cur).mono ?_
    rintro e' vB ⟨yB, rfl, y0, y1, y2, hcq, hgq⟩
    have y1 := y1 (by omega)
    have hDB := hEA.out.turn hgq hcq
    clear hgq hcq y2 hDA
    have c3 := hDB.bk.cell 3 rfl
    have f3 := hDB.bk.frozen 3
    have hEB := Lib.hid (hDB.setB (1 + yB))
    go_wp2_with fail
    go_meet
    case rel => exact ⟨_, rfl, _, _, hEB.out⟩
  by_cases hk9 : kd = 9
  ·skip
   have kd0 : (kd == 0) = false := by rw [hk9]; rfl
   have kd5 : (kd == 5) = false := by rw [hk9]; rfl
   have kd2 : (kd == 2) = false := by rw [hk9]; rfl
   have kd6 : (kd == 6) = false := by rw [hk9]; rfl
   have kd7 : (kd == 7) = false := by rw [hk9]; rfl
   have kd8 : (kd == 8) = false := by rw [hk9]; rfl
   have kd9 : (kd == 9) = true := by rw [hk9]; rfl
   have kd10 : (kd == 10) = false := by rw [hk9]; rfl
   clear hk0 hk5 hk2 hk6 hk7 hk8 hk9
   go_wp2_with fail
   refine (below_any _ g 2 (by omega) hD.cur).mono ?_
   rintro e' vA ⟨yA, rfl, y0, y1, y2, hcq, hgq⟩
   have y1 := y1 (by omega)
   have hDA := hD.turn hgq hcq
   clear hgq hcq y2
   have c2 := hDA.bk.cell 2 rfl
   have f2 := hDA.bk.frozen 2
   have hEA := Lib.hid (hDA.setA (yA))
   clear hD
   go_wp2_with fail
   go_meet
   case rel => exact ⟨_, rfl, _, _, hEA.out⟩
  by_cases hk10 : kd = 10
  ·skip
   have kd0 : (kd == 0) = false := by rw [hk10]; rfl
   have kd5 : (kd == 5) = false := by rw [hk10]; rfl
   have kd2 : (kd == 2) = false := by rw [hk10]; rfl
   have kd6 : (kd == 6) = false := by rw [hk10]; rfl
   have kd7 : (kd == 7) = false := by rw [hk10]; rfl
   have kd8 : (kd == 8) = false := by rw [hk10]; rfl
   have kd9 : (kd == 9) = false := by rw [hk10]; rfl
   have kd10 : (kd == 10) = true := by rw [hk10]; rfl
   clear hk0 hk5 hk2 hk6 hk7 hk8 hk9 hk10
   go_wp2_with fail
   refine (l04Draw_any _ g hD.cur).mono ?_
   rintro e' vA ⟨yA, rfl, _, hcq, hgq⟩
   have hDA := hD.turn hgq hcq
   clear hgq hcq hD
   have c2 := hDA.bk.cell 2 rfl
   have f2 := hDA.bk.frozen 2
   have HDA := Lib.hid hDA
   clear hDA
   go_wp2_with fail
   go_meet
   case rel => exact ⟨_, rfl, _, _, HDA.out.setA _⟩
  have kd0 : (kd == 0) = false := by simp [hk0]
  have kd5 : (kd == 5) = false := by simp [hk5]
  have kd2 : (kd == 2) = false := by simp [hk2]
  have kd6 : (kd == 6) = false := by simp [hk6]
  have kd7 : (kd == 7) = false := by simp [hk7]
  have kd8 : (kd == 8) = false := by simp [hk8]
  have kd9 : (kd == 9) = false := by simp [hk9]
  have kd10 : (kd == 10) = false := by simp [hk10]
  clear hk0 hk5 hk2 hk6 hk7 hk8 hk9 hk10
  go_wp2_with fail
  go_meet
  case rel => exact ⟨_, rfl, _, _, hD⟩
 case rest =>
  clear HD
  obtain ⟨V, hV, x, d, hD⟩ := hcut
  subst hV
  obtain ⟨Ad, cd, hd⟩ := ownI_shape hD.own
  subst hd
  have c0 := hD.bk.cell 0 rfl
  have r0 := hD.t.cell 0 rfl
  have f0 := hD.t.frozen 0
  have c1 := hD.bk.cell 1 rfl
  have r1 := hD.t.cell 1 rfl
  have f1 := hD.t.frozen 1
  have c2 := hD.bk.cell 2 rfl
  have r2 := hD.t.cell 2 rfl
  have f2 := hD.t.frozen 2
  have c3 := hD.bk.cell 3 rfl
  have r3 := hD.t.cell 3 rfl
  have f3 := hD.t.frozen 3
  have c4 := hD.bk.cell 4 rfl
  have r4 := hD.t.cell 4 rfl
  have f4 := hD.t.frozen 4
  have c5 := hD.bk.cell 5 rfl
  have r5 := hD.t.cell 5 rfl
  have f5 := hD.t.frozen 5
  have c6 := hD.bk.cell 6 rfl
  have r6 := hD.t.cell 6 rfl
  have f6 := hD.t.frozen 6
  have HJ := Lib.hid (((((((hD.t.put 0 (.int .i64 x.kind) rfl).put 1 (.int .i64 x.id) rfl).put 2 (.int .i64 x.a) rfl).put 3 (.int .i64 x.b) rfl).put 4 (.int .i64 x.bw) rfl).put 5 (.int .i64 x.bh) rfl).put 6 (.slice Ad x.data.length cd) rfl)
  have HD := Lib.hid hD
  clear hD
  go_wp2_with fail
  have s0 := HJ.out.cell 0 rfl
  have s1 := HJ.out.cell 1 rfl
  have s2 := HJ.out.cell 2 rfl
  have s3 := HJ.out.cell 3 rfl
  have s4 := HJ.out.cell 4 rfl
  have s5 := HJ.out.cell 5 rfl
  have s6 := HJ.out.cell 6 rfl
  refine bodyPost_ret (v := .agg #[.int .i64 x.kind, .int .i64 x.id, .int .i64 x.a, .int .i64 x.b, .int .i64 x.bw, .int .i64 x.bh, .slice Ad x.data.length cd]) (by simp [results, Try.results126, go_sem, s0, s1, s2, s3, s4, s5, s6]) rfl ?_
  have hg := ((((((grown_setB V w.heap.size 0 (.int .i64 x.kind)).trans (grown_setB _ w.heap.size 1 (.int .i64 x.id))).trans (grown_setB _ w.heap.size 2 (.int .i64 x.a))).trans (grown_setB _ w.heap.size 3 (.int .i64 x.b))).trans (grown_setB _ w.heap.size 4 (.int .i64 x.bw))).trans (grown_setB _ w.heap.size 5 (.int .i64 x.bh))).trans (grown_setB _ w.heap.size 6 (.slice Ad x.data.length cd))
  exact ⟨x, _, rfl, HD.out.sm, (HD.out.own.kept hg (own_row_ne HD.out.own fun q hq e => by have h1 := (HD.out.own.lt q hq).1; omega)).mono (by omega), HD.out.cur.grown hg (fun k e => by have h1 := Option.some.inj e; have h2 := HD.out.gg; omega), HD.out.gr.andThen hg (fun j e => by have h1 := Option.some.inj e; exact .inl (by omega))⟩
end Go.Proofs.Ytdgagooldlnpeaa
namespace Go.Proofs.Ytdgagooldlnpeaa
open Go.RowKit
structure HalfU (B : Nat) (w : World) (M : List Sf) (v : Value) (bs : List Nat) : Prop where
 ex : ∃ xs bss, rowsR repSf w M xs bss ∧ (∀ x ∈ xs, x.length = 11) ∧ w.ownsRow B 48 11 v M.length xs.flatten ∧ bs = bss.flatten
 ne : ∀ b ∈ bs, b ∉ v.ownBlock.toList
theorem HalfU.of_own {B : Nat} {w : World} {M : List Sf} {v : Value} {bs : List Nat} (h : repSfs.Own B w M [v] bs) : ∃ bs', HalfU B w M v bs' ∧ (∀ b ∈ bs', B ≤ b) := by
 obtain ⟨v', xs, bss, e, hr, hls, how, rfl⟩ := h.r
 obtain rfl : v = v' := by simpa using e
 have hnd := h.nd
 rw [List.nodup_append] at hnd
 exact ⟨bss.flatten, ⟨⟨xs, bss, hr, hls, own_rebase how fun b hb => h.lo b (List.mem_append.2 (.inl hb)), rfl⟩, fun b hb e => hnd.2.2 b e b hb rfl⟩, fun b hb => h.lo b (List.mem_append.2 (.inr hb))⟩
theorem HalfU.r {B : Nat} {w : World} {M : List Sf} {v : Value} {bs : List Nat} (h : HalfU B w M v bs) : repSfs.R w M [v] (v.ownBlock.toList ++ bs) := by
 obtain ⟨xs, bss, hr, hls, how, rfl⟩ := h.ex
 exact ⟨v, xs, bss, rfl, hr, hls, own_rebase how fun _ _ => Nat.zero_le _, rfl⟩
theorem HalfU.lo {B : Nat} {w : World} {M : List Sf} {v : Value} {bs : List Nat} (h : HalfU B w M v bs) : ∀ q, v.ownBlock = some q → B ≤ q := fun q hq => by
 obtain ⟨xs, bss, hr, hls, how, rfl⟩ := h.ex
 exact (own_ltB how q (by rw [hq]; simp)).1
theorem HalfU.form {B : Nat} {w : World} {M : List Sf} {v : Value} {bs : List Nat} (h : HalfU B w M v bs) : ∃ A c, v = .slice A M.length c := (repSfs_form h.r).1
theorem HalfU.chg {B : Nat} {w w' : World} {M : List Sf} {v : Value} {bs cs : List Nat} (h : HalfU B w M v bs) (hc : Chg w w' cs) (h1 : ∀ q, v.ownBlock = some q → q ∉ cs) (h2 : ∀ b ∈ bs, b ∉ cs) : HalfU B w' M v bs := by
 obtain ⟨xs, bss, hr, hls, how, rfl⟩ := h.ex
 exact ⟨⟨xs, bss, rowsR_keep hr fun b hb => hc.block b (rowsR_ex hr b hb) (h2 b hb), hls, own_chgN how hc fun b hb => h1 b (by simpa using hb), rfl⟩, h.ne⟩
theorem HalfU.call {B : Nat} {w w' : World} {M : List Sf} {v : Value} {bs : List Nat} (h : HalfU B w M v bs) (hb : Below w.heap.size w w') : HalfU B w' M v bs := h.chg (Chg.of_below [] hb) (fun _ _ => by simp) (fun _ _ => by simp)
theorem HalfU.nil (B : Nat) (w : World) : HalfU B w [] (.slice none 0 0) [] := ⟨⟨[], [], trivial, by simp, ⟨rfl, .inl ⟨rfl, rfl⟩⟩, rfl⟩, by simp⟩
theorem HalfU.lt {B : Nat} {w : World} {M : List Sf} {v : Value} {bs : List Nat} (h : HalfU B w M v bs) : ∀ b ∈ bs, b < w.heap.size := fun b hb => repSfs.ex h.r b (List.mem_append.2 (.inr hb))
theorem HalfU.mono {B B' : Nat} {w : World} {M : List Sf} {v : Value} {bs : List Nat} (h : HalfU B w M v bs) (hB : B' ≤ B) : HalfU B' w M v bs := by
 obtain ⟨xs, bss, hr, hls, how, e⟩ := h.ex
 exact ⟨⟨xs, bss, hr, hls, how.mono hB, e⟩, h.ne⟩
theorem wp_append_half {op : Oper} {a : Act} {w : World} {K : Act → World → Prop} {Q : Exit → Act → World → Prop} (s x : Operand)
  (ho : op.op = .call { callee := .builtin .append, args := #[s, x], argTypes := #[30, 30] })
  (B B' : Nat) (v u : Value) (M N : List Sf) (bs cs : List Nat) (hs : a.eval s = v) (hown : HalfU B w M v bs) (hx : a.eval x = u) (hu : HalfU B' w N u cs) (hd : ∀ b ∈ cs, b ∉ v.ownBlock.toList) (hM : M.length + N.length ≤ 2097152) (hB : B ≤ w.heap.size)
  (h : ∀ v' bs' w', HalfU B w' (M ++ N) v' bs' → w.grownBy w' v.ownBlock → (∀ b ∈ bs', b ∈ bs ∨ b ∈ cs) → (v'.ownBlock = v.ownBlock ∨ v'.ownBlock = some w.heap.size) → (∃ A c, v' = .slice A (M.length + N.length) c) → K (a.put op.dst v') w') : op.wp Try.prog a w K Q := by
 obtain ⟨i0, hi, hz0, hz1, hby⟩ := info2_sf
 have hbn : (M.length + N.length) * i0.bytes ≤ 2097152 * 1000 := Nat.mul_le_mul hM hby
 obtain ⟨xs, bss, hr, hls, how, rfl⟩ := hown.ex
 obtain ⟨ys, css, hr2, hls2, how2, rfl⟩ := hu.ex
 refine wp_append_row s x 30 ho B B' 48 i0 _ 11 i0.bytes Try.underlying30 hi hz0 hz1 rfl rfl (by omega) v M.length xs.flatten hs how u N.length ys.flatten hx how2 (rows_one hr2) (by unfold maxLen; omega) (by omega) hB (fun v' w' q1 q2 q3 => ?_)
 have hch := Chg.of_grown q2
 have hlt : ∀ b ∈ bss.flatten ++ css.flatten, b < w.heap.size ∧ b ∉ v.ownBlock.toList := fun b hb => by
  rcases List.mem_append.1 hb with hb | hb
  ·exact ⟨rowsR_ex hr b hb, hown.ne b hb⟩
  ·exact ⟨rowsR_ex hr2 b hb, hd b hb⟩
 have hsh : ∃ A c, v' = .slice A (M.length + N.length) c := by
  rcases q1.2 with ⟨e, e2⟩ | ⟨g', cap, cur, e, _⟩
  ·exact ⟨none, 0, by rw [e, e2]⟩
  ·exact ⟨_, _, e⟩
 refine h v' (bss ++ css).flatten w' ⟨⟨xs ++ ys, bss ++ css, ?_, ?_, ?_, rfl⟩, fun b hb e => ?_⟩ q2 (fun b hb => ?_) q3 hsh
 ·exact rowsR_append (rowsR_keep hr fun b hb => hch.block b (rowsR_ex hr b hb) (hown.ne b hb)) (rowsR_keep hr2 fun b hb => hch.block b (rowsR_ex hr2 b hb) (hd b hb))
 ·intro y hy
  rcases List.mem_append.1 hy with hy | hy
  ·exact hls y hy
  ·exact hls2 y hy
 ·rw [List.flatten_append, List.length_append]; exact q1
 ·rw [List.flatten_append] at hb
  have h1 := hlt b hb
  rcases q3 with q | q
  ·rw [q] at e; exact h1.2 e
  ·rw [q] at e
   have : b = w.heap.size := by simpa using e
   omega
 ·rw [List.flatten_append] at hb
  exact List.mem_append.1 hb
theorem half_one {w : World} {g : Nat} {f : Sf} {u : Value} {bu : List Nat} (hg : BkAt w g 48 #[.int .i64 f.id, .int .i64 f.x, .int .i64 f.y, .int .i64 f.w, .int .i64 f.h, .int .i64 f.alpha, .int .i64 f.orient, .bool f.vis, .int .i64 f.bw, .int .i64 f.bh, u]) (hf : repSf.R w f (sfCells f u) bu) (hn : g ∉ bu) : HalfU g w [f] (.slice (some ⟨g, 0, none⟩) 1 1) bu :=
 ⟨⟨[sfCells f u], [bu], ⟨hf, trivial⟩, fun x hx => by rw [List.mem_singleton.1 hx]; rfl, ⟨rfl, .inr ⟨g, 1, _, rfl, Nat.le_refl _, hg, Nat.le_refl _, by unfold maxLen; omega, rfl, rfl⟩⟩, by simp⟩, fun b hb e => hn (by rw [← show b = g by simpa [Value.ownBlock] using e]; exact hb)⟩
theorem HalfU.put1 {B : Nat} {w : World} {M : List Sf} {g c n k j : Nat} {bs : List Nat} {f f' : Sf} {val : Value} (h : HalfU B w M (.slice (some ⟨g, 0, none⟩) n c) bs) (hn : n = M.length) (hf : M[k]? = some f) (hj : j < 11) (hv : ∀ d, (sfCells f d).set j val = sfCells f' d) (hd : f'.data = f.data) :
  HalfU B (w.setCell ⟨g, k * 11 + j, none⟩ val) (M.set k f') (.slice (some ⟨g, 0, none⟩) n c) bs ∧ w.grownBy (w.setCell ⟨g, k * 11 + j, none⟩ val) (some g) := by
 obtain ⟨xs, bss, hr, hls, how, rfl⟩ := h.ex
 have hB := fun b hb => (own_ltB how b hb).1
 have hU : SlU repSf 48 11 w M g c n xs bss := ⟨hr, hls, by rw [hn]; rw [hn] at how; exact own_rebase how fun _ _ => Nat.zero_le _, hn⟩
 have hk : k < n := by rw [hn]; exact (List.getElem?_eq_some_iff.1 hf).1
 obtain ⟨f0, x, b, hf0, hx, hb, hxl, hR, _⟩ := hU.at_ hk
 obtain rfl : f = f0 := Option.some.inj (hf.symm.trans hf0)
 obtain ⟨d, rfl, hdd⟩ := hR
 have hS := (SetK.zero hU hx).put (List.getElem?_eq_some_iff.1 hx).1 j hj val (hv d)
 have hch := Chg.of_grown hS.gr
 have hng : ∀ q ∈ bss.flatten, q ≠ g := fun q hq e => h.ne q hq (by rw [e]; simp [Value.ownBlock])
 have hU2 := SlU.upd (a' := f') (b' := b) hU hk hS.ow hS.ls ⟨d, rfl, by rw [hd]; exact Rep.chg hdd hch fun q hq e => hng q (flat_mem hb hq) (by simpa using e)⟩ (fun i dd _ hdd2 q hq => hch.block q (rowsR_ex hr q (flat_mem hdd2 hq)) fun e => hng q (flat_mem hdd2 hq) (by simpa using e))
 rw [set_same hb] at hU2
 refine ⟨⟨⟨_, bss, hU2.rr, hU2.ls, ?_, rfl⟩, h.ne⟩, hS.gr⟩
 rw [List.length_set, ← hn]
 exact own_rebase hU2.ow fun b hb => hB b hb
theorem HalfU.put3 {B : Nat} {w : World} {M : List Sf} {g c n k : Nat} {bs bu : List Nat} {f f' : Sf} {p q u : Value} (h : HalfU B w M (.slice (some ⟨g, 0, none⟩) n c) bs) (hn : n = M.length) (hf : M[k]? = some f) (hv : ∀ d, (((sfCells f d).set 8 p).set 9 q).set 10 u = sfCells f' u) (hu : repInts.R w f'.data [u] bu) (hg : g ∉ bu) :
  ∃ bs', HalfU B (((w.setCell ⟨g, k * 11 + 8, none⟩ p).setCell ⟨g, k * 11 + 8 + 1, none⟩ q).setCell ⟨g, k * 11 + 8 + 2, none⟩ u) (M.set k f') (.slice (some ⟨g, 0, none⟩) n c) bs' ∧ w.grownBy (((w.setCell ⟨g, k * 11 + 8, none⟩ p).setCell ⟨g, k * 11 + 8 + 1, none⟩ q).setCell ⟨g, k * 11 + 8 + 2, none⟩ u) (some g) ∧ ∀ b ∈ bs', b ∈ bs ∨ b ∈ bu := by
 obtain ⟨xs, bss, hr, hls, how, rfl⟩ := h.ex
 have hB := fun b hb => (own_ltB how b hb).1
 have hU : SlU repSf 48 11 w M g c n xs bss := ⟨hr, hls, by rw [hn]; rw [hn] at how; exact own_rebase how fun _ _ => Nat.zero_le _, hn⟩
 have hk : k < n := by rw [hn]; exact (List.getElem?_eq_some_iff.1 hf).1
 obtain ⟨f0, x, b, hf0, hx, hb, hxl, hR, _⟩ := hU.at_ hk
 obtain rfl : f = f0 := Option.some.inj (hf.symm.trans hf0)
 obtain ⟨d, rfl, hdd⟩ := hR
 have hkx := (List.getElem?_eq_some_iff.1 hx).1
 have hS := (((SetK.zero hU hx).put hkx 8 (by omega) p rfl).put hkx 9 (by omega) q rfl).put hkx 10 (by omega) u (hv d)
 rw [show k * 11 + 9 = k * 11 + 8 + 1 by omega, show k * 11 + 10 = k * 11 + 8 + 2 by omega] at hS
 have hch := Chg.of_grown hS.gr
 have hng : ∀ q ∈ bss.flatten, q ≠ g := fun q hq e => h.ne q hq (by rw [e]; simp [Value.ownBlock])
 have hU2 := SlU.upd (a' := f') (b' := bu) hU hk hS.ow hS.ls ⟨u, rfl, Rep.chg hu hch fun q hq e => hg (by rw [← show q = g by simpa using e]; exact hq)⟩ (fun i dd _ hdd2 q hq => hch.block q (rowsR_ex hr q (flat_mem hdd2 hq)) fun e => hng q (flat_mem hdd2 hq) (by simpa using e))
 have hmem : ∀ z ∈ (bss.set k bu).flatten, z ∈ bss.flatten ∨ z ∈ bu := fun z hz => by
  obtain ⟨dd, hd, hm⟩ := List.mem_flatten.1 hz
  rcases List.mem_or_eq_of_mem_set hd with hd | rfl
  ·exact .inl (List.mem_flatten.2 ⟨dd, hd, hm⟩)
  ·exact .inr hm
 refine ⟨_, ⟨⟨_, _, hU2.rr, hU2.ls, ?_, rfl⟩, fun z hz e => ?_⟩, hS.gr, hmem⟩
 ·rw [List.length_set, ← hn]
  exact own_rebase hU2.ow fun b hb => hB b hb
 ·have e2 : z = g := by simpa [Value.ownBlock] using e
  rcases hmem z hz with h1 | h1
  ·exact hng z h1 e2
  ·exact hg (e2 ▸ h1)
end Go.Proofs.Ytdgagooldlnpeaa
namespace Go.Proofs.Ytdgagooldlnpeaa
open Go.RowKit
structure EdB (w : World) (s : Sn) (v : Value) (bs : List Nat) (e : Ed) (d : Value) (W : World) : Prop where
 a : SnA w.heap.size s v bs W
 x : BkAt W (w.heap.size + 1) 57 #[.int .i64 e.kind, .int .i64 e.id, .int .i64 e.a, .int .i64 e.b, .int .i64 e.bw, .int .i64 e.bh, d]
 rd : RdI W d e.data
 r : BkAt W (w.heap.size + 1 + 1) 32 #[.int .i64 0, .int .i64 0, .int .i64 0, .slice none 0 0]
 bw : Below w.heap.size w W
theorem EdB.call {w : World} {s : Sn} {v : Value} {bs : List Nat} {e : Ed} {d : Value} {W W' : World} (h : EdB w s v bs e d W) (hb : Below W.heap.size W W') : EdB w s v bs e d W' := ⟨h.a.call hb, h.x.call hb, h.rd.call hb, h.r.call hb, belI_call h.bw hb⟩
theorem EdB.set {w : World} {s : Sn} {v : Value} {bs : List Nat} {e : Ed} {d : Value} {W W' : World} {row : Option Nat} (h : EdB w s v bs e d W) (ho : (∀ b ∈ bs, b < w.heap.size) ∧ ∀ q, d.ownBlock = some q → q < w.heap.size) (hg : W.grownBy W' row) (hk : ∀ k, row = some k → w.heap.size + 3 ≤ k) : EdB w s v bs e d W' :=
 ⟨⟨h.a.at_.grown hg (fun e => by have := hk _ e.symm; omega), Rep.chg h.a.r (Chg.of_grown hg) fun b hb e => by have := hk b (by simpa using e); have := ho.1 b hb; omega⟩, h.x.grown hg (fun e => by have := hk _ e.symm; omega), h.rd.grown hg (fun q hq e => by have := hk _ e.symm; have := ho.2 q hq; omega), h.r.grown hg (fun e => by have := hk _ e.symm; omega), h.bw.grown hg h.bw.size (fun k e => by have := hk k e; omega)⟩
structure EdW (w : World) (s : Sn) (v : Value) (bs : List Nat) (e : Ed) (d : Value) (bo : Nat) (u : Value) (bu : List Nat) (W : World) : Prop where
 o : EdB w s v bs e d W
 b : BkAt W bo 32 #[.int .i64 s.w, .int .i64 s.h, .int .i64 s.back, u]
 h : HalfU (w.heap.size + 3) W s.fs u bu
structure EdO (w : World) (bs : List Nat) (d : Value) (bo : Nat) (u : Value) (bu : List Nat) : Prop where
 ob : (∀ b ∈ bs, b < w.heap.size) ∧ ∀ q, d.ownBlock = some q → q < w.heap.size
 lo : w.heap.size + 3 ≤ bo
 ub : ∀ q, u.ownBlock = some q → q < bo ∧ w.heap.size + 3 ≤ q
 bb : ∀ b ∈ bu, b < bo ∧ w.heap.size + 3 ≤ b
theorem EdW.call {w : World} {s : Sn} {v : Value} {bs : List Nat} {e : Ed} {d : Value} {bo : Nat} {u : Value} {bu : List Nat} {W W' : World} (h : EdW w s v bs e d bo u bu W) (hb : Below W.heap.size W W') : EdW w s v bs e d bo u bu W' := ⟨h.o.call hb, h.b.call hb, h.h.call hb⟩
theorem EdW.set {w : World} {s : Sn} {v : Value} {bs : List Nat} {e : Ed} {d : Value} {bo : Nat} {u : Value} {bu : List Nat} {W W' : World} {row : Option Nat} (h : EdW w s v bs e d bo u bu W) (ho : EdO w bs d bo u bu) (hg : W.grownBy W' row) (hk : ∀ k, row = some k → bo < k) : EdW w s v bs e d bo u bu W' :=
 ⟨h.o.set ho.ob hg (fun k e => by have := hk k e; have := ho.lo; omega), h.b.grown hg (fun e => by have := hk _ e.symm; omega), h.h.chg (Chg.of_grown hg) (fun q hq e => by have := hk q (by simpa using e); have := (ho.ub q hq).1; omega) (fun b hb e => by have := hk b (by simpa using e); have := (ho.bb b hb).1; omega)⟩
structure EdX (w : World) (s : Sn) (v : Value) (bs : List Nat) (e : Ed) (d : Value) (bo : Nat) (u : Value) (bu : List Nat) (g i : Nat) (f : Sf) (d1 : Value) (b1 : List Nat) (W : World) : Prop where
 o : EdW w s v bs e d bo u bu W
 c : C11 W g (i * 11) f d1
 r : repSf.R W f (sfCells f d1) b1
theorem EdX.call {w : World} {s : Sn} {v : Value} {bs : List Nat} {e : Ed} {d : Value} {bo : Nat} {u : Value} {bu : List Nat} {g i : Nat} {f : Sf} {d1 : Value} {b1 : List Nat} {W W' : World} (h : EdX w s v bs e d bo u bu g i f d1 b1 W) (hb : Below W.heap.size W W') : EdX w s v bs e d bo u bu g i f d1 b1 W' := ⟨h.o.call hb, h.c.call hb, Rep.call h.r hb⟩
theorem C11.kept {W W' : World} {g o : Nat} {f : Sf} {d : Value} (h : C11 W g o f d) (hg : ∀ q, q = g → q < W.heap.size → W'.heap[q]? = W.heap[q]?) : C11 W' g o f d := by
 have hc : ∀ o u, W.cell? ⟨g, o, none⟩ = some u → W'.cell? ⟨g, o, none⟩ = some u := fun o u hu => by
  have hl := World.block_lt_of_cell? W _ hu
  rw [← hu]
  exact World.cell?_of_block (hg g rfl hl)
 exact ⟨hc _ _ h.c0, hc _ _ h.c1, hc _ _ h.c2, hc _ _ h.c3, hc _ _ h.c4, hc _ _ h.c5, hc _ _ h.c6, hc _ _ h.c7, hc _ _ h.c8, hc _ _ h.c9, hc _ _ h.c10⟩
theorem EdX.set {w : World} {s : Sn} {v : Value} {bs : List Nat} {e : Ed} {d : Value} {bo : Nat} {u : Value} {bu : List Nat} {g i : Nat} {f : Sf} {d1 : Value} {b1 : List Nat} {W W' : World} {row : Option Nat} (h : EdX w s v bs e d bo u bu g i f d1 b1 W) (ho : EdO w bs d bo u bu) (hgb : g < bo ∧ ∀ b ∈ b1, b < bo) (hg : W.grownBy W' row) (hk : ∀ k, row = some k → bo < k) : EdX w s v bs e d bo u bu g i f d1 b1 W' :=
 ⟨h.o.set ho hg hk, h.c.kept fun q e hl => hg.block q hl fun e2 => by have := hk q e2.symm; omega, Rep.chg h.r (Chg.of_grown hg) fun b hb e => by have := hk b (by simpa using e); have := hgb.2 b hb; omega⟩
theorem HalfU.at_ {B : Nat} {W : World} {M : List Sf} {A : Option Addr} {n c k : Nat} {bs : List Nat} (h : HalfU B W M (.slice A n c) bs) (hk : k < M.length) : ∃ g f d b, A = some ⟨g, 0, none⟩ ∧ M[k]? = some f ∧ C11 W g (k * 11) f d ∧ repSf.R W f (sfCells f d) b ∧ (∀ q ∈ b, q ∈ bs) := by
 obtain ⟨xs, bss, hr, hls, how, rfl⟩ := h.ex
 have hR : repSfs.R W M [.slice A n c] ((Value.slice A n c).ownBlock.toList ++ bss.flatten) := ⟨_, xs, bss, rfl, hr, hls, own_rebase how fun _ _ => Nat.zero_le _, rfl⟩
 have hL := List.getElem?_eq_getElem hk
 obtain ⟨x, b, hx, hb, hRk⟩ := rowsR_at hr k _ hL
 have hR2 := hRk
 obtain ⟨d, rfl, hd⟩ := hR2
 rcases how.2 with ⟨_, h0⟩ | ⟨g, cap, cur, he, _⟩
 ·omega
 ·injection he with e1 e2 e3
  subst e1 e2 e3
  exact ⟨g, _, d, b, rfl, hL, c11_of fun j z hz => own_cellI how (by rw [flat_at hls k j hx (by have := (List.getElem?_eq_some_iff.1 hz).1; simpa [sfCells] using this)]; exact hz), hRk, fun q hq => flat_mem hb hq⟩
theorem er_ne {L : List Sf} {i kk : Nat} {f : Sf} (h : L[i]? = some f) (hne : i ≠ kk) : (L.take (i + 1)).eraseIdx kk = (L.take i).eraseIdx kk ++ [f] := by
 have hi := (List.getElem?_eq_some_iff.1 h).1
 have hl : (L.take i).length = i := by rw [List.length_take]; omega
 rw [take_snoc h]
 by_cases hk : kk < i
 ·rw [List.eraseIdx_append_of_lt_length (by omega)]
 ·rw [List.eraseIdx_append_of_length_le (by omega), List.eraseIdx_of_length_le (l := L.take i) (by omega), List.eraseIdx_of_length_le (l := [f]) (by simp; omega)]
theorem er_eq {L : List Sf} {kk : Nat} {f : Sf} (h : L[kk]? = some f) : (L.take (kk + 1)).eraseIdx kk = (L.take kk).eraseIdx kk := by
 have hi := (List.getElem?_eq_some_iff.1 h).1
 have hl : (L.take kk).length = kk := by rw [List.length_take]; omega
 rw [take_snoc h, List.eraseIdx_append_of_length_le (by omega), List.eraseIdx_of_length_le (l := L.take kk) (by omega), hl]
 simp
theorem er_len (L : List Sf) (i kk : Nat) : ((L.take i).eraseIdx kk).length ≤ L.length := by
 have h1 := List.length_eraseIdx_le (l := L.take i) (i := kk)
 rw [List.length_take] at h1
 omega
def EdAnsS (s : Sn) (e : Ed) (w : World) (e' : Ending) (w' : World) : Prop := ∃ u bs, e' = .returned (.tuple #[.agg #[.int .i64 (doE s e).1.w, .int .i64 (doE s e).1.h, .int .i64 (doE s e).1.back, u], .bool (doE s e).2]) ∧ repSfs.Own w.heap.size w' (doE s e).1.fs [u] bs ∧ Below w.heap.size w w'
end Go.Proofs.Ytdgagooldlnpeaa
namespace Go.Proofs.Ytdgagooldlnpeaa
open Go.RowKit
theorem edRet {w W : World} {s T : Sn} {g : Bool} {e : Ed} {a : Act} {u : Value} {bu : List Nat} (hde : doE s e = (T, g)) (hbw : Below w.heap.size w W) (hO : repSfs.Own (w.heap.size + 3) W T.fs [u] bu)
  (hr : (results Try.f24 a.tmps).run Try.prog ((((W.setCell ⟨w.heap.size + 1 + 1, 0, none⟩ (.int .i64 T.w)).setCell ⟨w.heap.size + 1 + 1, 1, none⟩ (.int .i64 T.h)).setCell ⟨w.heap.size + 1 + 1, 2, none⟩ (.int .i64 T.back)).setCell ⟨w.heap.size + 1 + 1, 3, none⟩ u) = .ok (.tuple #[.agg #[.int .i64 T.w, .int .i64 T.h, .int .i64 T.back, u], .bool g]) ((((W.setCell ⟨w.heap.size + 1 + 1, 0, none⟩ (.int .i64 T.w)).setCell ⟨w.heap.size + 1 + 1, 1, none⟩ (.int .i64 T.h)).setCell ⟨w.heap.size + 1 + 1, 2, none⟩ (.int .i64 T.back)).setCell ⟨w.heap.size + 1 + 1, 3, none⟩ u)) (hdf : a.defers = [] := by rfl) :
  bodyPost Try.prog Try.f24 (EdAnsS s e w) .ret a ((((W.setCell ⟨w.heap.size + 1 + 1, 0, none⟩ (.int .i64 T.w)).setCell ⟨w.heap.size + 1 + 1, 1, none⟩ (.int .i64 T.h)).setCell ⟨w.heap.size + 1 + 1, 2, none⟩ (.int .i64 T.back)).setCell ⟨w.heap.size + 1 + 1, 3, none⟩ u) := by
 have hCh := (((Chg.setB W (w.heap.size + 1 + 1) 0 (.int .i64 T.w) [w.heap.size + 1 + 1] (by simp)).trans (Chg.setB _ (w.heap.size + 1 + 1) 1 (.int .i64 T.h) _ (by simp))).trans (Chg.setB _ (w.heap.size + 1 + 1) 2 (.int .i64 T.back) _ (by simp))).trans (Chg.setB _ (w.heap.size + 1 + 1) 3 u _ (by simp))
 refine bodyPost_ret hr hdf ?_
 unfold EdAnsS
 rw [hde]
 exact ⟨u, bu, rfl, (Rep.Own.chg hO hCh (fun b hb e => by have h1 := hO.lo b hb; have h2 : b = w.heap.size + 1 + 1 := (by simpa using e); omega)).mono (by omega), hCh.below hbw hbw.size (fun b hb => by have : b = w.heap.size + 1 + 1 := (by simpa using hb); omega)⟩
theorem sf_form {W : World} {f : Sf} {d : Value} {b : List Nat} (h : repSf.R W f (sfCells f d) b) : ∃ A c, d = .slice A f.data.length c := by
 obtain ⟨d', e1, hd⟩ := h
 obtain rfl : d = d' := by simpa [sfCells] using e1
 exact (repInts_rd hd).form
def rsL (q : Int) (L : List Sf) (i : Nat) : List Sf := if q < 0 then [] else (L.take i).eraseIdx q.toNat
theorem rs_zero (q : Int) (L : List Sf) : rsL q L 0 = [] := by unfold rsL; split <;> simp
theorem rs_neg {q : Int} (h : q < 0) (L : List Sf) (i j : Nat) : rsL q L i = rsL q L j := by unfold rsL; rw [if_pos h, if_pos h]
theorem rs_ne {q : Int} {L : List Sf} {i : Nat} {f : Sf} (h0 : 0 ≤ q) (h : L[i]? = some f) (hne : (i : Int) ≠ q) : rsL q L (i + 1) = rsL q L i ++ [f] := by
 unfold rsL; rw [if_neg (by omega), if_neg (by omega)]; exact er_ne h (by omega)
theorem rs_eq {q : Int} {L : List Sf} {i : Nat} {f : Sf} (h : L[i]? = some f) (he : (i : Int) = q) : rsL q L (i + 1) = rsL q L i := by
 unfold rsL; rw [if_neg (by omega), if_neg (by omega), ← he, Int.toNat_natCast]; exact er_eq h
theorem rsl_len (q : Int) (L : List Sf) (i : Nat) : (rsL q L i).length ≤ L.length := by
 unfold rsL; split
 ·exact Nat.zero_le _
 ·exact er_len L i _
theorem rs_all {q : Int} (h : 0 ≤ q) (L : List Sf) : rsL q L L.length = L.eraseIdx q.toNat := by unfold rsL; rw [if_neg (by omega), List.take_length]
theorem ed_fin {w V : World} {s : Sn} {v d : Value} {bs : List Nat} {e : Ed} {bo : Nat} {x y z : Int} {u u5 : Value} {b5 : List Nat} {M : List Sf} (ho : (∀ b ∈ bs, b < w.heap.size) ∧ ∀ q, d.ownBlock = some q → q < w.heap.size) (hB : EdB w s v bs e d V) (hb : BkAt V bo 32 #[.int .i64 x, .int .i64 y, .int .i64 z, u]) (hH : HalfU (w.heap.size + 3) V M u5 b5) (hlo : w.heap.size + 3 ≤ bo) (h1 : ∀ p, u5.ownBlock = some p → p ≠ bo) (h2 : ∀ q ∈ b5, q ≠ bo) :
  EdB w s v bs e d (V.setCell ⟨bo, 3, none⟩ u5) ∧ BkAt (V.setCell ⟨bo, 3, none⟩ u5) bo 32 #[.int .i64 x, .int .i64 y, .int .i64 z, u5] ∧ HalfU (w.heap.size + 3) (V.setCell ⟨bo, 3, none⟩ u5) M u5 b5 :=
 ⟨hB.set ho (grown_setB _ bo 3 _) (fun k hk => by have := Option.some.inj hk; omega), hb.put 3 _ rfl, hH.chg (Chg.of_grown (grown_setB _ bo 3 _)) (fun p hp e => h1 p hp (by simpa using e)) (fun q hq e => h2 q hq (by simpa using e))⟩
theorem HalfU.frozen {B : Nat} {W : World} {M : List Sf} {g n c : Nat} {bs : List Nat} (h : HalfU B W M (.slice (some ⟨g, 0, none⟩) n c) bs) (j : Nat) : W.frozen? ⟨g, j, none⟩ = false := by
 obtain ⟨A, c', e⟩ := h.form
 injection e with e1 e2 e3
 subst e2
 obtain ⟨xs, bss, hr, hls, how, _⟩ := h.ex
 exact how.frozenAt j
theorem HalfU.im3 {B : Nat} {W : World} {M : List Sf} {g n c k : Nat} {bs : List Nat} (h : HalfU B W M (.slice (some ⟨g, 0, none⟩) n c) bs) (hk : k < M.length) : ∃ f d, M[k]? = some f ∧ W.cell? ⟨g, k * 11 + 8, none⟩ = some (.int .i64 f.bw) ∧ W.cell? ⟨g, k * 11 + 8 + 1, none⟩ = some (.int .i64 f.bh) ∧ W.cell? ⟨g, k * 11 + 8 + 2, none⟩ = some d := by
 obtain ⟨g', f, d, b, hA, hf, hC, _, _⟩ := h.at_ hk
 injection hA with hA
 injection hA with hA
 subst hA
 exact ⟨f, d, hf, hC.c8, hC.c9, hC.c10⟩
theorem ed_put1 {w V : World} {s : Sn} {v d : Value} {bs bu : List Nat} {e : Ed} {bo g n c k j : Nat} {cs : Array Value} {M : List Sf} {f f' : Sf} {val : Value} (ho : (∀ b ∈ bs, b < w.heap.size) ∧ ∀ q, d.ownBlock = some q → q < w.heap.size) (hB : EdB w s v bs e d V) (hb : BkAt V bo 32 cs) (hH : HalfU (w.heap.size + 3) V M (.slice (some ⟨g, 0, none⟩) n c) bu) (hn : n = M.length) (hf : M[k]? = some f) (hj : j < 11) (hv : ∀ d, (sfCells f d).set j val = sfCells f' d) (hd : f'.data = f.data) (hg : w.heap.size + 3 ≤ g) (hbg : bo ≠ g) :
  EdB w s v bs e d (V.setCell ⟨g, k * 11 + j, none⟩ val) ∧ BkAt (V.setCell ⟨g, k * 11 + j, none⟩ val) bo 32 cs ∧ HalfU (w.heap.size + 3) (V.setCell ⟨g, k * 11 + j, none⟩ val) (M.set k f') (.slice (some ⟨g, 0, none⟩) n c) bu := by
 obtain ⟨h1, h2⟩ := hH.put1 hn hf hj hv hd
 exact ⟨hB.set ho h2 (fun q hq => by have := Option.some.inj hq; omega), hb.grown h2 (fun e => hbg (Option.some.inj e)), h1⟩
structure EdY (w : World) (s : Sn) (v : Value) (bs : List Nat) (e : Ed) (d : Value) (br : Nat) (v2 : Value) (g i : Nat) (f : Sf) (d1 : Value) (b1 : List Nat) (W : World) : Prop where
 o : EdB w s v bs e d W
 r : BkAt W br 32 #[.int .i64 0, .int .i64 0, .int .i64 0, v2]
 c : C11 W g (i * 11) f d1
 rf : repSf.R W f (sfCells f d1) b1
theorem EdY.call {w : World} {s : Sn} {v : Value} {bs : List Nat} {e : Ed} {d : Value} {br : Nat} {v2 : Value} {g i : Nat} {f : Sf} {d1 : Value} {b1 : List Nat} {W W' : World} (h : EdY w s v bs e d br v2 g i f d1 b1 W) (hb : Below W.heap.size W W') : EdY w s v bs e d br v2 g i f d1 b1 W' := ⟨h.o.call hb, h.r.call hb, h.c.call hb, Rep.call h.rf hb⟩
theorem EdY.set {w : World} {s : Sn} {v : Value} {bs : List Nat} {e : Ed} {d : Value} {br : Nat} {v2 : Value} {g i : Nat} {f : Sf} {d1 : Value} {b1 : List Nat} {W W' : World} {row : Option Nat} (h : EdY w s v bs e d br v2 g i f d1 b1 W) (ho : (∀ b ∈ bs, b < w.heap.size) ∧ ∀ q, d.ownBlock = some q → q < w.heap.size) (hg : W.grownBy W' row) (hk : ∀ k, row = some k → w.heap.size + 3 ≤ k ∧ k ≠ br ∧ k ≠ g ∧ k ∉ b1) : EdY w s v bs e d br v2 g i f d1 b1 W' :=
 ⟨h.o.set ho hg (fun k e => (hk k e).1), h.r.grown hg (fun e => (hk _ e.symm).2.1 rfl), h.c.kept fun q e hl => hg.block q hl fun e2 => (hk q e2.symm).2.2.1 e, Rep.chg h.rf (Chg.of_grown hg) fun b hb e => (hk b (by simpa using e)).2.2.2 hb⟩
theorem edNew_rep {W : World} {e : Ed} {A : Option Addr} {c B : Nat} (h : W.ownsRow B 3 1 (.slice A e.data.length c) e.data.length (intCells e.data)) : repInts.R W e.data [.slice A e.data.length c] (Value.slice A e.data.length c).ownBlock.toList := ⟨_, rfl, own_rebase h (fun _ _ => Nat.zero_le _), rfl⟩
end Go.Proofs.Ytdgagooldlnpeaa
namespace Go.Proofs.Ytdgagooldlnpeaa
open Go.RowKit
structure RoS (w : World) (s : Sn) (v : Value) (f : Sf) (d : Value) (V : World) : Prop where
 a : BkAt V w.heap.size 32 #[.int .i64 s.w, .int .i64 s.h, .int .i64 s.back, v]
 b : BkAt V (w.heap.size + 1) 48 #[.int .i64 f.id, .int .i64 f.x, .int .i64 f.y, .int .i64 f.w, .int .i64 f.h, .int .i64 f.alpha, .int .i64 f.orient, .bool f.vis, .int .i64 f.bw, .int .i64 f.bh, d]
 bw : Below w.heap.size w V
theorem RoS.call {w : World} {s : Sn} {v : Value} {f : Sf} {d : Value} {V V' : World} (h : RoS w s v f d V) (hb : Below V.heap.size V V') : RoS w s v f d V' := ⟨h.a.call hb, h.b.call hb, belI_call h.bw hb⟩
theorem RoS.grown {w : World} {s : Sn} {v : Value} {f : Sf} {d : Value} {V V' : World} (h : RoS w s v f d V) (hg : V.grownBy V' (some (w.heap.size + 1 + 1))) : RoS w s v f d V' :=
 ⟨h.a.grown hg (fun e => by have := Option.some.inj e; omega), h.b.grown hg (fun e => by have := Option.some.inj e; omega), (Chg.of_grown hg).below h.bw h.bw.size (fun b hb => by have h0 : b = w.heap.size + 1 + 1 := (by simpa using hb); omega)⟩
set_option maxHeartbeats 1000000 in
set_option maxRecDepth 10000 in
theorem rosI (s : Sn) (v : Value) (hv : ∃ A n c, v = .slice A n c) (f : Sf) (d : Value) (w : World) (hd : RdI w d f.data) : Calls Try.prog 87 #[.agg #[.int .i64 s.w, .int .i64 s.h, .int .i64 s.back, v], .agg #[.int .i64 f.id, .int .i64 f.x, .int .i64 f.y, .int .i64 f.w, .int .i64 f.h, .int .i64 f.alpha, .int .i64 f.orient, .bool f.vis, .int .i64 f.bw, .int .i64 f.bh, d]] w (RcAns (ocR s.w s.h f) w) := by
 obtain ⟨Av, nv, cv, rfl⟩ := hv
 obtain ⟨Ad, cd, rfl⟩ := hd.form
 have hS : RoS w s (.slice Av nv cv) f (.slice Ad f.data.length cd) (((w.alloc (.cells #[.int .i64 s.w, .int .i64 s.h, .int .i64 s.back, .slice Av nv cv] 32)).alloc (.cells #[.int .i64 f.id, .int .i64 f.x, .int .i64 f.y, .int .i64 f.w, .int .i64 f.h, .int .i64 f.alpha, .int .i64 f.orient, .bool f.vis, .int .i64 f.bw, .int .i64 f.bh, .slice Ad f.data.length cd] 48)).alloc (.cells #[.int .i64 0, .int .i64 0, .int .i64 0, .int .i64 0] 81)) :=
  ⟨((BkAt.new _ _ _).call (belI_box _ _)).call (belI_box _ _), (BkAt.newAt (by simp) _ _).call (belI_box _ _), belI_call (belI_call (belI_box _ _) (belI_box _ _)) (belI_box _ _)⟩
 have hr : RcAt (((w.alloc (.cells #[.int .i64 s.w, .int .i64 s.h, .int .i64 s.back, .slice Av nv cv] 32)).alloc (.cells #[.int .i64 f.id, .int .i64 f.x, .int .i64 f.y, .int .i64 f.w, .int .i64 f.h, .int .i64 f.alpha, .int .i64 f.orient, .bool f.vis, .int .i64 f.bw, .int .i64 f.bh, .slice Ad f.data.length cd] 48)).alloc (.cells #[.int .i64 0, .int .i64 0, .int .i64 0, .int .i64 0] 81)) (w.heap.size + 1 + 1) ⟨0, 0, 0, 0⟩ := RcAt.newAt (by simp) ⟨0, 0, 0, 0⟩
 obtain ⟨r, hre⟩ : ∃ r, r = sfRect f := ⟨_, rfl⟩
 obtain ⟨q, hq⟩ : ∃ q, q = ocR s.w s.h f := ⟨_, rfl⟩
 have HR := fun W0 (h : RdI W0 (.slice Ad f.data.length cd) f.data) => srI f _ W0 h
 unfold SrAns at HR
 have HQ := fun W0 => isectI_any r ⟨0, 0, s.w, s.h⟩ W0
 rw [← hre] at HR
 have hrq : isect r ⟨0, 0, s.w, s.h⟩ = q := by rw [hq, hre]; rfl
 rw [hrq] at HQ
 rw [← hq]
 unfold RcAns at HR ⊢
 dsimp only at HQ
 have HR := Lib.hid HR
 have HQ := Lib.hid HQ
 replace hd := ((hd.alloc (.cells #[.int .i64 s.w, .int .i64 s.h, .int .i64 s.back, .slice Av nv cv] 32)).alloc (.cells #[.int .i64 f.id, .int .i64 f.x, .int .i64 f.y, .int .i64 f.w, .int .i64 f.h, .int .i64 f.alpha, .int .i64 f.orient, .bool f.vis, .int .i64 f.bw, .int .i64 f.bh, .slice Ad f.data.length cd] 48)).alloc (.cells #[.int .i64 0, .int .i64 0, .int .i64 0, .int .i64 0] 81)
 clear hre hq hrq
 go_enter Try.func87, Try.ntmps87
 go_upto_region 1 with fail
 refine wp_region_held_drew (S := fun V => RoS w s (.slice Av nv cv) f (.slice Ad f.data.length cd) V) (by kernel_rfl) (hS.call (belI_drew _)) (fun hS => ?_)
 replace hr := hr.below (belI_drew _) hr.lt
 replace hd := hd.drew
 refine tcH (i := 0) (v := .agg #[.int .i64 f.id, .int .i64 f.x, .int .i64 f.y, .int .i64 f.w, .int .i64 f.h, .int .i64 f.alpha, .int .i64 f.orient, .bool f.vis, .int .i64 f.bw, .int .i64 f.bh, .slice Ad f.data.length cd]) rfl (by intro w' hSw; (try dsimp only at hSw); (have e0 := hSw.b.cell 0 rfl); (have e1 := hSw.b.cell 1 rfl); (have e2 := hSw.b.cell 2 rfl); (have e3 := hSw.b.cell 3 rfl); (have e4 := hSw.b.cell 4 rfl); (have e5 := hSw.b.cell 5 rfl); (have e6 := hSw.b.cell 6 rfl); (have e7 := hSw.b.cell 7 rfl); (have e8 := hSw.b.cell 8 rfl); (have e9 := hSw.b.cell 9 rfl); (have e10 := hSw.b.cell 10 rfl); go_simp) ?_
 refine tkH (i := 2) (v := .pointer (some ⟨w.heap.size, 0, none⟩)) rfl ?_
 refine tcH (i := 3) (v := .int .i64 s.w) rfl (by intro w' hSw; (try dsimp only at hSw); (obtain ⟨a0, a1, a2, a3⟩ := hSw.a.cells4); go_simp) ?_
 refine tkH (i := 4) (v := .pointer (some ⟨w.heap.size, 1, none⟩)) rfl ?_
 refine tcH (i := 5) (v := .int .i64 s.h) rfl (by intro w' hSw; (try dsimp only at hSw); (obtain ⟨a0, a1, a2, a3⟩ := hSw.a.cells4); go_simp) ?_
 refine tkH (i := 6) (v := .agg #[.int .i64 0, .int .i64 0, .int .i64 s.w, .int .i64 s.h]) rfl ?_
 (try simp only [Act.put]); (try simp only [zPa]); (try simp only [zPb, zPc])
 refine wpAnyH_ready (rs := [1]) (by kernel_rfl) (by simp) ?_
 refine (AllReadyH.cons rfl (fun K hK => ?_) AllReadyH.nil)
 ·rw [if_pos (by kernel_rfl)]
  (try simp only [zGa]); (try simp only [zGb]); (try simp only [zGc])
  go_simp
  with_reducible refine (HR.out _ hd).mono ?_
  rintro e W' ⟨rfl, hb⟩
  dsimp only
  have hr := hr.below hb hr.lt
  have hd := hd.call hb
  refine hK.out _ _ (hS.call hb) (fun hS => ?_)
  clear hK
  (try simp only [Act.put]); (try simp only [zPa]); (try simp only [zPb, zPc])
  refine wpAnyH_ready (rs := [7]) (by kernel_rfl) (by simp) ?_
  refine (AllReadyH.cons rfl (fun K hK => ?_) AllReadyH.nil)
  ·rw [if_pos (by kernel_rfl)]
   (try simp only [zGa]); (try simp only [zGb]); (try simp only [zGc])
   go_simp
   with_reducible refine (HQ.out _).mono ?_
   rintro e W' ⟨rfl, hb⟩
   dsimp only
   have hr := hr.below hb hr.lt
   have hd := hd.call hb
   refine hK.out _ _ (hS.call hb) (fun hS => ?_)
   clear hK
   (try simp only [Act.put]); (try simp only [zPa]); (try simp only [zPb, zPc])
   refine wpAnyH_ready (rs := [8]) (by kernel_rfl) (by simp) ?_
   refine (AllReadyH.cons rfl (fun K hK => ?_) AllReadyH.nil)
   ·rw [if_pos (by kernel_rfl)]
    (try simp only [zGa]); (try simp only [zGb]); (try simp only [zGc])
    refine wp_store_rc (.tmp 4) (.tmp 12) rfl (w.heap.size + 1 + 1) ⟨0, 0, 0, 0⟩ q rfl (by first | with_reducible rfl | (go_simp; done) | rfl) hr ?_
    intro W3 IB hgB
    skip
    skip
    refine hK.out _ _ (hS.grown hgB) (fun hS => ?_)
    clear hK
    (try simp only [Act.put]); (try simp only [zPa]); (try simp only [zPb, zPc])
    refine wpAnyH_done (by kernel_rfl) ?_ _
    obtain ⟨r0, r1, r2, r3⟩ := IB.cells
    go_wp2_with fail
    exact bodyPost_ret (v := .agg #[.int .i64 q.x, .int .i64 q.y, .int .i64 q.w, .int .i64 q.h]) (by simp [results, Try.results87, go_sem, r0, r1, r2, r3]) rfl ⟨rfl, hS.bw⟩
theorem pl_d {w : World} {fs : List Sf} {A : Option Addr} {n c : Nat} {bs : List Nat} (h : repSfs.R w fs [.slice A n c] bs) {k : Nat} (hk : k < fs.length) : ∃ g f d bd, A = some ⟨g, 0, none⟩ ∧ fs[k]? = some f ∧ C11 w g (k * 11) f d ∧ repInts.R w f.data [d] bd ∧ ∀ b ∈ bd, b ∈ bs := by
 rcases SlU.of_rep h with ⟨_, rfl, _⟩ | ⟨g, c', xs, bss, he, hU, rfl⟩
 ·simp at hk
 ·injection he with e1 e2 e3
  subst e1
  obtain ⟨f, x, b, hf, hx, hb, hl, hR, hc⟩ := hU.at_ hk
  obtain ⟨d, rfl, hd⟩ := hR
  exact ⟨g, f, d, b, rfl, hf, c11_of hc, hd, fun q hq => List.mem_cons.2 (.inr (flat_mem hb hq))⟩
end Go.Proofs.Ytdgagooldlnpeaa
namespace Go.Proofs.Ytdgagooldlnpeaa
open Go.RowKit
theorem wp_build1o {op : Oper} {a : Act} {w : World} {K : Act → World → Prop} {Q : Exit → Act → World → Prop} (d : Nat) (x : Operand) (r : Rc) (ho : op.op = .buildSlice 26 1 #[(0, x)]) (hx : a.eval x = .agg #[.int .i64 r.x, .int .i64 r.y, .int .i64 r.w, .int .i64 r.h]) (hd : op.dst = some d)
  (h : ∀ g W', Below w.heap.size w W' → W'.ownsRow w.heap.size 81 4 (.slice (some ⟨g, 0, none⟩) 1 1) 1 (rcsCells [r]) → K (a.put (some d) (.slice (some ⟨g, 0, none⟩) 1 1)) W') : op.wp Try.prog a w K Q := by
 have h1 := h w.heap.size (w.alloc (.cells #[.int .i64 r.x, .int .i64 r.y, .int .i64 r.w, .int .i64 r.h] 81)) (belI_box _ _) ⟨rfl, .inr ⟨w.heap.size, 1, _, rfl, Nat.le_refl _, heap_alloc_new w _, Nat.le_refl _, by unfold maxLen; omega, rfl, rfl⟩⟩
 have hz := run_build1 r w
 unfold Oper.wp execOp
 simp only [ho, List.map_toArray, List.map_cons, List.map_nil, hx, Sem.run_bind, hz, Result.andThen_ok, Sem.run_pure]
 rw [← hd] at h1
 exact h1
end Go.Proofs.Ytdgagooldlnpeaa
