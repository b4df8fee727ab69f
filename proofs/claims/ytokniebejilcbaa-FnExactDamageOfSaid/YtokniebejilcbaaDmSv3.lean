/- The contract of DamageOf of the model. No statement is proved here. -/
import Derived.Test.YtokniebejilcbaaMAv23
import Derived.Test.YtokniebejilcbaaMAv123
import Derived.Test.YtokniebejilcbaaMAv3
import Derived.Test.YtokniebejilcbaaMBv23
import Derived.Test.YtokniebejilcbaaMBv3
import Derived.Test.YtokniebejilcbaaB1sav3
import Derived.Test.YtokniebejilcbaaSfRv3
import Derived.Test.YtokniebejilcbaaB0nav3
import Derived.Test.YtokniebejilcbaaSnSv3
import Derived.Test.YtokniebejilcbaaB1sbv3
import Derived.Test.YtokniebejilcbaaB0sav3
import Derived.Test.YtokniebejilcbaaDmIv3
import Derived.Test.YtokniebejilcbaaDmJv3
import Derived.Test.YtokniebejilcbaaProg
import Derived.WalkKit
import Derived.ProofKit
import Derived.OpenShut
import Derived.WalkLawsBesides
import Derived.WalkSpells
import Derived.ShutString
import Derived.ChangeOld
import Derived.Below
import Derived.Lib.Hide
import Derived.BigQuiet
import Derived.Deep.QuietTactic
import Derived.Maps.AppendAt
import Derived.Deep.OwnRows
import Derived.Handy
import Derived.Deep.Draws
import Derived.OwnWalk
import Derived.Deep.AppendLies
import Derived.Deep.LoopGhost
import Derived.Deep.Onto
import Derived.Deep.MidRow
import Derived.Deep.WholeRow
import Derived.Laws.BitsAllLaws
import Derived.Lib.QuoteBits
import Derived.Deep.RegionHeld3
import Derived.Deep.DeepCutAuto
import Derived.Test.YtokniebejilcbaaShelf
import Derived.Laws.CopyOwn
import Derived.Deep.RegionLaw
import Derived.Great.BuildSlice
import Derived.Laws.AppendOwn
import Derived.ChangeKeysEq
import Derived.Deep.RegionWith
import Derived.Maps.RangeWalk
import Derived.Maps.OwnOps
import Derived.Shelf.RegionOpenPlain
import Derived.Lib.SliceRun
import Derived.Deep.DeepAppendRoom
namespace Go.Proofs.Ytokniebejilcbaa
open Go.RowKit
structure DsX (w : World) (s t : Sn) (u v : Value) (bq : Nat) (q : Rc) (V : World) : Prop where
 x : DmB w s t u v V
 r : BkAt V (w.heap.size + 1 + 1) 85 #[.slice none 0 0]
 q : RcAt V bq q
 lo : w.heap.size + 3 ≤ bq
theorem DsX.call {w : World} {s t : Sn} {u v : Value} {bq : Nat} {q : Rc} {V V' : World} (h : DsX w s t u v bq q V) (hb : Below V.heap.size V V') : DsX w s t u v bq q V' := ⟨h.x.call hb, h.r.call hb, h.q.below hb h.q.lt, h.lo⟩
theorem DsX.grown {w : World} {s t : Sn} {u v : Value} {bq : Nat} {q : Rc} {V V' : World} {z : Value} {n : Nat} {xs : List Value} (h : DsX w s t u v bq q V) (ho : V.ownsRow (bq + 1) 94 4 z n xs) (hg : V.grownBy V' z.ownBlock) : DsX w s t u v bq q V' := by
 have hlo : ∀ k, z.ownBlock = some k → bq + 1 ≤ k := fun k hk => (own_ltB ho k (by rw [hk]; simp)).1
 have h0 := h.lo
 exact ⟨h.x.grown (fun k hk => by have := hlo k hk; omega) hg, h.r.grown hg fun e => by have := hlo _ e.symm; omega, h.q.grownI hg fun e => by have := hlo _ e.symm; omega, h.lo⟩
theorem own_there4 {w : World} {B gq n cap : Nat} {e : TypeId} {xs : List Value} (h : w.ownsRow B e 4 (.slice (some ⟨gq, 0, none⟩) n cap) n xs) {j : Nat} (hj : j < n) : w.there gq (j * 4) 4 := fun i hi => by
 have hl := h.1
 have hx := List.getElem?_eq_getElem (l := xs) (i := j * 4 + i) (by omega)
 refine ⟨by rw [own_cellI h hx]; rfl, ?_⟩
 rcases h.2 with ⟨he, _⟩ | ⟨g, cap', cur, he, _, hc, _⟩
 ·cases he
 ·injection he with e1 _ _
  injection e1 with e1
  injection e1 with e1 _ _
  subst e1
  simp [World.frozen?, hc]
theorem own_range4 {w : World} {B gq n cap j : Nat} {e : TypeId} {L M : List Rc} {r : Rc} (h : w.ownsRow B e 4 (.slice (some ⟨gq, 0, none⟩) n cap) n (rcsCells (L ++ r :: M))) (hj : j = L.length) : w.rangeAt gq (j * 4) [.int .i64 r.x, .int .i64 r.y, .int .i64 r.w, .int .i64 r.h] := fun i v hv => by
 have hi : i < 4 := (List.getElem?_eq_some_iff.1 hv).1
 refine own_cellI h ?_
 rw [show rcsCells (L ++ r :: M) = rcsCells L ++ (rcCells r ++ rcsCells M) by simp [rcsCells], List.getElem?_append_right (by rw [rcsCells_length]; omega), rcsCells_length, show j * 4 + i - L.length * 4 = i by omega, List.getElem?_append_left (by show i < 4; omega)]
 exact hv
set_option maxHeartbeats 30000000 in
set_option maxRecDepth 10000 in
theorem dmgS (s t : Sn) (u v : Value) (bu bv : List Nat) (w : World) (hu : repSfs.R w s.fs [u] bu) (hv : repSfs.R w t.fs [v] bv) :
  Calls Try.prog 56 #[.agg #[.int .i64 s.w, .int .i64 s.h, .int .i64 s.back, u], .agg #[.int .i64 t.w, .int .i64 t.h, .int .i64 t.back, v]] w (RgQ (dmgM s t) w) := by
 obtain ⟨⟨Au, cu, rfl⟩, _⟩ := repSfs_form hu
 obtain ⟨⟨A, c, rfl⟩, _⟩ := repSfs_form hv
 obtain ⟨sx, sy, sb, sf⟩ := s
 obtain ⟨tx, ty, tb, tf⟩ := t
 dsimp only at hu hv ⊢
 obtain ⟨N, hN⟩ : ∃ N, N = tf.length := ⟨_, rfl⟩
 obtain ⟨nu, hnu⟩ : ∃ N, N = sf.length := ⟨_, rfl⟩
 rw [← hN] at hv ⊢
 rw [← hnu] at hu ⊢
 have HN := Lib.hid hN
 have HNu := Lib.hid hnu
 clear hN hnu
 obtain ⟨i0, hi, hz0, hz1, hz2⟩ := info2_rc
 obtain ⟨wA, hwA⟩ : ∃ V, V = ((w.alloc (.cells #[.int .i64 sx, .int .i64 sy, .int .i64 sb, .slice Au nu cu] 56)).alloc (.cells #[.int .i64 tx, .int .i64 ty, .int .i64 tb, .slice A N c] 56)).alloc (.cells #[.slice none 0 0] 85) := ⟨_, rfl⟩
 have hX : DmR w ⟨sx, sy, sb, sf⟩ ⟨tx, ty, tb, tf⟩ (.slice Au nu cu) (.slice A N c) wA := by rw [hwA]; exact ⟨(DmB.born w ⟨sx, sy, sb, sf⟩ ⟨tx, ty, tb, tf⟩ _ _).call (belI_box _ _), by simp⟩
 have hr : BkAt wA (w.heap.size + 1 + 1) 85 #[.slice none 0 0] := by rw [hwA]; exact BkAt.newAt (by simp) _ _
 have HSs := fun V h => snS ⟨sx, sy, sb, sf⟩ (.slice Au nu cu) bu V h
 have HSt := fun V h => snS ⟨tx, ty, tb, tf⟩ (.slice A N c) bv V h
 unfold SnOkAns at HSs HSt
 dsimp only at HSs HSt
 obtain ⟨Q, hQ⟩ : ∃ Q, Q = dmgM ⟨sx, sy, sb, sf⟩ ⟨tx, ty, tb, tf⟩ := ⟨_, rfl⟩
 rw [← hQ]
 have HU := Lib.hid hu
 have HW := Lib.hid hv
 obtain ⟨a0, a1, a2, a3⟩ := hX.x.a.cells4
 dsimp only at a0 a1 a2 a3
 rw [hwA] at a0 a1 a2 a3
 have HWA := Lib.hid hwA
 have HX := Lib.hid hX
 have Hr := Lib.hid hr
 clear hu hv hX hr hwA
 rcases (Classical.em (snOk ⟨sx, sy, sb, sf⟩)).symm with hs | hs
 ·rw [snB_no hs] at HSs
  have HSs := Lib.hid HSs
  have HQ := Lib.hid (hQ.trans (dmgM_no fun h => hs h.1))
  clear hs hQ HSt
  go_enter Try.func56, Try.ntmps56
  go_wp2_with fail
  rw [← HWA.out]
  clear a0 a1 a2 a3
  refine (HSs.out _ (Rep.call HU.out HX.out.x.bw)).mono ?_
  rintro e w1 ⟨rfl, hb⟩
  have HX1 := Lib.hid (HX.out.call hb)
  obtain ⟨r0, r1⟩ := bk_res (Hr.out.call hb)
  clear hb
  go_wp2_with fail
  refine bodyPost_ret (v := .agg #[.slice none 0 0]) (by simp [results, Try.results56, go_sem, r0]) rfl ?_
  rw [HQ.out]
  exact rg_zero3 HX1.out.x.bw
 ·rw [snB_yes hs] at HSs
  rcases (Classical.em (snOk ⟨tx, ty, tb, tf⟩)).symm with ht | ht
  ·rw [snB_no ht] at HSt
   have HSs := Lib.hid HSs
   have HSt := Lib.hid HSt
   have HQ := Lib.hid (hQ.trans (dmgM_no fun h => ht h.2))
   clear hs ht hQ
   go_enter Try.func56, Try.ntmps56
   go_wp2_with fail
   rw [← HWA.out]
   clear a0 a1 a2 a3
   refine (HSs.out _ (Rep.call HU.out HX.out.x.bw)).mono ?_
   rintro e w1 ⟨rfl, hb⟩
   have HX1 := Lib.hid (HX.out.call hb)
   have Hr1 := Lib.hid (Hr.out.call hb)
   clear hb
   obtain ⟨b0, b1, b2, b3⟩ := HX1.out.x.b.cells4
   dsimp only at b0 b1 b2 b3
   go_wp2_with fail
   refine (HSt.out _ (Rep.call HW.out HX1.out.x.bw)).mono ?_
   rintro e w2 ⟨rfl, hb⟩
   have HX2 := Lib.hid (HX1.out.call hb)
   obtain ⟨r0, r1⟩ := bk_res (Hr1.out.call hb)
   clear hb b0 b1 b2 b3 HX1 Hr1
   go_wp2_with fail
   refine bodyPost_ret (v := .agg #[.slice none 0 0]) (by simp [results, Try.results56, go_sem, r0]) rfl ?_
   rw [HQ.out]
   exact rg_zero3 HX2.out.x.bw
  ·rw [snB_yes ht] at HSt
   have Hss := Lib.hid hs
   have Htt := Lib.hid ht
   have HSs := Lib.hid HSs
   have HSt := Lib.hid HSt
   clear hs
   rcases (Classical.em (sx = tx)).symm with e1 | e1
   ·have hQ1 : Q = canon (gridOf [⟨0, 0, tx, ty⟩]) := by rw [hQ]; exact dmgM_all ⟨Hss.out, ht⟩ fun h => e1 h.1
    have eb : (sx == tx) = false := by rw [beq_eq_false_iff_ne]; exact e1
    have HF := fun (V : World) u h => rofS u [⟨0, 0, tx, ty⟩] V h
    unfold RofAns at HF
    rw [← hQ1] at HF
    have HF := Lib.hid HF
    clear ht hQ hQ1
    go_enter Try.func56, Try.ntmps56
    go_wp2_with fail
    rw [← HWA.out]
    clear a0 a1 a2 a3
    refine (HSs.out _ (Rep.call HU.out HX.out.x.bw)).mono ?_
    rintro e w1 ⟨rfl, hb⟩
    have HX1 := Lib.hid (HX.out.call hb)
    have Hr1 := Lib.hid (Hr.out.call hb)
    clear hb
    obtain ⟨b0, b1, b2, b3⟩ := HX1.out.x.b.cells4
    dsimp only at b0 b1 b2 b3
    go_wp2_with fail
    refine (HSt.out _ (Rep.call HW.out HX1.out.x.bw)).mono ?_
    rintro e w2 ⟨rfl, hb⟩
    have HX2 := Lib.hid (HX1.out.call hb)
    have Hr2 := Lib.hid (Hr1.out.call hb)
    clear hb b0 b1 b2 b3 HX1 Hr1
    obtain ⟨w3, hw3⟩ : ∃ V, V = w2.alloc (.cells #[.int .i64 0, .int .i64 0, .int .i64 tx, .int .i64 ty] 94) := ⟨_, rfl⟩
    obtain ⟨bq, hbq⟩ : ∃ b, b = w2.heap.size := ⟨_, rfl⟩
    have hbx : Below w2.heap.size w2 w3 := by rw [hw3]; exact belI_box _ _
    have HS3 : Hid (DsX w ⟨sx, sy, sb, sf⟩ ⟨tx, ty, tb, tf⟩ (.slice Au nu cu) (.slice A N c) bq ⟨0, 0, tx, ty⟩ w3) := Lib.hid ⟨HX2.out.x.call hbx, Hr2.out.call hbx, by rw [hw3, hbq]; exact RcAt.new w2 ⟨0, 0, tx, ty⟩, by rw [hbq]; exact HX2.out.sz⟩
    obtain ⟨a0, a1, a2, a3⟩ := HS3.out.x.a.cells4
    obtain ⟨b0, b1, b2, b3⟩ := HS3.out.x.b.cells4
    obtain ⟨q0, q1, q2, q3⟩ := HS3.out.q.cells
    dsimp only at a0 a1 a2 a3 b0 b1 b2 b3 q0 q1 q2 q3
    obtain ⟨b0', b1', b2', b3'⟩ := HX2.out.x.b.cells4
    dsimp only at b0' b1' b2' b3'
    rw [hw3] at a0 a1 a2 a3 b0 b1 b2 b3
    have hsz3 : w3.heap.size = bq + 1 := by rw [hw3, hbq]; simp
    have HZ3 := Lib.hid hsz3
    have HW3 := Lib.hid hw3
    have Hbq := Lib.hid hbq
    clear hw3 hbq hbx hsz3 HX2 Hr2 q0 q1 q2 q3
    have hone := RdR.one (RcAt.new w3 ⟨0, 0, tx, ty⟩)
    dsimp only at hone
    rw [HZ3.out] at hone
    have Hone := Lib.hid hone
    clear hone
    go_wp2_with fail
    rw [← HW3.out, ← Hbq.out]
    clear a0 a1 a2 a3 b0 b1 b2 b3 b0' b1' b2' b3'
    refine (HF.out _ _ Hone.out).mono ?_
    rintro e w4 ⟨z, rfl, hown, hb⟩
    have hb := belI_call (belI_box w3 (.cells #[.int .i64 0, .int .i64 0, .int .i64 tx, .int .i64 ty] 94)) hb
    obtain ⟨Az, cz, rfl⟩ := own_shape hown
    have HS4 := Lib.hid (HS3.out.call hb)
    have hq := HS3.out.q.lt
    have hq2 := HS3.out.lo
    have Hown := Lib.hid hown
    obtain ⟨r0, r1⟩ := bk_res HS4.out.r
    clear hown hb
    go_wp2_with fail
    refine bodyPost_ret (v := .agg #[.slice Az Q.length cz]) (by simp [results, Try.results56, go_sem, r0]) rfl ?_
    exact ⟨_, rfl, own_set Hown.out (by simp; omega) (by simp; omega) _, HS4.out.x.bw.setCell (by simp; omega) _⟩
   ·subst e1
    rcases (Classical.em (sy = ty)).symm with e2 | e2
    ·have hQ1 : Q = canon (gridOf [⟨0, 0, sx, ty⟩]) := by rw [hQ]; exact dmgM_all ⟨Hss.out, ht⟩ fun h => e2 h.2.1
     have eb : (sy == ty) = false := by rw [beq_eq_false_iff_ne]; exact e2
     have HF := fun (V : World) u h => rofS u [⟨0, 0, sx, ty⟩] V h
     unfold RofAns at HF
     rw [← hQ1] at HF
     have HF := Lib.hid HF
     clear ht hQ hQ1
     go_enter Try.func56, Try.ntmps56
     go_wp2_with fail
     rw [← HWA.out]
     clear a0 a1 a2 a3
     refine (HSs.out _ (Rep.call HU.out HX.out.x.bw)).mono ?_
     rintro e w1 ⟨rfl, hb⟩
     have HX1 := Lib.hid (HX.out.call hb)
     have Hr1 := Lib.hid (Hr.out.call hb)
     clear hb
     obtain ⟨b0, b1, b2, b3⟩ := HX1.out.x.b.cells4
     dsimp only at b0 b1 b2 b3
     go_wp2_with fail
     refine (HSt.out _ (Rep.call HW.out HX1.out.x.bw)).mono ?_
     rintro e w2 ⟨rfl, hb⟩
     have HX2 := Lib.hid (HX1.out.call hb)
     have Hr2 := Lib.hid (Hr1.out.call hb)
     clear hb b0 b1 b2 b3 HX1 Hr1
     obtain ⟨w3, hw3⟩ : ∃ V, V = w2.alloc (.cells #[.int .i64 0, .int .i64 0, .int .i64 sx, .int .i64 ty] 94) := ⟨_, rfl⟩
     obtain ⟨bq, hbq⟩ : ∃ b, b = w2.heap.size := ⟨_, rfl⟩
     have hbx : Below w2.heap.size w2 w3 := by rw [hw3]; exact belI_box _ _
     have HS3 : Hid (DsX w ⟨sx, sy, sb, sf⟩ ⟨sx, ty, tb, tf⟩ (.slice Au nu cu) (.slice A N c) bq ⟨0, 0, sx, ty⟩ w3) := Lib.hid ⟨HX2.out.x.call hbx, Hr2.out.call hbx, by rw [hw3, hbq]; exact RcAt.new w2 ⟨0, 0, sx, ty⟩, by rw [hbq]; exact HX2.out.sz⟩
     obtain ⟨a0, a1, a2, a3⟩ := HS3.out.x.a.cells4
     obtain ⟨b0, b1, b2, b3⟩ := HS3.out.x.b.cells4
     obtain ⟨q0, q1, q2, q3⟩ := HS3.out.q.cells
     dsimp only at a0 a1 a2 a3 b0 b1 b2 b3 q0 q1 q2 q3
     obtain ⟨b0', b1', b2', b3'⟩ := HX2.out.x.b.cells4
     dsimp only at b0' b1' b2' b3'
     rw [hw3] at a0 a1 a2 a3 b0 b1 b2 b3
     have hsz3 : w3.heap.size = bq + 1 := by rw [hw3, hbq]; simp
     have HZ3 := Lib.hid hsz3
     have HW3 := Lib.hid hw3
     have Hbq := Lib.hid hbq
     clear hw3 hbq hbx hsz3 HX2 Hr2 q0 q1 q2 q3
     have hone := RdR.one (RcAt.new w3 ⟨0, 0, sx, ty⟩)
     dsimp only at hone
     rw [HZ3.out] at hone
     have Hone := Lib.hid hone
     clear hone
     go_wp2_with fail
     rw [← HW3.out, ← Hbq.out]
     clear a0 a1 a2 a3 b0 b1 b2 b3 b0' b1' b2' b3'
     refine (HF.out _ _ Hone.out).mono ?_
     rintro e w4 ⟨z, rfl, hown, hb⟩
     have hb := belI_call (belI_box w3 (.cells #[.int .i64 0, .int .i64 0, .int .i64 sx, .int .i64 ty] 94)) hb
     obtain ⟨Az, cz, rfl⟩ := own_shape hown
     have HS4 := Lib.hid (HS3.out.call hb)
     have hq := HS3.out.q.lt
     have hq2 := HS3.out.lo
     have Hown := Lib.hid hown
     obtain ⟨r0, r1⟩ := bk_res HS4.out.r
     clear hown hb
     go_wp2_with fail
     refine bodyPost_ret (v := .agg #[.slice Az Q.length cz]) (by simp [results, Try.results56, go_sem, r0]) rfl ?_
     exact ⟨_, rfl, own_set Hown.out (by simp; omega) (by simp; omega) _, HS4.out.x.bw.setCell (by simp; omega) _⟩
    ·subst e2
     rcases (Classical.em (sb = tb)).symm with e3 | e3
     ·have hQ1 : Q = canon (gridOf [⟨0, 0, sx, sy⟩]) := by rw [hQ]; exact dmgM_all ⟨Hss.out, ht⟩ fun h => e3 h.2.2
      have eb : (sb == tb) = false := by rw [beq_eq_false_iff_ne]; exact e3
      have HF := fun (V : World) u h => rofS u [⟨0, 0, sx, sy⟩] V h
      unfold RofAns at HF
      rw [← hQ1] at HF
      have HF := Lib.hid HF
      clear ht hQ hQ1
      go_enter Try.func56, Try.ntmps56
      go_wp2_with fail
      rw [← HWA.out]
      clear a0 a1 a2 a3
      refine (HSs.out _ (Rep.call HU.out HX.out.x.bw)).mono ?_
      rintro e w1 ⟨rfl, hb⟩
      have HX1 := Lib.hid (HX.out.call hb)
      have Hr1 := Lib.hid (Hr.out.call hb)
      clear hb
      obtain ⟨b0, b1, b2, b3⟩ := HX1.out.x.b.cells4
      dsimp only at b0 b1 b2 b3
      go_wp2_with fail
      refine (HSt.out _ (Rep.call HW.out HX1.out.x.bw)).mono ?_
      rintro e w2 ⟨rfl, hb⟩
      have HX2 := Lib.hid (HX1.out.call hb)
      have Hr2 := Lib.hid (Hr1.out.call hb)
      clear hb b0 b1 b2 b3 HX1 Hr1
      obtain ⟨w3, hw3⟩ : ∃ V, V = w2.alloc (.cells #[.int .i64 0, .int .i64 0, .int .i64 sx, .int .i64 sy] 94) := ⟨_, rfl⟩
      obtain ⟨bq, hbq⟩ : ∃ b, b = w2.heap.size := ⟨_, rfl⟩
      have hbx : Below w2.heap.size w2 w3 := by rw [hw3]; exact belI_box _ _
      have HS3 : Hid (DsX w ⟨sx, sy, sb, sf⟩ ⟨sx, sy, tb, tf⟩ (.slice Au nu cu) (.slice A N c) bq ⟨0, 0, sx, sy⟩ w3) := Lib.hid ⟨HX2.out.x.call hbx, Hr2.out.call hbx, by rw [hw3, hbq]; exact RcAt.new w2 ⟨0, 0, sx, sy⟩, by rw [hbq]; exact HX2.out.sz⟩
      obtain ⟨a0, a1, a2, a3⟩ := HS3.out.x.a.cells4
      obtain ⟨b0, b1, b2, b3⟩ := HS3.out.x.b.cells4
      obtain ⟨q0, q1, q2, q3⟩ := HS3.out.q.cells
      dsimp only at a0 a1 a2 a3 b0 b1 b2 b3 q0 q1 q2 q3
      obtain ⟨b0', b1', b2', b3'⟩ := HX2.out.x.b.cells4
      dsimp only at b0' b1' b2' b3'
      rw [hw3] at a0 a1 a2 a3 b0 b1 b2 b3
      have hsz3 : w3.heap.size = bq + 1 := by rw [hw3, hbq]; simp
      have HZ3 := Lib.hid hsz3
      have HW3 := Lib.hid hw3
      have Hbq := Lib.hid hbq
      clear hw3 hbq hbx hsz3 HX2 Hr2 q0 q1 q2 q3
      have hone := RdR.one (RcAt.new w3 ⟨0, 0, sx, sy⟩)
      dsimp only at hone
      rw [HZ3.out] at hone
      have Hone := Lib.hid hone
      clear hone
      go_wp2_with fail
      rw [← HW3.out, ← Hbq.out]
      clear a0 a1 a2 a3 b0 b1 b2 b3 b0' b1' b2' b3'
      refine (HF.out _ _ Hone.out).mono ?_
      rintro e w4 ⟨z, rfl, hown, hb⟩
      have hb := belI_call (belI_box w3 (.cells #[.int .i64 0, .int .i64 0, .int .i64 sx, .int .i64 sy] 94)) hb
      obtain ⟨Az, cz, rfl⟩ := own_shape hown
      have HS4 := Lib.hid (HS3.out.call hb)
      have hq := HS3.out.q.lt
      have hq2 := HS3.out.lo
      have Hown := Lib.hid hown
      obtain ⟨r0, r1⟩ := bk_res HS4.out.r
      clear hown hb
      go_wp2_with fail
      refine bodyPost_ret (v := .agg #[.slice Az Q.length cz]) (by simp [results, Try.results56, go_sem, r0]) rfl ?_
      exact ⟨_, rfl, own_set Hown.out (by simp; omega) (by simp; omega) _, HS4.out.x.bw.setCell (by simp; omega) _⟩
     ·subst e3
      have HQM : Hid (Q = canon (gridOf ((dmL sf tf).map fun r => isect r ⟨0, 0, sx, sy⟩))) := Lib.hid (by rw [hQ]; exact dmgM_yes (s := ⟨sx, sy, sb, sf⟩) (t := ⟨sx, sy, sb, tf⟩) ⟨Hss.out, ht⟩ ⟨rfl, rfl, rfl⟩)
      have hn6 : nu ≤ 6 := by rw [HNu.out]; exact Hss.out.2.2.1
      have hN6 : N ≤ 6 := by rw [HN.out]; exact ht.2.2.1
      have HJl := Lib.hid (fun k => dmJ_len (X := dmN sf) (fun f => dmN_len sf f) sfRect sf (L := tf) ht.2.2.1 k)
      clear ht hQ
      go_enter Try.func56, Try.ntmps56
      go_wp2_with fail
      rw [← HWA.out]
      clear a0 a1 a2 a3
      refine (HSs.out _ (Rep.call HU.out HX.out.x.bw)).mono ?_
      rintro e w1 ⟨rfl, hb⟩
      have HX1 := Lib.hid (HX.out.call hb)
      have Hr1 := Lib.hid (Hr.out.call hb)
      clear hb
      obtain ⟨b0, b1, b2, b3⟩ := HX1.out.x.b.cells4
      dsimp only at b0 b1 b2 b3
      go_wp2_with fail
      refine (HSt.out _ (Rep.call HW.out HX1.out.x.bw)).mono ?_
      rintro e w2 ⟨rfl, hb⟩
      have HX2 := Lib.hid (HX1.out.call hb)
      have Hr2 := Lib.hid (Hr1.out.call hb)
      clear hb b0 b1 b2 b3 HX1 Hr1
      obtain ⟨w3, hw3⟩ : ∃ V, V = w2.alloc (.cells #[.int .i64 0, .int .i64 0, .int .i64 sx, .int .i64 sy] 94) := ⟨_, rfl⟩
      obtain ⟨bq, hbq⟩ : ∃ b, b = w2.heap.size := ⟨_, rfl⟩
      have hbx : Below w2.heap.size w2 w3 := by rw [hw3]; exact belI_box _ _
      have HS3 : Hid (DsX w ⟨sx, sy, sb, sf⟩ ⟨sx, sy, sb, tf⟩ (.slice Au nu cu) (.slice A N c) bq ⟨0, 0, sx, sy⟩ w3) := Lib.hid ⟨HX2.out.x.call hbx, Hr2.out.call hbx, by rw [hw3, hbq]; exact RcAt.new w2 ⟨0, 0, sx, sy⟩, by rw [hbq]; exact HX2.out.sz⟩
      obtain ⟨a0, a1, a2, a3⟩ := HS3.out.x.a.cells4
      obtain ⟨b0, b1, b2, b3⟩ := HS3.out.x.b.cells4
      obtain ⟨q0, q1, q2, q3⟩ := HS3.out.q.cells
      dsimp only at a0 a1 a2 a3 b0 b1 b2 b3 q0 q1 q2 q3
      obtain ⟨b0', b1', b2', b3'⟩ := HX2.out.x.b.cells4
      dsimp only at b0' b1' b2' b3'
      rw [hw3] at a0 a1 a2 a3 b0 b1 b2 b3
      have hsz3 : w3.heap.size = bq + 1 := by rw [hw3, hbq]; simp
      have HZ3 := Lib.hid hsz3
      have HW3 := Lib.hid hw3
      have Hbq := Lib.hid hbq
      clear hw3 hbq hbx hsz3 HX2 Hr2 q0 q1 q2 q3
      go_wp2_with fail
      rw [← HW3.out, ← Hbq.out]
      obtain ⟨w4, hw4⟩ : ∃ V, V = w3.alloc (.cells #[] 94) := ⟨_, rfl⟩
      have HX4 : Hid (DsX w ⟨sx, sy, sb, sf⟩ ⟨sx, sy, sb, tf⟩ (.slice Au nu cu) (.slice A N c) bq ⟨0, 0, sx, sy⟩ w4) := Lib.hid (by rw [hw4]; exact HS3.out.call (belI_box _ _))
      have HO4 : Hid (w4.ownsRow (bq + 1) 94 4 (.slice (some ⟨bq + 1, 0, none⟩) 0 0) (dmX sfRect tf (sf.take 0)).length (rcsCells (dmX sfRect tf (sf.take 0)))) := Lib.hid (by have h1 := own_nil2 w3 (bq + 1) HS3.out.q.lt; rw [HZ3.out] at h1; rw [hw4]; exact h1)
      rw [← hw4]
      clear hw4 a0 a1 a2 a3 b0 b1 b2 b3 b0' b1' b2' b3' HS3
      go_loopg [6, 7] nu (fun gk s6 s7 wr => ∃ (k : Nat) (u6 : Value) (V : World), V = wr ∧ k ≤ nu ∧ gk = nu - k ∧ s6 = u6 ∧ s7 = .int .i64 k ∧ Hid (DsX w ⟨sx, sy, sb, sf⟩ ⟨sx, sy, sb, tf⟩ (.slice Au nu cu) (.slice A N c) bq ⟨0, 0, sx, sy⟩ V) ∧ Hid (V.ownsRow (bq + 1) 94 4 u6 (dmX sfRect tf (sf.take k)).length (rcsCells (dmX sfRect tf (sf.take k)))))
      case atStart => exact ⟨0, _, _, rfl, Nat.zero_le _, by omega, rfl, rfl, HX4, HO4⟩
      case round =>
       clear HX4 HO4
       obtain ⟨k, u6, V, hV, hk, rfl, rfl, rfl, HX, HO⟩ := hrel
       subst hV
       have hS := HX.out
       have hO := HO.out
       clear HX HO
       rcases (Nat.lt_or_ge k nu).symm with hlt | hlt
       ·obtain rfl : k = nu := by omega
        have hfull : sf.take k = sf := List.take_of_length_le (by rw [← HNu.out]; exact Nat.le_refl _)
        rw [hfull] at hO
        obtain ⟨M0, hM0⟩ : ∃ M, M = dmX sfRect tf sf := ⟨_, rfl⟩
        rw [← hM0] at hO
        have HM0 : Hid (M0.length ≤ 6) := Lib.hid (by rw [hM0]; exact Nat.le_trans (dmX_len _ _ _) (by rw [← HNu.out]; exact hn6))
        have HM0e := Lib.hid hM0
        have hni : ¬ (k : Int) < (k : Int) := by omega
        obtain ⟨a0, a1, a2, a3⟩ := hS.x.a.cells4
        (try dsimp only at a0 a1 a2 a3)
        have HX5 := Lib.hid hS
        have HO5 : Hid (V.ownsRow (bq + 1) 94 4 u6 (M0 ++ dmJ (dmN sf) sfRect sf tf 0).length (rcsCells (M0 ++ dmJ (dmN sf) sfRect sf tf 0))) := Lib.hid (by rw [show dmJ (dmN sf) sfRect sf tf 0 = [] from rfl, List.append_nil]; exact hO)
        clear hfull hM0 hS hO
        go_wp2_with fail
        clear a0 a1 a2 a3
        go_loopg [6, 9] N (fun gk s6 s9 wr => ∃ (k' : Nat) (u6 : Value) (V : World), V = wr ∧ k' ≤ N ∧ gk = N - k' ∧ s6 = u6 ∧ s9 = .int .i64 k' ∧ Hid (DsX w ⟨sx, sy, sb, sf⟩ ⟨sx, sy, sb, tf⟩ (.slice Au k cu) (.slice A N c) bq ⟨0, 0, sx, sy⟩ V) ∧ Hid (V.ownsRow (bq + 1) 94 4 u6 (M0 ++ dmJ (dmN sf) sfRect sf tf k').length (rcsCells (M0 ++ dmJ (dmN sf) sfRect sf tf k'))))
        case atStart => exact ⟨0, _, _, rfl, Nat.zero_le _, by omega, rfl, rfl, HX5, HO5⟩
        case round =>
         clear HX5 HO5
         obtain ⟨k', u6, V, hV, hk', rfl, rfl, rfl, HX, HO⟩ := hrel
         subst hV
         have hS := HX.out
         have hO := HO.out
         clear HX HO
         obtain ⟨nu, hnu⟩ : ∃ n, n = k := ⟨_, rfl⟩
         subst hnu
         obtain ⟨k, hkk⟩ : ∃ n, n = k' := ⟨_, rfl⟩
         subst hkk
         rcases (Nat.lt_or_ge k N).symm with hlt | hlt
         ·obtain rfl : k = N := by omega
          obtain ⟨L0, hL0⟩ : ∃ L, L = M0 ++ dmJ (dmN sf) sfRect sf tf k := ⟨_, rfl⟩
          rw [← hL0] at hO
          have HL0 : Hid (L0 = dmL sf tf) := Lib.hid (by rw [hL0, HM0e.out, HN.out]; rfl)
          obtain ⟨n, hn⟩ : ∃ n, n = L0.length := ⟨_, rfl⟩
          have Hn60 : Hid (n ≤ 60) := Lib.hid (by rw [hn, hL0, List.length_append]; have h1 := HM0.out; have h2 := HJl.out k; omega)
          obtain ⟨A6, c6, rfl⟩ := own_shape hO
          rw [← hn] at hO ⊢
          have Hn := Lib.hid hn
          have HX6 := Lib.hid hS
          have HO6 : Hid (V.ownsRow (bq + 1) 94 4 (.slice A6 n c6) n (rcsCells ((L0.take 0).map (fun r => isect r ⟨0, 0, sx, sy⟩) ++ L0.drop 0))) := Lib.hid (by simpa using hO)
          have hni : ¬ (k : Int) < (k : Int) := by omega
          obtain ⟨b0, b1, b2, b3⟩ := hS.x.b.cells4
          (try dsimp only at b0 b1 b2 b3)
          clear hL0 hn hS hO
          go_wp2_with fail
          clear b0 b1 b2 b3
          go_loopg [13] n (fun gk s13 wr => ∃ (k' : Nat) (V : World), V = wr ∧ k' ≤ n ∧ gk = n - k' ∧ s13 = .int .i64 k' ∧ Hid (DsX w ⟨sx, sy, sb, sf⟩ ⟨sx, sy, sb, tf⟩ (.slice Au nu cu) (.slice A k c) bq ⟨0, 0, sx, sy⟩ V) ∧ Hid (V.ownsRow (bq + 1) 94 4 (.slice A6 n c6) n (rcsCells ((L0.take k').map (fun r => isect r ⟨0, 0, sx, sy⟩) ++ L0.drop k'))))
          case atStart => exact ⟨0, _, rfl, Nat.zero_le _, by omega, rfl, HX6, HO6⟩
          case round =>
           clear HX6 HO6
           obtain ⟨k', V, hV, hk', rfl, rfl, HX, HO⟩ := hrel
           subst hV
           have hS := HX.out
           have hO := HO.out
           clear HX HO
           obtain ⟨N, hNN⟩ : ∃ n, n = k := ⟨_, rfl⟩
           subst hNN
           obtain ⟨k, hkk⟩ : ∃ n, n = k' := ⟨_, rfl⟩
           subst hkk
           rcases (Nat.lt_or_ge k n).symm with hlt | hlt
           ·obtain rfl : k = n := by omega
            have hO2 : V.ownsRow (bq + 1) 94 4 (.slice A6 k c6) (L0.map (fun r => isect r ⟨0, 0, sx, sy⟩)).length (rcsCells (L0.map (fun r => isect r ⟨0, 0, sx, sy⟩))) := by
             have h1 := hO
             rw [List.take_of_length_le (by rw [← Hn.out]; exact Nat.le_refl _), List.drop_of_length_le (by rw [← Hn.out]; exact Nat.le_refl _), List.append_nil] at h1
             rw [List.length_map, ← Hn.out]
             exact h1
            have HF := rofS _ _ V (RdR.of_own hO2)
            unfold RofAns at HF
            rw [HL0.out, ← HQM.out] at HF
            have HF := Lib.hid HF
            have hni : ¬ (k : Int) < (k : Int) := by omega
            clear hO hO2
            go_wp2_with fail
            refine HF.out.mono ?_
            rintro e w9 ⟨z, rfl, hown, hb⟩
            obtain ⟨Az, cz, rfl⟩ := own_shape hown
            have HS4 := Lib.hid (hS.call hb)
            have hq := hS.q.lt
            have hq2 := hS.lo
            have Hown := Lib.hid hown
            obtain ⟨r0, r1⟩ := bk_res HS4.out.r
            clear hown hb
            go_wp2_with fail
            refine bodyPost_ret (v := .agg #[.slice Az Q.length cz]) (by simp [results, Try.results56, go_sem, r0]) rfl ?_
            exact ⟨_, rfl, own_set Hown.out (by omega) (by omega) _, HS4.out.x.bw.setCell (by simp; omega) _⟩
           ·have k0 : (0 : Int) ≤ (k : Int) := by omega
            have k1 : (k : Int) < (n : Int) := by omega
            obtain ⟨gq, rfl⟩ : ∃ gq, A6 = some ⟨gq, 0, none⟩ := by
             rcases hO.2 with ⟨he, h0⟩ | ⟨g, cap, cur, he, _⟩
             ·omega
             ·injection he with e1 _ _; exact ⟨g, e1⟩
            have hlk : k < L0.length := by rw [← Hn.out]; exact hlt
            obtain ⟨r0, hr0⟩ : ∃ r, r = L0[k]'hlk := ⟨_, rfl⟩
            obtain ⟨q0, hq0⟩ : ∃ q, q = isect r0 ⟨0, 0, sx, sy⟩ := ⟨_, rfl⟩
            have hdr : L0.drop k = r0 :: L0.drop (k + 1) := by rw [hr0]; exact List.drop_eq_getElem_cons hlk
            have hj : k = ((L0.take k).map (fun r => isect r ⟨0, 0, sx, sy⟩)).length := by rw [List.length_map, List.length_take]; omega
            have Hnx : Hid ((L0.take (k + 1)).map (fun r => isect r ⟨0, 0, sx, sy⟩) ++ L0.drop (k + 1) = (L0.take k).map (fun r => isect r ⟨0, 0, sx, sy⟩) ++ q0 :: L0.drop (k + 1)) := Lib.hid (by
             rw [List.take_add_one, List.getElem?_eq_getElem hlk, Option.toList_some, List.map_append, List.append_assoc, ← hr0, List.map_cons, List.map_nil, ← hq0]; rfl)
            rw [hdr] at hO
            have HQ := fun V => isectS_any r0 ⟨0, 0, sx, sy⟩ V
            rw [← hq0] at HQ
            dsimp only at HQ
            have HQ := Lib.hid HQ
            have Hj := Lib.hid hj
            have Hkn := Lib.hid hlt
            clear hlk hr0 hq0 hdr hj
            go_upto_region 28 with fail
            refine wp_region_held_drew (S := fun V => DsX w ⟨sx, sy, sb, sf⟩ ⟨sx, sy, sb, tf⟩ (.slice Au nu cu) (.slice A N c) bq ⟨0, 0, sx, sy⟩ V) (by kernel_rfl) (hS.call (belI_drew _)) (fun hS => ?_)
            replace hO := own_call2 hO (belI_drew _)
            refine tkH (i := 0) (v := .slice (some ⟨gq, 0, none⟩) n c6) rfl ?_
            refine tkH (i := 1) (v := .int .i64 (k : Int)) rfl ?_
            refine tkH (i := 2) (v := .slice (some ⟨gq, 0, none⟩) n c6) rfl ?_
            refine tkH (i := 3) (v := .int .i64 (k : Int)) rfl ?_
            refine tkH (i := 4) (v := .pointer (some ⟨gq, k * 4, none⟩)) rfl ?_
            refine tcH (i := 6) (v := .agg #[.int .i64 0, .int .i64 0, .int .i64 sx, .int .i64 sy]) rfl (by intro w' hSw; (try dsimp only at hSw); (obtain ⟨e0, e1, e2, e3⟩ := hSw.q.cells); ((try dsimp only at e0 e1 e2 e3)); go_simp) ?_
            (try simp only [Act.put]); (try simp only [zPa]); (try simp only [zPb, zPc])
            refine wpAnyH_ready (rs := [5]) (by kernel_rfl) (by simp) ?_
            refine (AllReadyH.cons rfl (fun K hK => ?_) AllReadyH.nil)
            ·rw [if_pos (by kernel_rfl)]
             (try simp only [zGa]); (try simp only [zGb]); (try simp only [zGc])
             with_reducible refine wp_load_mid 94 (.tmp 177) (by kernel_rfl) gq (k * 4) (by first | with_reducible rfl | (go_simp; done) | rfl) [.int .i64 r0.x, .int .i64 r0.y, .int .i64 r0.w, .int .i64 r0.h] _ (own_range4 hO Hj.out) Try.underlying94 (by kernel_rfl) (by kernel_rfl) ?_
             skip
             refine hK.out _ _ (hS) (fun hS => ?_)
             clear hK
             (try simp only [Act.put]); (try simp only [zPa]); (try simp only [zPb, zPc])
             refine wpAnyH_ready (rs := [7]) (by kernel_rfl) (by simp) ?_
             refine (AllReadyH.cons rfl (fun K hK => ?_) AllReadyH.nil)
             ·rw [if_pos (by kernel_rfl)]
              (try simp only [zGa]); (try simp only [zGb]); (try simp only [zGc])
              go_simp
              with_reducible refine (HQ.out _).mono ?_
              rintro e W' ⟨rfl, hb⟩
              dsimp only
              have hO := own_call2 hO hb
              refine hK.out _ _ (hS.call hb) (fun hS => ?_)
              clear hK
              (try simp only [Act.put]); (try simp only [zPa]); (try simp only [zPb, zPc])
              refine tkH (i := 8) (v := .pointer (some ⟨gq, k * 4, none⟩)) rfl ?_
              (try simp only [Act.put]); (try simp only [zPa]); (try simp only [zPb, zPc])
              refine wpAnyH_ready (rs := [9]) (by kernel_rfl) (by simp) ?_
              refine (AllReadyH.cons rfl (fun K hK => ?_) AllReadyH.nil)
              ·rw [if_pos (by kernel_rfl)]
               (try simp only [zGa]); (try simp only [zGb]); (try simp only [zGc])
               refine wp_store_mid 94 (.tmp 181) (.tmp 180) rfl gq (k * 4) #[.int .i64 q0.x, .int .i64 q0.y, .int .i64 q0.w, .int .i64 q0.h] (by first | with_reducible rfl | (go_simp; done) | rfl) (by first | with_reducible rfl | (go_simp; done) | rfl) (own_there4 hO Hkn.out) (by kernel_rfl) (by simp [Value.oneCell']) ?_
               obtain ⟨hO9, hg9⟩ := own_put4 hO Hj.out q0.x q0.y q0.w q0.h
               skip
               refine hK.out _ _ (hS.grown hO hg9) (fun hS => ?_)
               clear hK
               (try simp only [Act.put]); (try simp only [zPa]); (try simp only [zPb, zPc])
               refine wpAnyH_done (by kernel_rfl) ?_ _
               have HO9 := Lib.hid hO9
               have hn60 := Hn60.out
               clear hO9 hg9
               go_wp2_with fail
               go_roundg (n - (k + 1))
               case measure => omega
               case rel => exact ⟨k + 1, _, rfl, by omega, rfl, by have := Hn60.out; go_num, Lib.hid hS, Lib.hid (by rw [Hnx.out]; exact HO9.out)⟩
         ·have k0 : (0 : Int) ≤ (k : Int) := by omega
          have k1 : (k : Int) < (N : Int) := by omega
          obtain ⟨gt, f, d_f, bd_f, rfl, hf_f, hC, hd, hbd⟩ := pl_d HW.out (k := k) (by have := HN.out; omega)
          obtain ⟨⟨A_f, c_f, rfl⟩, _⟩ := ints_form hd
          have HC_f : Hid (∀ V' : World, Below w.heap.size w V' → C11 V' gt (k * 11) f (.slice A_f f.data.length c_f) ∧ RdI V' (.slice A_f f.data.length c_f) f.data) := Lib.hid fun V' hb => ⟨hC.call hb, repInts_rd (Rep.call hd hb)⟩
          have Hf_f := Lib.hid hf_f
          clear hC hd hbd hf_f
          have Hnx := Lib.hid (dmJ_next (X := dmN sf) (R := sfRect) (a := sf) Hf_f.out)
          obtain ⟨q1, hq1⟩ : ∃ q, q = sfRect f := ⟨_, rfl⟩
          have HR1 := fun V hh => srS f (.slice A_f f.data.length c_f) V hh
          unfold SrAns RcAns at HR1
          rw [← hq1] at HR1
          have HR1 := Lib.hid HR1
          have Hq1 := Lib.hid hq1
          have Hol : Hid ((M0 ++ dmJ (dmN sf) sfRect sf tf k).length ≤ 60) := Lib.hid (by rw [List.length_append]; have h1 := HM0.out; have h2 := HJl.out k; omega)
          obtain ⟨i, hi_⟩ : ∃ i, i = idxF sf f.id := ⟨_, rfl⟩
          have HIX := fun V hh => idxS ⟨sx, sy, sb, sf⟩ f.id (.slice Au nu cu) bu V hh
          unfold IdxAns at HIX
          dsimp only at HIX
          rw [← hi_] at HIX
          have HIX := Lib.hid HIX
          have HI := Lib.hid hi_
          clear hq1 hi_
          obtain ⟨b0, b1, b2, b3⟩ := hS.x.b.cells4
          (try dsimp only at b0 b1 b2 b3)
          go_upto_region 16 with fail
          clear b0 b1 b2 b3
          refine wp_region_held_drew (S := fun V => DsX w ⟨sx, sy, sb, sf⟩ ⟨sx, sy, sb, tf⟩ (.slice Au nu cu) (.slice (some ⟨gt, 0, none⟩) N c) bq ⟨0, 0, sx, sy⟩ V) (by kernel_rfl) (hS.call (belI_drew _)) (fun hS => ?_)
          replace hO := own_call2 hO (belI_drew _)
          refine tcH (i := 0) (v := .agg #[.int .i64 sx, .int .i64 sy, .int .i64 sb, .slice Au nu cu]) rfl (by intro w' hSw; (try dsimp only at hSw); (obtain ⟨e0, e1, e2, e3⟩ := hSw.x.a.cells4); ((try dsimp only at e0 e1 e2 e3)); go_simp) ?_
          refine tkH (i := 1) (v := .pointer (some ⟨w.heap.size + 1, 3, none⟩)) rfl ?_
          refine tcH (i := 2) (v := .slice (some ⟨gt, 0, none⟩) N c) rfl (by intro w' hSw; (try dsimp only at hSw); (obtain ⟨e0, e1, e2, e3⟩ := hSw.x.b.cells4); ((try dsimp only at e0 e1 e2 e3)); go_simp) ?_
          refine tkH (i := 3) (v := .int .i64 (k : Int)) rfl ?_
          refine tkH (i := 4) (v := .pointer (some ⟨gt, k * 11, none⟩)) rfl ?_
          refine tkH (i := 5) (v := .pointer (some ⟨gt, k * 11, none⟩)) rfl ?_
          refine tcH (i := 6) (v := .int .i64 f.id) rfl (by intro w' hSw; (try dsimp only at hSw); (obtain ⟨c0, c1, c2, c3, c4, c5, c6, c7, c8, c9, c10⟩ := (HC_f.out _ hSw.x.bw).1); go_simp) ?_
          (try simp only [Act.put]); (try simp only [zPa]); (try simp only [zPb, zPc])
          refine wpAnyH_ready (rs := [7]) (by kernel_rfl) (by simp) ?_
          refine (AllReadyH.cons rfl (fun K hK => ?_) AllReadyH.nil)
          ·rw [if_pos (by kernel_rfl)]
           (try simp only [zGa]); (try simp only [zGb]); (try simp only [zGc])
           go_simp
           with_reducible refine (HIX.out _ (Rep.call HU.out hS.x.bw)).mono ?_
           rintro e W' ⟨rfl, hb⟩
           dsimp only
           have hO := own_call2 hO hb
           refine hK.out _ _ (hS.call hb) (fun hS => ?_)
           clear hK
           (try simp only [Act.put]); (try simp only [zPa]); (try simp only [zPb, zPc])
           refine tkH (i := 8) (v := .int .i64 i) rfl ?_
           go_simp
           refine wpAnyH_done (by kernel_rfl) ?_ _
           go_upto_region 17 with fail
           go_cut [121] (fun s121 wx => ∃ (b : Bool) (V : World), V = wx ∧ s121 = .bool b ∧ Hid (b = true ↔ f ∉ sf) ∧ Hid (DsX w ⟨sx, sy, sb, sf⟩ ⟨sx, sy, sb, tf⟩ (.slice Au nu cu) (.slice (some ⟨gt, 0, none⟩) N c) bq ⟨0, 0, sx, sy⟩ V) ∧ Hid (V.ownsRow (bq + 1) 94 4 u6 (M0 ++ dmJ (dmN sf) sfRect sf tf k).length (rcsCells (M0 ++ dmJ (dmN sf) sfRect sf tf k))))
           case first =>
            rcases ids_case (L := sf) (ids_ok Hss.out) f with ⟨hi1, hno⟩ | ⟨j, g0, hj1, hg0, -, hiff⟩
            ·obtain rfl : i = -1 := by rw [HI.out]; exact hi1
             clear hi1
             refine wp_region_held_drew (S := fun V => DsX w ⟨sx, sy, sb, sf⟩ ⟨sx, sy, sb, tf⟩ (.slice Au nu cu) (.slice (some ⟨gt, 0, none⟩) N c) bq ⟨0, 0, sx, sy⟩ V) (by kernel_rfl) (hS.call (belI_drew _)) (fun hS => ?_)
             replace hO := own_call2 hO (belI_drew _)
             refine tkH (i := 0) (v := .int .i64 (-1)) rfl ?_
             refine tkH (i := 1) (v := .bool true) rfl ?_
             refine tkH (i := 2) (v := .bool true) rfl ?_
             refine tnH (i := 3) rfl ?_
             refine tnH (i := 4) rfl ?_
             refine tnH (i := 5) rfl ?_
             refine tnH (i := 6) rfl ?_
             refine tnH (i := 7) rfl ?_
             refine tnH (i := 8) rfl ?_
             refine tnH (i := 9) rfl ?_
             refine tnH (i := 10) rfl ?_
             refine tnH (i := 11) rfl ?_
             refine tnH (i := 12) rfl ?_
             refine tnH (i := 13) rfl ?_
             refine tnH (i := 14) rfl ?_
             refine tkH (i := 15) (v := .bool true) rfl ?_
             go_simp
             refine wpAnyH_done (by kernel_rfl) ?_ _
             go_wp2_with fail
             go_meet
             case rel => exact ⟨true, _, rfl, rfl, Lib.hid ⟨fun _ => hno, fun _ => rfl⟩, Lib.hid hS, Lib.hid hO⟩
            ·obtain rfl : i = (j : Int) := by rw [HI.out]; exact hj1
             have hjl : j < sf.length := (List.getElem?_eq_some_iff.1 hg0).1
             obtain ⟨gs, g, d_g, bd_g, rfl, hf_g, hC, hd, hbd⟩ := pl_d HU.out (k := j) (by have := HNu.out; exact hjl)
             obtain ⟨⟨A_g, c_g, rfl⟩, _⟩ := ints_form hd
             have HC_g : Hid (∀ V' : World, Below w.heap.size w V' → C11 V' gs (j * 11) g (.slice A_g g.data.length c_g) ∧ RdI V' (.slice A_g g.data.length c_g) g.data) := Lib.hid fun V' hb => ⟨hC.call hb, repInts_rd (Rep.call hd hb)⟩
             have Hf_g := Lib.hid hf_g
             clear hC hd hbd hf_g
             obtain rfl : g0 = g := by have := Hf_g.out; rw [hg0] at this; exact Option.some.inj this
             have HS1 := fun V h1 h2 => ssS g0 f (.slice A_g g0.data.length c_g) (.slice A_f f.data.length c_f) V h1 h2
             unfold SsAns at HS1
             have j0 : (0 : Int) ≤ (j : Int) := by omega
             have j1 : (j : Int) < (nu : Int) := by have := HNu.out; omega
             have hjn : ¬ (j : Int) < 0 := by omega
             clear hj1 hg0 hjl
             by_cases e : f = g0
             ·rw [show ssB g0 f = true from ssB_iff.2 e.symm] at HS1
              have HS1 := Lib.hid HS1
              have hin := Lib.hid (hiff.2 e)
              clear e hiff
              refine wp_region_held_drew (S := fun V => DsX w ⟨sx, sy, sb, sf⟩ ⟨sx, sy, sb, tf⟩ (.slice (some ⟨gs, 0, none⟩) nu cu) (.slice (some ⟨gt, 0, none⟩) N c) bq ⟨0, 0, sx, sy⟩ V) (by kernel_rfl) (hS.call (belI_drew _)) (fun hS => ?_)
              replace hO := own_call2 hO (belI_drew _)
              refine tkH (i := 0) (v := .int .i64 (j : Int)) rfl ?_
              refine tkH (i := 1) (v := .bool false) rfl ?_
              refine tkH (i := 2) (v := .bool false) rfl ?_
              refine tkH (i := 3) (v := .pointer (some ⟨w.heap.size, 3, none⟩)) rfl ?_
              refine tcH (i := 4) (v := .slice (some ⟨gs, 0, none⟩) nu cu) rfl (by intro w' hSw; (try dsimp only at hSw); (obtain ⟨e0, e1, e2, e3⟩ := hSw.x.a.cells4); ((try dsimp only at e0 e1 e2 e3)); go_simp) ?_
              refine tkH (i := 5) (v := .int .i64 (j : Int)) rfl ?_
              refine tkH (i := 6) (v := .pointer (some ⟨gs, j * 11, none⟩)) rfl ?_
              refine tcH (i := 7) (v := .agg #[.int .i64 g0.id, .int .i64 g0.x, .int .i64 g0.y, .int .i64 g0.w, .int .i64 g0.h, .int .i64 g0.alpha, .int .i64 g0.orient, .bool g0.vis, .int .i64 g0.bw, .int .i64 g0.bh, .slice A_g g0.data.length c_g]) rfl (by intro w' hSw; (try dsimp only at hSw); (obtain ⟨c0, c1, c2, c3, c4, c5, c6, c7, c8, c9, c10⟩ := (HC_g.out _ hSw.x.bw).1); go_simp) ?_
              refine tkH (i := 8) (v := .pointer (some ⟨w.heap.size + 1, 3, none⟩)) rfl ?_
              refine tcH (i := 9) (v := .slice (some ⟨gt, 0, none⟩) N c) rfl (by intro w' hSw; (try dsimp only at hSw); (obtain ⟨e0, e1, e2, e3⟩ := hSw.x.b.cells4); ((try dsimp only at e0 e1 e2 e3)); go_simp) ?_
              refine tkH (i := 10) (v := .int .i64 (k : Int)) rfl ?_
              refine tkH (i := 11) (v := .pointer (some ⟨gt, k * 11, none⟩)) rfl ?_
              refine tcH (i := 12) (v := .agg #[.int .i64 f.id, .int .i64 f.x, .int .i64 f.y, .int .i64 f.w, .int .i64 f.h, .int .i64 f.alpha, .int .i64 f.orient, .bool f.vis, .int .i64 f.bw, .int .i64 f.bh, .slice A_f f.data.length c_f]) rfl (by intro w' hSw; (try dsimp only at hSw); (obtain ⟨c0, c1, c2, c3, c4, c5, c6, c7, c8, c9, c10⟩ := (HC_f.out _ hSw.x.bw).1); go_simp) ?_
              (try simp only [Act.put]); (try simp only [zPa]); (try simp only [zPb, zPc])
              refine wpAnyH_ready (rs := [13]) (by kernel_rfl) (by simp) ?_
              refine (AllReadyH.cons rfl (fun K hK => ?_) AllReadyH.nil)
              ·rw [if_pos (by kernel_rfl)]
               (try simp only [zGa]); (try simp only [zGb]); (try simp only [zGc])
               go_simp
               with_reducible refine (HS1.out _ (HC_g.out _ hS.x.bw).2 (HC_f.out _ hS.x.bw).2).mono ?_
               rintro e W' ⟨rfl, hb⟩
               dsimp only
               have hO := own_call2 hO hb
               refine hK.out _ _ (hS.call hb) (fun hS => ?_)
               clear hK
               (try simp only [Act.put]); (try simp only [zPa]); (try simp only [zPb, zPc])
               refine tkH (i := 14) (v := .bool false) rfl ?_
               refine tkH (i := 15) (v := .bool false) rfl ?_
               refine wpAnyH_done (by kernel_rfl) ?_ _
               go_wp2_with fail
               go_meet
               case rel => exact ⟨false, _, rfl, rfl, Lib.hid ⟨fun h => (by cases h), fun h => absurd hin.out h⟩, Lib.hid hS, Lib.hid hO⟩
             ·rw [show ssB g0 f = false from ssB_no fun h => e h.symm] at HS1
              have HS1 := Lib.hid HS1
              have hin := Lib.hid (fun h => e (hiff.1 h))
              clear e hiff
              refine wp_region_held_drew (S := fun V => DsX w ⟨sx, sy, sb, sf⟩ ⟨sx, sy, sb, tf⟩ (.slice (some ⟨gs, 0, none⟩) nu cu) (.slice (some ⟨gt, 0, none⟩) N c) bq ⟨0, 0, sx, sy⟩ V) (by kernel_rfl) (hS.call (belI_drew _)) (fun hS => ?_)
              replace hO := own_call2 hO (belI_drew _)
              refine tkH (i := 0) (v := .int .i64 (j : Int)) rfl ?_
              refine tkH (i := 1) (v := .bool false) rfl ?_
              refine tkH (i := 2) (v := .bool false) rfl ?_
              refine tkH (i := 3) (v := .pointer (some ⟨w.heap.size, 3, none⟩)) rfl ?_
              refine tcH (i := 4) (v := .slice (some ⟨gs, 0, none⟩) nu cu) rfl (by intro w' hSw; (try dsimp only at hSw); (obtain ⟨e0, e1, e2, e3⟩ := hSw.x.a.cells4); ((try dsimp only at e0 e1 e2 e3)); go_simp) ?_
              refine tkH (i := 5) (v := .int .i64 (j : Int)) rfl ?_
              refine tkH (i := 6) (v := .pointer (some ⟨gs, j * 11, none⟩)) rfl ?_
              refine tcH (i := 7) (v := .agg #[.int .i64 g0.id, .int .i64 g0.x, .int .i64 g0.y, .int .i64 g0.w, .int .i64 g0.h, .int .i64 g0.alpha, .int .i64 g0.orient, .bool g0.vis, .int .i64 g0.bw, .int .i64 g0.bh, .slice A_g g0.data.length c_g]) rfl (by intro w' hSw; (try dsimp only at hSw); (obtain ⟨c0, c1, c2, c3, c4, c5, c6, c7, c8, c9, c10⟩ := (HC_g.out _ hSw.x.bw).1); go_simp) ?_
              refine tkH (i := 8) (v := .pointer (some ⟨w.heap.size + 1, 3, none⟩)) rfl ?_
              refine tcH (i := 9) (v := .slice (some ⟨gt, 0, none⟩) N c) rfl (by intro w' hSw; (try dsimp only at hSw); (obtain ⟨e0, e1, e2, e3⟩ := hSw.x.b.cells4); ((try dsimp only at e0 e1 e2 e3)); go_simp) ?_
              refine tkH (i := 10) (v := .int .i64 (k : Int)) rfl ?_
              refine tkH (i := 11) (v := .pointer (some ⟨gt, k * 11, none⟩)) rfl ?_
              refine tcH (i := 12) (v := .agg #[.int .i64 f.id, .int .i64 f.x, .int .i64 f.y, .int .i64 f.w, .int .i64 f.h, .int .i64 f.alpha, .int .i64 f.orient, .bool f.vis, .int .i64 f.bw, .int .i64 f.bh, .slice A_f f.data.length c_f]) rfl (by intro w' hSw; (try dsimp only at hSw); (obtain ⟨c0, c1, c2, c3, c4, c5, c6, c7, c8, c9, c10⟩ := (HC_f.out _ hSw.x.bw).1); go_simp) ?_
              (try simp only [Act.put]); (try simp only [zPa]); (try simp only [zPb, zPc])
              refine wpAnyH_ready (rs := [13]) (by kernel_rfl) (by simp) ?_
              refine (AllReadyH.cons rfl (fun K hK => ?_) AllReadyH.nil)
              ·rw [if_pos (by kernel_rfl)]
               (try simp only [zGa]); (try simp only [zGb]); (try simp only [zGc])
               go_simp
               with_reducible refine (HS1.out _ (HC_g.out _ hS.x.bw).2 (HC_f.out _ hS.x.bw).2).mono ?_
               rintro e W' ⟨rfl, hb⟩
               dsimp only
               have hO := own_call2 hO hb
               refine hK.out _ _ (hS.call hb) (fun hS => ?_)
               clear hK
               (try simp only [Act.put]); (try simp only [zPa]); (try simp only [zPb, zPc])
               refine tkH (i := 14) (v := .bool true) rfl ?_
               refine tkH (i := 15) (v := .bool true) rfl ?_
               refine wpAnyH_done (by kernel_rfl) ?_ _
               go_wp2_with fail
               go_meet
               case rel => exact ⟨true, _, rfl, rfl, Lib.hid ⟨fun _ => hin.out, fun _ => rfl⟩, Lib.hid hS, Lib.hid hO⟩
           case rest =>
            obtain ⟨b, V2, hV2, rfl, Hb, HX2, HO2⟩ := hcut
            subst hV2
            clear hS hO
            have hS := HX2.out
            have hO := HO2.out
            clear HX2 HO2
            go_upto_if 121 with fail
            go_cut [6] (fun s6 wx => ∃ (u6 : Value) (V : World), V = wx ∧ s6 = u6 ∧ Hid (DsX w ⟨sx, sy, sb, sf⟩ ⟨sx, sy, sb, tf⟩ (.slice Au nu cu) (.slice (some ⟨gt, 0, none⟩) N c) bq ⟨0, 0, sx, sy⟩ V) ∧ Hid (V.ownsRow (bq + 1) 94 4 u6 ((M0 ++ dmJ (dmN sf) sfRect sf tf k) ++ dmN sf f).length (rcsCells ((M0 ++ dmJ (dmN sf) sfRect sf tf k) ++ dmN sf f))))
            case first =>
             cases b
             ·have hin : f ∈ sf := Classical.byContradiction fun h => by have := Hb.out.2 h; cases this
              have Hx := Lib.hid (dmN_yes hin)
              clear hin
              go_wp2_with fail
              go_meet
              case rel => exact ⟨_, _, rfl, rfl, Lib.hid hS, Lib.hid (by rw [Hx.out, List.append_nil]; exact hO)⟩
             ·have Hx := Lib.hid (show dmN sf f = [q1] by rw [dmN_no (Hb.out.1 rfl), Hq1.out])
              obtain ⟨a0, a1, a2, a3⟩ := hS.x.b.cells4
              (try dsimp only at a0 a1 a2 a3)
              obtain ⟨c0, c1, c2, c3, c4, c5, c6, c7, c8, c9, c10⟩ := (HC_f.out _ hS.x.bw).1
              go_wp2_with fail
              refine (HR1.out _ (HC_f.out _ hS.x.bw).2).mono ?_
              rintro e w3 ⟨rfl, hb⟩
              replace hS := hS.call hb
              replace hO := own_call2 hO hb
              clear hb a0 a1 a2 a3 c0 c1 c2 c3 c4 c5 c6 c7 c8 c9 c10
              have hq1 := hS.q.lt
              have hol := Hol.out
              go_wp2_with (at_builtin; refine wpList_append_own _ rfl _ _ 83 rfl (bq + 1) 94 i0 (.agg #[.int .i64 0, .int .i64 0, .int .i64 0, .int .i64 0]) 4 32 Try.underlying83 hi hz0 hz1 hz2 rfl (by decide) _ _ _ rfl (hO.alloc _) ⟨_, 0, none⟩ 1 1 [.int .i64 q1.x, .int .i64 q1.y, .int .i64 q1.w, .int .i64 q1.h] rfl rfl (World.news_of_block (cs := #[.int .i64 q1.x, .int .i64 q1.y, .int .i64 q1.w, .int .i64 q1.h]) (fr := (0, 0)) (heap_alloc_new _ _)) (by intro u hu; simp at hu; rcases hu with rfl | rfl | rfl | rfl <;> rfl) (by unfold maxLen; omega) (by omega) (by have := hq1; simp; omega) ?_)
              intro v4 w4 hO4 hgr _
              have hbx := belI_box w3 (.cells #[.int .i64 q1.x, .int .i64 q1.y, .int .i64 q1.w, .int .i64 q1.h] 94)
              have hO3 := own_call2 hO hbx
              have hS4 := (hS.call hbx).grown hO3 hgr
              clear hgr hbx hO3 hq1 hol hS hO
              go_wp2_with fail
              go_meet
              case rel => exact ⟨_, _, rfl, rfl, Lib.hid hS4, Lib.hid (by rw [Hx.out, rcsCells_append, List.length_append, List.length_append]; exact hO4)⟩
            case rest =>
             obtain ⟨u7, V3, hV3, rfl, HX3, HO3⟩ := hcut
             subst hV3
             iterate 8 (try clear hO)
             iterate 8 (try clear hS)
             obtain ⟨Mk, hMk⟩ : ∃ M, M = (M0 ++ dmJ (dmN sf) sfRect sf tf k) ++ dmN sf f := ⟨_, rfl⟩
             have HMl : Hid (Mk.length ≤ 50) := Lib.hid (by rw [hMk, List.length_append, List.length_append]; have h1 := HM0.out; have h2 := HJl.out k; have h3 := dmN_len sf f; omega)
             have hO3 := HO3.out
             rw [← hMk] at hO3
             have HO4 : Hid (V3.ownsRow (bq + 1) 94 4 u6 (Mk ++ dmIn sfRect sf f (tf.take 0)).length (rcsCells (Mk ++ dmIn sfRect sf f (tf.take 0)))) := Lib.hid (by rw [List.take_zero, show dmIn sfRect sf f [] = [] from rfl, List.append_nil]; exact hO3)
             have HMk := Lib.hid hMk
             clear hO3 hMk HO3
             go_wp2_with fail
             go_loopg [6, 11] k (fun gk s6 s11 wr => ∃ (m : Nat) (u6 : Value) (V : World), V = wr ∧ m ≤ k ∧ gk = k - m ∧ s6 = u6 ∧ s11 = .int .i64 m ∧ Hid (DsX w ⟨sx, sy, sb, sf⟩ ⟨sx, sy, sb, tf⟩ (.slice Au nu cu) (.slice (some ⟨gt, 0, none⟩) N c) bq ⟨0, 0, sx, sy⟩ V) ∧ Hid (V.ownsRow (bq + 1) 94 4 u6 (Mk ++ dmIn sfRect sf f (tf.take m)).length (rcsCells (Mk ++ dmIn sfRect sf f (tf.take m)))))
             case atStart => exact ⟨0, _, _, rfl, Nat.zero_le _, by omega, rfl, rfl, HX3, HO4⟩
             case round =>
              clear HX3 HO4
              obtain ⟨m, u6, V, hV, hm, rfl, rfl, rfl, HX, HO⟩ := hrel
              subst hV
              have hS := HX.out
              have hO := HO.out
              clear HX HO
              rcases (Nat.lt_or_ge m k).symm with hlm | hlm
              ·obtain rfl : m = k := by omega
               have hni : ¬ (m : Int) < (m : Int) := by omega
               have HO5 : Hid (V.ownsRow (bq + 1) 94 4 u6 (M0 ++ dmJ (dmN sf) sfRect sf tf (m + 1)).length (rcsCells (M0 ++ dmJ (dmN sf) sfRect sf tf (m + 1)))) := Lib.hid (by rw [Hnx.out, ← List.append_assoc, ← List.append_assoc, ← HMk.out]; exact hO)
               clear hO
               go_wp2_with fail
               go_roundg (N - (m + 1))
               case measure => omega
               case rel => exact ⟨m + 1, _, _, rfl, by omega, rfl, rfl, by go_num, Lib.hid hS, HO5⟩
              ·have m0 : (0 : Int) ≤ (m : Int) := by omega
               have m1 : (m : Int) < (k : Int) := by omega
               have m2 : (m : Int) < (N : Int) := by omega
               obtain ⟨gt', h, d_h, bd_h, egt, hf_h, hC, hd, hbd⟩ := pl_d HW.out (k := m) (by have := HN.out; omega)
               obtain ⟨⟨A_h, c_h, rfl⟩, _⟩ := ints_form hd
               have HC_h : Hid (∀ V' : World, Below w.heap.size w V' → C11 V' gt' (m * 11) h (.slice A_h h.data.length c_h) ∧ RdI V' (.slice A_h h.data.length c_h) h.data) := Lib.hid fun V' hb => ⟨hC.call hb, repInts_rd (Rep.call hd hb)⟩
               have Hf_h := Lib.hid hf_h
               clear hC hd hbd hf_h
               obtain rfl : gt = gt' := by injection egt with egt; injection egt
               have Hnm := Lib.hid (dmIn_take (R := sfRect) (a := sf) (f := f) Hf_h.out)
               obtain ⟨q2, hq2⟩ : ∃ q, q = sfRect h := ⟨_, rfl⟩
               have HR2 := fun V hh => srS h (.slice A_h h.data.length c_h) V hh
               unfold SrAns RcAns at HR2
               rw [← hq2] at HR2
               have HR2 := Lib.hid HR2
               obtain ⟨q3, hq3⟩ : ∃ q, q = isect q1 q2 := ⟨_, rfl⟩
               rw [← Hq1.out, ← hq2, ← hq3] at Hnm
               have HQ := fun V => isectS_any q1 q2 V
               rw [← hq3] at HQ
               have HQ := Lib.hid HQ
               have hln : (Mk ++ dmIn sfRect sf f (tf.take m)).length ≤ 60 := by
                rw [List.length_append]
                have h1 := HMl.out
                have h2 := dmIn_len sfRect sf f (tf.take m)
                rw [List.length_take] at h2
                omega
               have Hln := Lib.hid hln
               obtain ⟨i2, hi2⟩ : ∃ i, i = idxF sf h.id := ⟨_, rfl⟩
               have HIX2 := fun V hh => idxS ⟨sx, sy, sb, sf⟩ h.id (.slice Au nu cu) bu V hh
               unfold IdxAns at HIX2
               dsimp only at HIX2
               rw [← hi2] at HIX2
               have HIX2 := Lib.hid HIX2
               have HI2 := Lib.hid hi2
               clear hq2 hq3 hln hi2
               go_upto_region 22 with fail
               refine wp_region_held_drew (S := fun V => DsX w ⟨sx, sy, sb, sf⟩ ⟨sx, sy, sb, tf⟩ (.slice Au nu cu) (.slice (some ⟨gt, 0, none⟩) N c) bq ⟨0, 0, sx, sy⟩ V) (by kernel_rfl) (hS.call (belI_drew _)) (fun hS => ?_)
               replace hO := own_call2 hO (belI_drew _)
               refine tcH (i := 0) (v := .agg #[.int .i64 sx, .int .i64 sy, .int .i64 sb, .slice Au nu cu]) rfl (by intro w' hSw; (try dsimp only at hSw); (obtain ⟨e0, e1, e2, e3⟩ := hSw.x.a.cells4); ((try dsimp only at e0 e1 e2 e3)); go_simp) ?_
               refine tkH (i := 1) (v := .pointer (some ⟨w.heap.size + 1, 3, none⟩)) rfl ?_
               refine tcH (i := 2) (v := .slice (some ⟨gt, 0, none⟩) N c) rfl (by intro w' hSw; (try dsimp only at hSw); (obtain ⟨e0, e1, e2, e3⟩ := hSw.x.b.cells4); ((try dsimp only at e0 e1 e2 e3)); go_simp) ?_
               refine tkH (i := 3) (v := .int .i64 (m : Int)) rfl ?_
               refine tkH (i := 4) (v := .pointer (some ⟨gt, m * 11, none⟩)) rfl ?_
               refine tkH (i := 5) (v := .pointer (some ⟨gt, m * 11, none⟩)) rfl ?_
               refine tcH (i := 6) (v := .int .i64 h.id) rfl (by intro w' hSw; (try dsimp only at hSw); (obtain ⟨c0, c1, c2, c3, c4, c5, c6, c7, c8, c9, c10⟩ := (HC_h.out _ hSw.x.bw).1); go_simp) ?_
               (try simp only [Act.put]); (try simp only [zPa]); (try simp only [zPb, zPc])
               refine wpAnyH_ready (rs := [7]) (by kernel_rfl) (by simp) ?_
               refine (AllReadyH.cons rfl (fun K hK => ?_) AllReadyH.nil)
               ·rw [if_pos (by kernel_rfl)]
                (try simp only [zGa]); (try simp only [zGb]); (try simp only [zGc])
                go_simp
                with_reducible refine (HIX2.out _ (Rep.call HU.out hS.x.bw)).mono ?_
                rintro e W' ⟨rfl, hb⟩
                dsimp only
                have hO := own_call2 hO hb
                refine hK.out _ _ (hS.call hb) (fun hS => ?_)
                clear hK
                (try simp only [Act.put]); (try simp only [zPa]); (try simp only [zPb, zPc])
                refine tkH (i := 8) (v := .int .i64 i2) rfl ?_
                go_simp
                refine wpAnyH_done (by kernel_rfl) ?_ _
                by_cases h0 : 0 ≤ i
                ·by_cases h1 : i < i2
                 ·have hup : dmUp sf f h := by unfold dmUp; rw [← HI.out, ← HI2.out]; exact ⟨h0, h1⟩
                  have Hnm := Lib.hid (show dmIn sfRect sf f (tf.take (m + 1)) = dmIn sfRect sf f (tf.take m) ++ [q3] by rw [Hnm.out, if_pos hup])
                  clear hup
                  go_upto_region 24 with fail
                  refine wp_region_held_drew (S := fun V => DsX w ⟨sx, sy, sb, sf⟩ ⟨sx, sy, sb, tf⟩ (.slice Au nu cu) (.slice (some ⟨gt, 0, none⟩) N c) bq ⟨0, 0, sx, sy⟩ V) (by kernel_rfl) (hS.call (belI_drew _)) (fun hS => ?_)
                  replace hO := own_call2 hO (belI_drew _)
                  refine tkH (i := 0) (v := u6) rfl ?_
                  refine tkH (i := 1) (v := .pointer (some ⟨w.heap.size + 1, 3, none⟩)) rfl ?_
                  refine tcH (i := 2) (v := .slice (some ⟨gt, 0, none⟩) N c) rfl (by intro w' hSw; (try dsimp only at hSw); (obtain ⟨e0, e1, e2, e3⟩ := hSw.x.b.cells4); ((try dsimp only at e0 e1 e2 e3)); go_simp) ?_
                  refine tkH (i := 3) (v := .int .i64 (k : Int)) rfl ?_
                  refine tkH (i := 4) (v := .pointer (some ⟨gt, k * 11, none⟩)) rfl ?_
                  refine tcH (i := 5) (v := .agg #[.int .i64 f.id, .int .i64 f.x, .int .i64 f.y, .int .i64 f.w, .int .i64 f.h, .int .i64 f.alpha, .int .i64 f.orient, .bool f.vis, .int .i64 f.bw, .int .i64 f.bh, .slice A_f f.data.length c_f]) rfl (by intro w' hSw; (try dsimp only at hSw); (obtain ⟨c0, c1, c2, c3, c4, c5, c6, c7, c8, c9, c10⟩ := (HC_f.out _ hSw.x.bw).1); go_simp) ?_
                  refine tkH (i := 7) (v := .pointer (some ⟨w.heap.size + 1, 3, none⟩)) rfl ?_
                  refine tcH (i := 8) (v := .slice (some ⟨gt, 0, none⟩) N c) rfl (by intro w' hSw; (try dsimp only at hSw); (obtain ⟨e0, e1, e2, e3⟩ := hSw.x.b.cells4); ((try dsimp only at e0 e1 e2 e3)); go_simp) ?_
                  refine tkH (i := 9) (v := .int .i64 (m : Int)) rfl ?_
                  refine tkH (i := 10) (v := .pointer (some ⟨gt, m * 11, none⟩)) rfl ?_
                  refine tcH (i := 11) (v := .agg #[.int .i64 h.id, .int .i64 h.x, .int .i64 h.y, .int .i64 h.w, .int .i64 h.h, .int .i64 h.alpha, .int .i64 h.orient, .bool h.vis, .int .i64 h.bw, .int .i64 h.bh, .slice A_h h.data.length c_h]) rfl (by intro w' hSw; (try dsimp only at hSw); (obtain ⟨c0, c1, c2, c3, c4, c5, c6, c7, c8, c9, c10⟩ := (HC_h.out _ hSw.x.bw).1); go_simp) ?_
                  (try simp only [Act.put]); (try simp only [zPa]); (try simp only [zPb, zPc])
                  refine wpAnyH_ready (rs := [6]) (by kernel_rfl) (by simp) ?_
                  refine (AllReadyH.cons rfl (fun K hK => ?_) AllReadyH.nil)
                  ·rw [if_pos (by kernel_rfl)]
                   (try simp only [zGa]); (try simp only [zGb]); (try simp only [zGc])
                   go_simp
                   with_reducible refine (HR1.out _ (HC_f.out _ hS.x.bw).2).mono ?_
                   rintro e W' ⟨rfl, hb⟩
                   dsimp only
                   have hO := own_call2 hO hb
                   refine hK.out _ _ (hS.call hb) (fun hS => ?_)
                   clear hK
                   (try simp only [Act.put]); (try simp only [zPa]); (try simp only [zPb, zPc])
                   refine wpAnyH_ready (rs := [12]) (by kernel_rfl) (by simp) ?_
                   refine (AllReadyH.cons rfl (fun K hK => ?_) AllReadyH.nil)
                   ·rw [if_pos (by kernel_rfl)]
                    (try simp only [zGa]); (try simp only [zGb]); (try simp only [zGc])
                    go_simp
                    with_reducible refine (HR2.out _ (HC_h.out _ hS.x.bw).2).mono ?_
                    rintro e W' ⟨rfl, hb⟩
                    dsimp only
                    have hO := own_call2 hO hb
                    refine hK.out _ _ (hS.call hb) (fun hS => ?_)
                    clear hK
                    (try simp only [Act.put]); (try simp only [zPa]); (try simp only [zPb, zPc])
                    refine wpAnyH_ready (rs := [13]) (by kernel_rfl) (by simp) ?_
                    refine (AllReadyH.cons rfl (fun K hK => ?_) AllReadyH.nil)
                    ·rw [if_pos (by kernel_rfl)]
                     (try simp only [zGa]); (try simp only [zGb]); (try simp only [zGc])
                     go_simp
                     with_reducible refine (HQ.out _).mono ?_
                     rintro e W' ⟨rfl, hb⟩
                     dsimp only
                     have hO := own_call2 hO hb
                     refine hK.out _ _ (hS.call hb) (fun hS => ?_)
                     clear hK
                     (try simp only [Act.put]); (try simp only [zPa]); (try simp only [zPb, zPc])
                     refine wpAnyH_ready (rs := [14]) (by kernel_rfl) (by simp) ?_
                     refine (AllReadyH.cons rfl (fun K hK => ?_) AllReadyH.nil)
                     ·rw [if_pos (by kernel_rfl)]
                      (try simp only [zGa]); (try simp only [zGb]); (try simp only [zGc])
                      refine wp_build1o 165 (.tmp 164) q3 rfl (by first | with_reducible rfl | (go_simp; done) | rfl) rfl ?_
                      intro g1 W' hb hN1
                      have hO := own_call2 hO hb
                      refine hK.out _ _ (hS.call hb) (fun hS => ?_)
                      clear hK
                      (try simp only [Act.put]); (try simp only [zPa]); (try simp only [zPb, zPc])
                      refine wpAnyH_ready (rs := [15]) (by kernel_rfl) (by simp) ?_
                      refine (AllReadyH.cons rfl (fun K hK => ?_) AllReadyH.nil)
                      ·rw [if_pos (by kernel_rfl)]
                       (try simp only [zGa]); (try simp only [zGb]); (try simp only [zGc])
                       refine wp_append_row (.tmp 151) (.tmp 165) 83 rfl (bq + 1) _ 94 i0 (.agg #[.int .i64 0, .int .i64 0, .int .i64 0, .int .i64 0]) 4 32 Try.underlying83 hi hz0 hz1 hz2 rfl (by decide) u6 _ _ (by first | with_reducible rfl | (go_simp; done) | rfl) hO _ 1 _ (by first | with_reducible rfl | (go_simp; done) | rfl) hN1 (rcs_one _) (by have := Hln.out; unfold maxLen; omega) (by have := Hln.out; omega) (by have := hS.q.lt; omega) ?_
                       intro v9 W' h9 hgr _
                       have hO9 := h9
                       skip
                       refine hK.out _ _ (hS.grown hO hgr) (fun hS => ?_)
                       clear hK
                       (try simp only [Act.put]); (try simp only [zPa]); (try simp only [zPb, zPc])
                       refine tkH (i := 16) (v := v9) rfl ?_
                       refine wpAnyH_done (by kernel_rfl) ?_ _
                       go_wp2_with fail
                       go_roundg (k - (m + 1))
                       case measure => omega
                       case rel => exact ⟨m + 1, _, _, rfl, by omega, rfl, rfl, by go_num, Lib.hid hS, Lib.hid (by rw [Hnm.out, ← List.append_assoc, rcsCells_append, List.length_append]; exact hO9)⟩
                 ·have hup : ¬ dmUp sf f h := by unfold dmUp; rw [← HI.out, ← HI2.out]; exact fun e => h1 e.2
                  have Hnm := Lib.hid (show dmIn sfRect sf f (tf.take (m + 1)) = dmIn sfRect sf f (tf.take m) by rw [Hnm.out, if_neg hup, List.append_nil])
                  clear hup
                  go_wp2_with fail
                  go_roundg (k - (m + 1))
                  case measure => omega
                  case rel => exact ⟨m + 1, _, _, rfl, by omega, rfl, rfl, by go_num, Lib.hid hS, Lib.hid (by rw [Hnm.out]; exact hO)⟩
                ·have hup : ¬ dmUp sf f h := by unfold dmUp; rw [← HI.out, ← HI2.out]; exact fun e => h0 e.1
                 have Hnm := Lib.hid (show dmIn sfRect sf f (tf.take (m + 1)) = dmIn sfRect sf f (tf.take m) by rw [Hnm.out, if_neg hup, List.append_nil])
                 clear hup
                 go_wp2_with fail
                 go_roundg (k - (m + 1))
                 case measure => omega
                 case rel => exact ⟨m + 1, _, _, rfl, by omega, rfl, rfl, by go_num, Lib.hid hS, Lib.hid (by rw [Hnm.out]; exact hO)⟩
       ·have k0 : (0 : Int) ≤ (k : Int) := by omega
        have k1 : (k : Int) < (nu : Int) := by omega
        obtain ⟨gs, f, d_f, bd_f, rfl, hf_f, hC, hd, hbd⟩ := pl_d HU.out (k := k) (by have := HNu.out; omega)
        obtain ⟨⟨A_f, c_f, rfl⟩, _⟩ := ints_form hd
        have HC_f : Hid (∀ V' : World, Below w.heap.size w V' → C11 V' gs (k * 11) f (.slice A_f f.data.length c_f) ∧ RdI V' (.slice A_f f.data.length c_f) f.data) := Lib.hid fun V' hb => ⟨hC.call hb, repInts_rd (Rep.call hd hb)⟩
        have Hf_f := Lib.hid hf_f
        clear hC hd hbd hf_f
        have Hnx := Lib.hid (dmX_take (R := sfRect) (M := tf) Hf_f.out)
        obtain ⟨q1, hq1⟩ : ∃ q, q = sfRect f := ⟨_, rfl⟩
        have HR1 := fun V hh => srS f (.slice A_f f.data.length c_f) V hh
        unfold SrAns RcAns at HR1
        rw [← hq1] at HR1
        have HR1 := Lib.hid HR1
        rw [← hq1] at Hnx
        have Hol : Hid ((dmX sfRect tf (sf.take k)).length ≤ 6) := Lib.hid (by have := dmX_len sfRect tf (sf.take k); rw [List.length_take] at this; omega)
        obtain ⟨i, hi_⟩ : ∃ i, i = idxF tf f.id := ⟨_, rfl⟩
        have HIX := fun V hh => idxS ⟨sx, sy, sb, tf⟩ f.id (.slice A N c) bv V hh
        unfold IdxAns at HIX
        dsimp only at HIX
        rw [← hi_] at HIX
        have HIX := Lib.hid HIX
        have HI := Lib.hid hi_
        clear hq1 hi_
        obtain ⟨a0, a1, a2, a3⟩ := hS.x.a.cells4
        (try dsimp only at a0 a1 a2 a3)
        go_upto_region 10 with fail
        clear a0 a1 a2 a3
        refine wp_region_held_drew (S := fun V => DsX w ⟨sx, sy, sb, sf⟩ ⟨sx, sy, sb, tf⟩ (.slice (some ⟨gs, 0, none⟩) nu cu) (.slice A N c) bq ⟨0, 0, sx, sy⟩ V) (by kernel_rfl) (hS.call (belI_drew _)) (fun hS => ?_)
        replace hO := own_call2 hO (belI_drew _)
        refine tcH (i := 0) (v := .agg #[.int .i64 sx, .int .i64 sy, .int .i64 sb, .slice A N c]) rfl (by intro w' hSw; (try dsimp only at hSw); (obtain ⟨e0, e1, e2, e3⟩ := hSw.x.b.cells4); ((try dsimp only at e0 e1 e2 e3)); go_simp) ?_
        refine tkH (i := 1) (v := .pointer (some ⟨w.heap.size, 3, none⟩)) rfl ?_
        refine tcH (i := 2) (v := .slice (some ⟨gs, 0, none⟩) nu cu) rfl (by intro w' hSw; (try dsimp only at hSw); (obtain ⟨e0, e1, e2, e3⟩ := hSw.x.a.cells4); ((try dsimp only at e0 e1 e2 e3)); go_simp) ?_
        refine tkH (i := 3) (v := .int .i64 (k : Int)) rfl ?_
        refine tkH (i := 4) (v := .pointer (some ⟨gs, k * 11, none⟩)) rfl ?_
        refine tkH (i := 5) (v := .pointer (some ⟨gs, k * 11, none⟩)) rfl ?_
        refine tcH (i := 6) (v := .int .i64 f.id) rfl (by intro w' hSw; (try dsimp only at hSw); (obtain ⟨c0, c1, c2, c3, c4, c5, c6, c7, c8, c9, c10⟩ := (HC_f.out _ hSw.x.bw).1); go_simp) ?_
        (try simp only [Act.put]); (try simp only [zPa]); (try simp only [zPb, zPc])
        refine wpAnyH_ready (rs := [7]) (by kernel_rfl) (by simp) ?_
        refine (AllReadyH.cons rfl (fun K hK => ?_) AllReadyH.nil)
        ·rw [if_pos (by kernel_rfl)]
         (try simp only [zGa]); (try simp only [zGb]); (try simp only [zGc])
         go_simp
         with_reducible refine (HIX.out _ (Rep.call HW.out hS.x.bw)).mono ?_
         rintro e W' ⟨rfl, hb⟩
         dsimp only
         have hO := own_call2 hO hb
         refine hK.out _ _ (hS.call hb) (fun hS => ?_)
         clear hK
         (try simp only [Act.put]); (try simp only [zPa]); (try simp only [zPb, zPc])
         refine tkH (i := 8) (v := .int .i64 i) rfl ?_
         go_simp
         refine wpAnyH_done (by kernel_rfl) ?_ _
         go_upto_region 11 with fail
         go_cut [81] (fun s81 wx => ∃ (b : Bool) (V : World), V = wx ∧ s81 = .bool b ∧ Hid (b = true ↔ f ∉ tf) ∧ Hid (DsX w ⟨sx, sy, sb, sf⟩ ⟨sx, sy, sb, tf⟩ (.slice (some ⟨gs, 0, none⟩) nu cu) (.slice A N c) bq ⟨0, 0, sx, sy⟩ V) ∧ Hid (V.ownsRow (bq + 1) 94 4 u6 (dmX sfRect tf (sf.take k)).length (rcsCells (dmX sfRect tf (sf.take k)))))
         case first =>
          rcases ids_case (L := tf) (ids_ok Htt.out) f with ⟨hi1, hno⟩ | ⟨j, g0, hj1, hg0, -, hiff⟩
          ·obtain rfl : i = -1 := by rw [HI.out]; exact hi1
           clear hi1
           refine wp_region_held_drew (S := fun V => DsX w ⟨sx, sy, sb, sf⟩ ⟨sx, sy, sb, tf⟩ (.slice (some ⟨gs, 0, none⟩) nu cu) (.slice A N c) bq ⟨0, 0, sx, sy⟩ V) (by kernel_rfl) (hS.call (belI_drew _)) (fun hS => ?_)
           replace hO := own_call2 hO (belI_drew _)
           refine tkH (i := 0) (v := .int .i64 (-1)) rfl ?_
           refine tkH (i := 1) (v := .bool true) rfl ?_
           refine tkH (i := 2) (v := .bool true) rfl ?_
           refine tnH (i := 3) rfl ?_
           refine tnH (i := 4) rfl ?_
           refine tnH (i := 5) rfl ?_
           refine tnH (i := 6) rfl ?_
           refine tnH (i := 7) rfl ?_
           refine tnH (i := 8) rfl ?_
           refine tnH (i := 9) rfl ?_
           refine tnH (i := 10) rfl ?_
           refine tnH (i := 11) rfl ?_
           refine tnH (i := 12) rfl ?_
           refine tnH (i := 13) rfl ?_
           refine tnH (i := 14) rfl ?_
           refine tkH (i := 15) (v := .bool true) rfl ?_
           go_simp
           refine wpAnyH_done (by kernel_rfl) ?_ _
           go_wp2_with fail
           go_meet
           case rel => exact ⟨true, _, rfl, rfl, Lib.hid ⟨fun _ => hno, fun _ => rfl⟩, Lib.hid hS, Lib.hid hO⟩
          ·obtain rfl : i = (j : Int) := by rw [HI.out]; exact hj1
           have hjl : j < tf.length := (List.getElem?_eq_some_iff.1 hg0).1
           obtain ⟨gt, g, d_g, bd_g, rfl, hf_g, hC, hd, hbd⟩ := pl_d HW.out (k := j) (by have := HN.out; exact hjl)
           obtain ⟨⟨A_g, c_g, rfl⟩, _⟩ := ints_form hd
           have HC_g : Hid (∀ V' : World, Below w.heap.size w V' → C11 V' gt (j * 11) g (.slice A_g g.data.length c_g) ∧ RdI V' (.slice A_g g.data.length c_g) g.data) := Lib.hid fun V' hb => ⟨hC.call hb, repInts_rd (Rep.call hd hb)⟩
           have Hf_g := Lib.hid hf_g
           clear hC hd hbd hf_g
           obtain rfl : g0 = g := by have := Hf_g.out; rw [hg0] at this; exact Option.some.inj this
           have HS1 := fun V h1 h2 => ssS f g0 (.slice A_f f.data.length c_f) (.slice A_g g0.data.length c_g) V h1 h2
           unfold SsAns at HS1
           have j0 : (0 : Int) ≤ (j : Int) := by omega
           have j1 : (j : Int) < (N : Int) := by have := HN.out; omega
           have hjn : ¬ (j : Int) < 0 := by omega
           clear hj1 hg0 hjl
           by_cases e : f = g0
           ·rw [show ssB f g0 = true from ssB_iff.2 e] at HS1
            have HS1 := Lib.hid HS1
            have hin := Lib.hid (hiff.2 e)
            clear e hiff
            refine wp_region_held_drew (S := fun V => DsX w ⟨sx, sy, sb, sf⟩ ⟨sx, sy, sb, tf⟩ (.slice (some ⟨gs, 0, none⟩) nu cu) (.slice (some ⟨gt, 0, none⟩) N c) bq ⟨0, 0, sx, sy⟩ V) (by kernel_rfl) (hS.call (belI_drew _)) (fun hS => ?_)
            replace hO := own_call2 hO (belI_drew _)
            refine tkH (i := 0) (v := .int .i64 (j : Int)) rfl ?_
            refine tkH (i := 1) (v := .bool false) rfl ?_
            refine tkH (i := 2) (v := .bool false) rfl ?_
            refine tkH (i := 3) (v := .pointer (some ⟨w.heap.size, 3, none⟩)) rfl ?_
            refine tcH (i := 4) (v := .slice (some ⟨gs, 0, none⟩) nu cu) rfl (by intro w' hSw; (try dsimp only at hSw); (obtain ⟨e0, e1, e2, e3⟩ := hSw.x.a.cells4); ((try dsimp only at e0 e1 e2 e3)); go_simp) ?_
            refine tkH (i := 5) (v := .int .i64 (k : Int)) rfl ?_
            refine tkH (i := 6) (v := .pointer (some ⟨gs, k * 11, none⟩)) rfl ?_
            refine tcH (i := 7) (v := .agg #[.int .i64 f.id, .int .i64 f.x, .int .i64 f.y, .int .i64 f.w, .int .i64 f.h, .int .i64 f.alpha, .int .i64 f.orient, .bool f.vis, .int .i64 f.bw, .int .i64 f.bh, .slice A_f f.data.length c_f]) rfl (by intro w' hSw; (try dsimp only at hSw); (obtain ⟨c0, c1, c2, c3, c4, c5, c6, c7, c8, c9, c10⟩ := (HC_f.out _ hSw.x.bw).1); go_simp) ?_
            refine tkH (i := 8) (v := .pointer (some ⟨w.heap.size + 1, 3, none⟩)) rfl ?_
            refine tcH (i := 9) (v := .slice (some ⟨gt, 0, none⟩) N c) rfl (by intro w' hSw; (try dsimp only at hSw); (obtain ⟨e0, e1, e2, e3⟩ := hSw.x.b.cells4); ((try dsimp only at e0 e1 e2 e3)); go_simp) ?_
            refine tkH (i := 10) (v := .int .i64 (j : Int)) rfl ?_
            refine tkH (i := 11) (v := .pointer (some ⟨gt, j * 11, none⟩)) rfl ?_
            refine tcH (i := 12) (v := .agg #[.int .i64 g0.id, .int .i64 g0.x, .int .i64 g0.y, .int .i64 g0.w, .int .i64 g0.h, .int .i64 g0.alpha, .int .i64 g0.orient, .bool g0.vis, .int .i64 g0.bw, .int .i64 g0.bh, .slice A_g g0.data.length c_g]) rfl (by intro w' hSw; (try dsimp only at hSw); (obtain ⟨c0, c1, c2, c3, c4, c5, c6, c7, c8, c9, c10⟩ := (HC_g.out _ hSw.x.bw).1); go_simp) ?_
            (try simp only [Act.put]); (try simp only [zPa]); (try simp only [zPb, zPc])
            refine wpAnyH_ready (rs := [13]) (by kernel_rfl) (by simp) ?_
            refine (AllReadyH.cons rfl (fun K hK => ?_) AllReadyH.nil)
            ·rw [if_pos (by kernel_rfl)]
             (try simp only [zGa]); (try simp only [zGb]); (try simp only [zGc])
             go_simp
             with_reducible refine (HS1.out _ (HC_f.out _ hS.x.bw).2 (HC_g.out _ hS.x.bw).2).mono ?_
             rintro e W' ⟨rfl, hb⟩
             dsimp only
             have hO := own_call2 hO hb
             refine hK.out _ _ (hS.call hb) (fun hS => ?_)
             clear hK
             (try simp only [Act.put]); (try simp only [zPa]); (try simp only [zPb, zPc])
             refine tkH (i := 14) (v := .bool false) rfl ?_
             refine tkH (i := 15) (v := .bool false) rfl ?_
             refine wpAnyH_done (by kernel_rfl) ?_ _
             go_wp2_with fail
             go_meet
             case rel => exact ⟨false, _, rfl, rfl, Lib.hid ⟨fun h => (by cases h), fun h => absurd hin.out h⟩, Lib.hid hS, Lib.hid hO⟩
           ·rw [show ssB f g0 = false from ssB_no fun h => e h] at HS1
            have HS1 := Lib.hid HS1
            have hin := Lib.hid (fun h => e (hiff.1 h))
            clear e hiff
            refine wp_region_held_drew (S := fun V => DsX w ⟨sx, sy, sb, sf⟩ ⟨sx, sy, sb, tf⟩ (.slice (some ⟨gs, 0, none⟩) nu cu) (.slice (some ⟨gt, 0, none⟩) N c) bq ⟨0, 0, sx, sy⟩ V) (by kernel_rfl) (hS.call (belI_drew _)) (fun hS => ?_)
            replace hO := own_call2 hO (belI_drew _)
            refine tkH (i := 0) (v := .int .i64 (j : Int)) rfl ?_
            refine tkH (i := 1) (v := .bool false) rfl ?_
            refine tkH (i := 2) (v := .bool false) rfl ?_
            refine tkH (i := 3) (v := .pointer (some ⟨w.heap.size, 3, none⟩)) rfl ?_
            refine tcH (i := 4) (v := .slice (some ⟨gs, 0, none⟩) nu cu) rfl (by intro w' hSw; (try dsimp only at hSw); (obtain ⟨e0, e1, e2, e3⟩ := hSw.x.a.cells4); ((try dsimp only at e0 e1 e2 e3)); go_simp) ?_
            refine tkH (i := 5) (v := .int .i64 (k : Int)) rfl ?_
            refine tkH (i := 6) (v := .pointer (some ⟨gs, k * 11, none⟩)) rfl ?_
            refine tcH (i := 7) (v := .agg #[.int .i64 f.id, .int .i64 f.x, .int .i64 f.y, .int .i64 f.w, .int .i64 f.h, .int .i64 f.alpha, .int .i64 f.orient, .bool f.vis, .int .i64 f.bw, .int .i64 f.bh, .slice A_f f.data.length c_f]) rfl (by intro w' hSw; (try dsimp only at hSw); (obtain ⟨c0, c1, c2, c3, c4, c5, c6, c7, c8, c9, c10⟩ := (HC_f.out _ hSw.x.bw).1); go_simp) ?_
            refine tkH (i := 8) (v := .pointer (some ⟨w.heap.size + 1, 3, none⟩)) rfl ?_
            refine tcH (i := 9) (v := .slice (some ⟨gt, 0, none⟩) N c) rfl (by intro w' hSw; (try dsimp only at hSw); (obtain ⟨e0, e1, e2, e3⟩ := hSw.x.b.cells4); ((try dsimp only at e0 e1 e2 e3)); go_simp) ?_
            refine tkH (i := 10) (v := .int .i64 (j : Int)) rfl ?_
            refine tkH (i := 11) (v := .pointer (some ⟨gt, j * 11, none⟩)) rfl ?_
            refine tcH (i := 12) (v := .agg #[.int .i64 g0.id, .int .i64 g0.x, .int .i64 g0.y, .int .i64 g0.w, .int .i64 g0.h, .int .i64 g0.alpha, .int .i64 g0.orient, .bool g0.vis, .int .i64 g0.bw, .int .i64 g0.bh, .slice A_g g0.data.length c_g]) rfl (by intro w' hSw; (try dsimp only at hSw); (obtain ⟨c0, c1, c2, c3, c4, c5, c6, c7, c8, c9, c10⟩ := (HC_g.out _ hSw.x.bw).1); go_simp) ?_
            (try simp only [Act.put]); (try simp only [zPa]); (try simp only [zPb, zPc])
            refine wpAnyH_ready (rs := [13]) (by kernel_rfl) (by simp) ?_
            refine (AllReadyH.cons rfl (fun K hK => ?_) AllReadyH.nil)
            ·rw [if_pos (by kernel_rfl)]
             (try simp only [zGa]); (try simp only [zGb]); (try simp only [zGc])
             go_simp
             with_reducible refine (HS1.out _ (HC_f.out _ hS.x.bw).2 (HC_g.out _ hS.x.bw).2).mono ?_
             rintro e W' ⟨rfl, hb⟩
             dsimp only
             have hO := own_call2 hO hb
             refine hK.out _ _ (hS.call hb) (fun hS => ?_)
             clear hK
             (try simp only [Act.put]); (try simp only [zPa]); (try simp only [zPb, zPc])
             refine tkH (i := 14) (v := .bool true) rfl ?_
             refine tkH (i := 15) (v := .bool true) rfl ?_
             refine wpAnyH_done (by kernel_rfl) ?_ _
             go_wp2_with fail
             go_meet
             case rel => exact ⟨true, _, rfl, rfl, Lib.hid ⟨fun _ => hin.out, fun _ => rfl⟩, Lib.hid hS, Lib.hid hO⟩
         case rest =>
          obtain ⟨b, V2, hV2, rfl, Hb, HX2, HO2⟩ := hcut
          subst hV2
          clear hS hO
          have hS := HX2.out
          have hO := HO2.out
          clear HX2 HO2
          cases b
          ·have hin : f ∈ tf := Classical.byContradiction fun h => by have := Hb.out.2 h; cases this
           have Hnx := Lib.hid (show dmX sfRect tf (sf.take (k + 1)) = dmX sfRect tf (sf.take k) by rw [Hnx.out, if_pos hin, List.append_nil])
           clear hin
           go_wp2_with fail
           go_roundg (nu - (k + 1))
           case measure => omega
           case rel => exact ⟨k + 1, _, _, rfl, by omega, rfl, rfl, by go_num, Lib.hid hS, Lib.hid (by rw [Hnx.out]; exact hO)⟩
          ·have Hnx := Lib.hid (show dmX sfRect tf (sf.take (k + 1)) = dmX sfRect tf (sf.take k) ++ [q1] by rw [Hnx.out, if_neg (Hb.out.1 rfl)])
           obtain ⟨a0, a1, a2, a3⟩ := hS.x.a.cells4
           (try dsimp only at a0 a1 a2 a3)
           obtain ⟨c0, c1, c2, c3, c4, c5, c6, c7, c8, c9, c10⟩ := (HC_f.out _ hS.x.bw).1
           go_wp2_with fail
           refine (HR1.out _ (HC_f.out _ hS.x.bw).2).mono ?_
           rintro e w3 ⟨rfl, hb⟩
           replace hS := hS.call hb
           replace hO := own_call2 hO hb
           clear hb a0 a1 a2 a3 c0 c1 c2 c3 c4 c5 c6 c7 c8 c9 c10
           have hq1 := hS.q.lt
           have hol := Hol.out
           go_wp2_with (at_builtin; refine wpList_append_own _ rfl _ _ 83 rfl (bq + 1) 94 i0 (.agg #[.int .i64 0, .int .i64 0, .int .i64 0, .int .i64 0]) 4 32 Try.underlying83 hi hz0 hz1 hz2 rfl (by decide) _ _ _ rfl (hO.alloc _) ⟨_, 0, none⟩ 1 1 [.int .i64 q1.x, .int .i64 q1.y, .int .i64 q1.w, .int .i64 q1.h] rfl rfl (World.news_of_block (cs := #[.int .i64 q1.x, .int .i64 q1.y, .int .i64 q1.w, .int .i64 q1.h]) (fr := (0, 0)) (heap_alloc_new _ _)) (by intro u hu; simp at hu; rcases hu with rfl | rfl | rfl | rfl <;> rfl) (by unfold maxLen; omega) (by omega) (by have := hq1; simp; omega) ?_)
           intro v4 w4 hO4 hgr _
           have hbx := belI_box w3 (.cells #[.int .i64 q1.x, .int .i64 q1.y, .int .i64 q1.w, .int .i64 q1.h] 94)
           have hO3 := own_call2 hO hbx
           have hS4 := (hS.call hbx).grown hO3 hgr
           clear hgr hbx hO3 hq1 hol hS hO
           go_wp2_with fail
           go_roundg (nu - (k + 1))
           case measure => omega
           case rel => exact ⟨k + 1, _, _, rfl, by omega, rfl, rfl, by go_num, Lib.hid hS4, Lib.hid (by rw [Hnx.out, rcsCells_append, List.length_append]; exact hO4)⟩
end Go.Proofs.Ytokniebejilcbaa
