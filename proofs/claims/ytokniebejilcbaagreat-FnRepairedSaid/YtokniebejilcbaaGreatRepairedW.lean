/- The walk of the law FnRepaired: it returns true for every code. -/
import Derived.Test.YtokniebejilcbaaGreatMA
import Derived.Test.YtokniebejilcbaaGreatMB
import Derived.Test.YtokniebejilcbaaGreatMC
import Derived.Test.YtokniebejilcbaaGreatCpyI
import Derived.Test.YtokniebejilcbaaGreatFilB
import Derived.Test.YtokniebejilcbaaGreatDrwI
import Derived.Test.YtokniebejilcbaaGreatDrE
import Derived.Test.YtokniebejilcbaaGreatSnS
import Derived.Test.YtokniebejilcbaaGreatSnD
import Derived.Test.YtokniebejilcbaaGreatEdH
import Derived.Test.YtokniebejilcbaaGreatEdW
import Derived.Test.YtokniebejilcbaaGreatEdQ
import Derived.Test.YtokniebejilcbaaGreatDrS
import Derived.Test.YtokniebejilcbaaGreatDrL
import Derived.Test.YtokniebejilcbaaGreatDrC
import Derived.Test.YtokniebejilcbaaGreatDeS
import Derived.Test.YtokniebejilcbaaGreatOrdB
import Derived.Test.YtokniebejilcbaaGreatOrdI
import Derived.Test.YtokniebejilcbaaGreatOrdA
import Derived.Test.YtokniebejilcbaaGreatSclB
import Derived.Test.YtokniebejilcbaaGreatSfP
import Derived.Test.YtokniebejilcbaaGreatPnM
import Derived.Test.YtokniebejilcbaaGreatDmM
import Derived.Test.YtokniebejilcbaaGreatPnS
import Derived.Test.YtokniebejilcbaaGreatPnI
import Derived.Test.YtokniebejilcbaaGreatOcI
import Derived.Test.YtokniebejilcbaaGreatPnP
import Derived.Test.YtokniebejilcbaaGreatPnG
import Derived.Test.YtokniebejilcbaaGreatDmE
import Derived.Test.YtokniebejilcbaaGreatDmI
import Derived.Test.YtokniebejilcbaaGreatDmJ
import Derived.Test.YtokniebejilcbaaGreatProg
import Derived.WalkKit
import Derived.ProofKit
import Derived.OpenShut
import Derived.WalkLawsBesides
import Derived.WalkSpells
import Derived.ShutString
import Derived.ChangeOld
import Derived.Below
import Derived.Lib.Hide
import Derived.BigQuiet
import Derived.Deep.QuietTactic
import Derived.Maps.AppendAt
import Derived.Deep.OwnRows
import Derived.Handy
import Derived.Deep.Draws
import Derived.OwnWalk
import Derived.Deep.AppendLies
import Derived.Deep.LoopGhost
import Derived.Deep.Onto
import Derived.Deep.MidRow
import Derived.Deep.WholeRow
import Derived.Laws.BitsAllLaws
import Derived.Lib.QuoteBits
import Derived.Test.YtokniebejilcbaaGreatShelf
import Derived.Laws.CopyOwn
import Derived.Deep.RegionLaw
import Derived.Deep.RegionHeld3
import Derived.Deep.DeepCutAuto
import Derived.Great.BuildSlice
import Derived.Laws.AppendOwn
import Derived.Deep.CutBlock
import Derived.Shelf.RegionOpenPlain
import Derived.Lib.SliceRun
import Derived.Deep.RegionWith
import Derived.ChangeKeysEq
import Derived.Deep.DeepAppendRoom
import Derived.Maps.RangeWalk
import Derived.Maps.OwnOps
namespace Go.Proofs.YtokniebejilcbaaGreat
open Go.RowKit
structure RpA (w : World) (s : Sn) (v : Value) (bs : List Nat) (b3 : Nat) (t : Sn) (u : Value) (bt : List Nat) (b5 : Nat) (V : World) : Prop where
 a : SnA b3 s v bs V
 b : SnA b5 t u bt V
 bw : Below w.heap.size w V
theorem RpA.call {w : World} {s : Sn} {v : Value} {bs : List Nat} {b3 : Nat} {t : Sn} {u : Value} {bt : List Nat} {b5 : Nat} {V V' : World} (h : RpA w s v bs b3 t u bt b5 V) (hb : Below V.heap.size V V') : RpA w s v bs b3 t u bt b5 V' := ⟨h.a.call hb, h.b.call hb, belI_call h.bw hb⟩
structure RpB (w : World) (s : Sn) (v : Value) (bs : List Nat) (b3 : Nat) (t : Sn) (u : Value) (bt : List Nat) (b5 : Nat) (J : Im) (uj : Value) (b7 : Nat) (I : Im) (ui : Value) (b8 : Nat) (V : World) : Prop where
 y : RpA w s v bs b3 t u bt b5 V
 j : BkAt V b7 55 #[.int .i64 J.w, .int .i64 J.h, uj]
 jd : RdI V uj J.d
 i : BkAt V b8 55 #[.int .i64 I.w, .int .i64 I.h, ui]
 id : RdI V ui I.d
theorem RpB.call {w : World} {s : Sn} {v : Value} {bs : List Nat} {b3 : Nat} {t : Sn} {u : Value} {bt : List Nat} {b5 : Nat} {J : Im} {uj : Value} {b7 : Nat} {I : Im} {ui : Value} {b8 : Nat} {V V' : World} (h : RpB w s v bs b3 t u bt b5 J uj b7 I ui b8 V) (hb : Below V.heap.size V V') : RpB w s v bs b3 t u bt b5 J uj b7 I ui b8 V' := ⟨h.y.call hb, h.j.call hb, h.jd.call hb, h.i.call hb, h.id.call hb⟩
set_option maxHeartbeats 8000000 in
set_option maxRecDepth 100000 in
theorem walk_FnRepaired (a0 : Option Addr) (len cap : Nat) (zs : List Int) (w : World) (hrow : IsRow .u8 w a0 len cap zs) :
  Calls Tryz.prog 5 #[.slice a0 len cap] w fun e w' => e = .returned (.bool true) ∧ Below w.heap.size w w' := by
 by_cases hbig : len ≤ 1048576
 rotate_left
 ·go_enter Tryz.func5, Tryz.ntmps5
  go_wp2_with fail
  refine (big_yes _ _ _ _ (by omega)).mono ?_
  rintro e w1 ⟨rfl, rfl⟩
  go_wp2_with fail
  go_ret
  exact ⟨rfl, Below.refl _ _⟩
 go_enter Tryz.func5, Tryz.ntmps5
 go_wp2_with fail
 refine (big_no _ _ _ _ hbig).mono ?_
 rintro e w1 ⟨rfl, rfl⟩
 go_wp2_with fail
 refine (drawScene_any _ _ _ _ zs hrow).mono ?_
 rintro e w1 ⟨s, v, bs, L, ue, cs, rfl, hs, hO, _, hle, hE, _, K⟩
 obtain ⟨⟨A, c, rfl⟩, _⟩ := repSfs_form hO.r
 obtain ⟨⟨Ae, ce, rfl⟩, _⟩ := form_lEs hE.r
 obtain ⟨w2, hw2⟩ : ∃ V, V = w1.alloc (.cells #[.int .i64 s.w, .int .i64 s.h, .int .i64 s.back, .slice A s.fs.length c] 34) := ⟨_, rfl⟩
 obtain ⟨b3, hb3⟩ : ∃ b, b = w1.heap.size := ⟨_, rfl⟩
 have hbx : Below w1.heap.size w1 w2 := by rw [hw2]; exact belI_box _ _
 have hA : SnA b3 s (.slice A s.fs.length c) bs w2 := by rw [hw2, hb3]; exact SnA.born hO.r
 have hK : Below w.heap.size w w2 := belI_call K hbx
 have hsm := sn_small hs
 have hDE := desS s L (.slice A s.fs.length c) (.slice Ae L.length ce) bs cs w2 (by unfold sizFs; omega) (fun e he => Nat.le_trans (hle e he) (by omega)) hA.r (Rep.call hE.r hbx)
 unfold EdsAnsS at hDE
 obtain ⟨t, ht⟩ : ∃ t, t = (doEs s L).1 := ⟨_, rfl⟩
 obtain ⟨n, hn⟩ : ∃ n, n = (doEs s L).2 := ⟨_, rfl⟩
 have hts : snOk t := by rw [ht]; exact doEs_ok L hs
 have htw := doEs_size s L
 rw [← ht] at htw
 rw [← ht, ← hn] at hDE
 have HDE := Lib.hid hDE
 obtain ⟨I, hI⟩ : ∃ I, I = pnIm s := ⟨_, rfl⟩
 obtain ⟨J, hJ⟩ : ∃ I, I = pnIm t := ⟨_, rfl⟩
 obtain ⟨Q1, hQ1⟩ : ∃ Q, Q = dmgM s t := ⟨_, rfl⟩
 obtain ⟨Q2, hQ2⟩ : ∃ Q, Q = dmgM t s := ⟨_, rfl⟩
 have r1 := dm_repair hs hts htw.1.symm htw.2.symm
 have r2 := dm_repair hts hs htw.1 htw.2
 rw [← hI, ← hJ, ← hQ1] at r1
 rw [← hI, ← hJ, ← hQ2] at r2
 have hIl := pnIm_len s
 have hJl := pnIm_len t
 rw [← hI] at hIl
 rw [← hJ] at hJl
 have HPS := fun v b W h => paS s v b W h
 have HPT := fun v b W h => paS t v b W h
 unfold AnsIm ImAns at HPS HPT
 rw [← hI] at HPS
 rw [← hJ] at HPT
 have HD1 := fun u v a b W h1 h2 => dmgI s t u v a b W h1 h2
 have HD2 := fun u v a b W h1 h2 => dmgI t s u v a b W h1 h2
 unfold RgQ at HD1 HD2
 rw [← hQ1] at HD1
 rw [← hQ2] at HD2
 have HP1 := fun u v z b W h1 h2 h3 => pniI I t Q1 u v z b W (Nat.le_trans hIl (by omega)) h1 h2 h3
 have HP2 := fun u v z b W h1 h2 h3 => pniI J s Q2 u v z b W (Nat.le_trans hJl (by omega)) h1 h2 h3
 unfold AnsIm ImAns at HP1 HP2
 rw [r1] at HP1
 rw [r2] at HP2
 have HSJ := fun (u z : Value) (W : World) (h1 : RdI W u J.d) (h2 : RdI W z J.d) => sameIL J.w J.h u J.d J.w J.h z J.d W h1 h2
 have HSI := fun (u z : Value) (W : World) (h1 : RdI W u I.d) (h2 : RdI W z I.d) => sameIL I.w I.h u I.d I.w I.h z I.d W h1 h2
 unfold SameMAns at HSJ HSI
 rw [sameM_yes] at HSJ HSI
 have HPS := Lib.hid HPS
 have HPT := Lib.hid HPT
 have HD1 := Lib.hid HD1
 have HD2 := Lib.hid HD2
 have HP1 := Lib.hid HP1
 have HP2 := Lib.hid HP2
 have HSJ := Lib.hid HSJ
 have HSI := Lib.hid HSI
 obtain ⟨d0, d1, d2, d3⟩ := hA.cells
 rw [hw2, hb3] at d0 d1 d2 d3
 have HA := Lib.hid hA
 have HK := Lib.hid hK
 have HW2 := Lib.hid hw2
 have HB3 := Lib.hid hb3
 clear hs hO hle hE K hrow hbx hA hK hsm hDE ht hn hts htw hI hJ hQ1 hQ2 r1 r2 hIl hJl hw2 hb3
 go_wp2_with fail
 rw [← HW2.out]
 refine HDE.out.mono ?_
 rintro e w3 ⟨u, bt, rfl, hOt, hb⟩
 obtain ⟨⟨B, m, rfl⟩, _⟩ := repSfs_form hOt.r
 clear d0 d1 d2 d3 HDE
 obtain ⟨w4, hw4⟩ : ∃ V, V = w3.alloc (.cells #[.int .i64 t.w, .int .i64 t.h, .int .i64 t.back, .slice B t.fs.length m] 34) := ⟨_, rfl⟩
 obtain ⟨b5, hb5⟩ : ∃ b, b = w3.heap.size := ⟨_, rfl⟩
 have hbx : Below w3.heap.size w3 w4 := by rw [hw4]; exact belI_box _ _
 have hS : RpA w s (.slice A s.fs.length c) bs b3 t (.slice B t.fs.length m) bt b5 w4 := ⟨(HA.out.call hb).call hbx, by rw [hw4, hb5]; exact SnA.born hOt.r, belI_call (belI_call HK.out hb) hbx⟩
 have HS := Lib.hid hS
 have HW4 := Lib.hid hw4
 have HB5 := Lib.hid hb5
 clear hOt hb hbx hw4 hb5 hS HA HK
 go_upto_region 5 with fail
 rw [← HW4.out, ← HB5.out, ← HB3.out]
 go_cut [7] (fun s7 wx => ∃ V, V = wx ∧ ∃ b7 uj, s7 = .pointer (some ⟨b7, 0, none⟩) ∧ BkAt V b7 55 #[.int .i64 J.w, .int .i64 J.h, uj] ∧ RdI V uj J.d ∧ Below w4.heap.size w4 V)
 case first =>
  refine wp_region_held_drew (S := fun V => RpA w s (.slice A s.fs.length c) bs b3 t (.slice B t.fs.length m) bt b5 V ∧ Below w4.heap.size w4 V) (by kernel_rfl) ⟨HS.out.call (belI_drew _), belI_drew _⟩ (fun hS => ?_)
  refine tcH (i := 0) (v := .agg #[.int .i64 s.w, .int .i64 s.h, .int .i64 s.back, .slice A s.fs.length c]) rfl (by intro w' hSw; (try dsimp only at hSw); (obtain ⟨d0, d1, d2, d3⟩ := hSw.1.a.cells); go_simp) ?_
  refine tcH (i := 2) (v := .agg #[.int .i64 t.w, .int .i64 t.h, .int .i64 t.back, .slice B t.fs.length m]) rfl (by intro w' hSw; (try dsimp only at hSw); (obtain ⟨d0, d1, d2, d3⟩ := hSw.1.b.cells); go_simp) ?_
  refine tcH (i := 3) (v := .agg #[.int .i64 s.w, .int .i64 s.h, .int .i64 s.back, .slice A s.fs.length c]) rfl (by intro w' hSw; (try dsimp only at hSw); (obtain ⟨d0, d1, d2, d3⟩ := hSw.1.a.cells); go_simp) ?_
  refine tcH (i := 4) (v := .agg #[.int .i64 t.w, .int .i64 t.h, .int .i64 t.back, .slice B t.fs.length m]) rfl (by intro w' hSw; (try dsimp only at hSw); (obtain ⟨d0, d1, d2, d3⟩ := hSw.1.b.cells); go_simp) ?_
  (try simp only [Act.put]); (try simp only [zPa]); (try simp only [zPb, zPc])
  refine wpAnyH_ready (rs := [1, 7]) (by kernel_rfl) (by simp) ?_
  refine (AllReadyH.cons rfl (fun K hK => ?_) (AllReadyH.cons rfl (fun K hK => ?_) AllReadyH.nil))
  ·rw [if_pos (by kernel_rfl)]
   (try simp only [zGa]); (try simp only [zGb]); (try simp only [zGc])
   go_simp
   with_reducible refine (HPS.out _ _ _ hS.1.a.r).mono ?_
   rintro e W' ⟨z, rfl, hz, hb⟩
   dsimp only
   obtain ⟨Az, cz, rfl⟩ := ownI_shape hz
   refine hK.out _ _ (⟨hS.1.call hb, belI_call hS.2 hb⟩) (fun hS => ?_)
   clear hK
   (try simp only [Act.put]); (try simp only [zPa]); (try simp only [zPb, zPc])
   refine wpAnyH_ready (rs := [5, 7]) (by kernel_rfl) (by simp) ?_
   refine (AllReadyH.cons rfl (fun K hK => ?_) (AllReadyH.cons rfl (fun K hK => ?_) AllReadyH.nil))
   ·rw [if_pos (by kernel_rfl)]
    (try simp only [zGa]); (try simp only [zGb]); (try simp only [zGc])
    go_simp
    with_reducible refine (HD1.out _ _ _ _ _ hS.1.a.r hS.1.b.r).mono ?_
    rintro e W' ⟨y, rfl, hy, hb⟩
    dsimp only
    obtain ⟨Ay, cy, rfl⟩ := own_shape hy
    have hz := ownI_call hz hb
    refine hK.out _ _ (⟨hS.1.call hb, belI_call hS.2 hb⟩) (fun hS => ?_)
    clear hK
    (try simp only [Act.put]); (try simp only [zPa]); (try simp only [zPb, zPc])
    refine wpAnyH_ready (rs := [6, 7]) (by kernel_rfl) (by simp) ?_
    refine (AllReadyH.cons rfl (fun K hK => ?_) (AllReadyH.cons rfl (fun K hK => ?_) AllReadyH.nil))
    ·rw [if_pos (by kernel_rfl)]
     (try simp only [zGa]); (try simp only [zGb]); (try simp only [zGc])
     go_simp
     with_reducible refine (HP1.out _ _ _ _ _ (RdI.of_own hz) hS.1.b.r (RdR.of_own hy)).mono ?_
     rintro e W' ⟨q, rfl, hq, hb⟩
     dsimp only
     obtain ⟨Aq, cq, rfl⟩ := ownI_shape hq
     have hz := ownI_call hz hb
     have hy := own_call2 hy hb
     refine hK.out _ _ (⟨hS.1.call hb, belI_call hS.2 hb⟩) (fun hS => ?_)
     clear hK
     (try simp only [Act.put]); (try simp only [zPa]); (try simp only [zPb, zPc])
     refine wpAnyH_ready (rs := [7]) (by kernel_rfl) (by simp) ?_
     refine (AllReadyH.cons rfl (fun K hK => ?_) AllReadyH.nil)
     ·rw [if_pos (by kernel_rfl)]
      (try simp only [zGa]); (try simp only [zGb]); (try simp only [zGc])
      have k7 := hS.2.size
      refine wp_alloc_bk 55 #[.int .i64 0, .int .i64 0, .slice none 0 0] (fun _ => by kernel_rfl) rfl 7 rfl ?_
      intro bB W' hb GB lB
      have KB := Lib.hid (Nat.le_trans k7 lB)
      clear k7
      have Hn := Lib.hid (show (Value.slice Aq J.d.length cq).ownBlock ≠ some bB from fun e => by have := hq.lt bB e; omega)
      have hz := ownI_call hz hb
      have hy := own_call2 hy hb
      have hq := ownI_call hq hb
      refine hK.out _ _ (⟨hS.1.call hb, belI_call hS.2 hb⟩) (fun hS => ?_)
      clear hK
      (try simp only [Act.put]); (try simp only [zPa]); (try simp only [zPb, zPc])
      refine wpAnyH_ready (rs := [8]) (by kernel_rfl) (by simp) ?_
      refine (AllReadyH.cons rfl (fun K hK => ?_) AllReadyH.nil)
      ·rw [if_pos (by kernel_rfl)]
       (try simp only [zGa]); (try simp only [zGb]); (try simp only [zGc])
       refine wp_store_bk 55 (.tmp 7) (.tmp 28) rfl bB _ #[.int .i64 0, .int .i64 0, .slice none 0 0] #[.int .i64 J.w, .int .i64 J.h, .slice Aq J.d.length cq] (by kernel_rfl) rfl (by simp [Value.oneCell']) rfl (by first | with_reducible rfl | (go_simp; done) | rfl) GB ?_
       intro W9 IB hgB
       have B9 := (Chg.of_grown hgB).below hS.2 hS.2.size (fun k hk => eq_of_single hk ▸ KB.out)
       skip
       skip
       have hq9 := hq.kept hgB (by by_cases hv : (Value.slice Aq J.d.length cq).ownBlock = none; exact .inl hv; exact .inr Hn.out)
       skip
       refine hK.out _ _ (⟨HS.out.call B9, B9⟩) (fun hS => ?_)
       clear hK
       (try simp only [Act.put]); (try simp only [zPa]); (try simp only [zPb, zPc])
       refine wpAnyH_done (by kernel_rfl) ?_ _
       go_wp2_with fail
       go_meet
       case rel => exact ⟨_, rfl, bB, _, rfl, IB, RdI.of_own hq9, hS.2⟩
    ·rw [if_pos (by kernel_rfl)]
     (try simp only [zGa]); (try simp only [zGb]); (try simp only [zGc])
     have k7 := hS.2.size
     refine wp_alloc_bk 55 #[.int .i64 0, .int .i64 0, .slice none 0 0] (fun _ => by kernel_rfl) rfl 7 rfl ?_
     intro bB W' hb GB lB
     have KB := Lib.hid (Nat.le_trans k7 lB)
     clear k7
     have hz := ownI_call hz hb
     have hy := own_call2 hy hb
     refine hK.out _ _ (⟨hS.1.call hb, belI_call hS.2 hb⟩) (fun hS => ?_)
     clear hK
     (try simp only [Act.put]); (try simp only [zPa]); (try simp only [zPb, zPc])
     refine wpAnyH_ready (rs := [6]) (by kernel_rfl) (by simp) ?_
     refine (AllReadyH.cons rfl (fun K hK => ?_) AllReadyH.nil)
     ·rw [if_pos (by kernel_rfl)]
      (try simp only [zGa]); (try simp only [zGb]); (try simp only [zGc])
      go_simp
      have g6 := GB.lt
      with_reducible refine (HP1.out _ _ _ _ _ (RdI.of_own hz) hS.1.b.r (RdR.of_own hy)).mono ?_
      rintro e W' ⟨q, rfl, hq, hb⟩
      dsimp only
      obtain ⟨Aq, cq, rfl⟩ := ownI_shape hq
      have Hn := Lib.hid (show (Value.slice Aq J.d.length cq).ownBlock ≠ some bB from fun e => by have := hq.lt bB e; omega)
      clear g6
      have hz := ownI_call hz hb
      have hy := own_call2 hy hb
      have GB := GB.call hb
      refine hK.out _ _ (⟨hS.1.call hb, belI_call hS.2 hb⟩) (fun hS => ?_)
      clear hK
      (try simp only [Act.put]); (try simp only [zPa]); (try simp only [zPb, zPc])
      refine wpAnyH_ready (rs := [8]) (by kernel_rfl) (by simp) ?_
      refine (AllReadyH.cons rfl (fun K hK => ?_) AllReadyH.nil)
      ·rw [if_pos (by kernel_rfl)]
       (try simp only [zGa]); (try simp only [zGb]); (try simp only [zGc])
       refine wp_store_bk 55 (.tmp 7) (.tmp 28) rfl bB _ #[.int .i64 0, .int .i64 0, .slice none 0 0] #[.int .i64 J.w, .int .i64 J.h, .slice Aq J.d.length cq] (by kernel_rfl) rfl (by simp [Value.oneCell']) rfl (by first | with_reducible rfl | (go_simp; done) | rfl) GB ?_
       intro W9 IB hgB
       have B9 := (Chg.of_grown hgB).below hS.2 hS.2.size (fun k hk => eq_of_single hk ▸ KB.out)
       skip
       skip
       skip
       have hq9 := hq.kept hgB (by by_cases hv : (Value.slice Aq J.d.length cq).ownBlock = none; exact .inl hv; exact .inr Hn.out)
       refine hK.out _ _ (⟨HS.out.call B9, B9⟩) (fun hS => ?_)
       clear hK
       (try simp only [Act.put]); (try simp only [zPa]); (try simp only [zPb, zPc])
       refine wpAnyH_done (by kernel_rfl) ?_ _
       go_wp2_with fail
       go_meet
       case rel => exact ⟨_, rfl, bB, _, rfl, IB, RdI.of_own hq9, hS.2⟩
   ·rw [if_pos (by kernel_rfl)]
    (try simp only [zGa]); (try simp only [zGb]); (try simp only [zGc])
    have k7 := hS.2.size
    refine wp_alloc_bk 55 #[.int .i64 0, .int .i64 0, .slice none 0 0] (fun _ => by kernel_rfl) rfl 7 rfl ?_
    intro bB W' hb GB lB
    have KB := Lib.hid (Nat.le_trans k7 lB)
    clear k7
    have hz := ownI_call hz hb
    refine hK.out _ _ (⟨hS.1.call hb, belI_call hS.2 hb⟩) (fun hS => ?_)
    clear hK
    (try simp only [Act.put]); (try simp only [zPa]); (try simp only [zPb, zPc])
    refine wpAnyH_ready (rs := [5]) (by kernel_rfl) (by simp) ?_
    refine (AllReadyH.cons rfl (fun K hK => ?_) AllReadyH.nil)
    ·rw [if_pos (by kernel_rfl)]
     (try simp only [zGa]); (try simp only [zGb]); (try simp only [zGc])
     go_simp
     with_reducible refine (HD1.out _ _ _ _ _ hS.1.a.r hS.1.b.r).mono ?_
     rintro e W' ⟨y, rfl, hy, hb⟩
     dsimp only
     obtain ⟨Ay, cy, rfl⟩ := own_shape hy
     have hz := ownI_call hz hb
     have GB := GB.call hb
     refine hK.out _ _ (⟨hS.1.call hb, belI_call hS.2 hb⟩) (fun hS => ?_)
     clear hK
     (try simp only [Act.put]); (try simp only [zPa]); (try simp only [zPb, zPc])
     refine wpAnyH_ready (rs := [6]) (by kernel_rfl) (by simp) ?_
     refine (AllReadyH.cons rfl (fun K hK => ?_) AllReadyH.nil)
     ·rw [if_pos (by kernel_rfl)]
      (try simp only [zGa]); (try simp only [zGb]); (try simp only [zGc])
      go_simp
      have g6 := GB.lt
      with_reducible refine (HP1.out _ _ _ _ _ (RdI.of_own hz) hS.1.b.r (RdR.of_own hy)).mono ?_
      rintro e W' ⟨q, rfl, hq, hb⟩
      dsimp only
      obtain ⟨Aq, cq, rfl⟩ := ownI_shape hq
      have Hn := Lib.hid (show (Value.slice Aq J.d.length cq).ownBlock ≠ some bB from fun e => by have := hq.lt bB e; omega)
      clear g6
      have hz := ownI_call hz hb
      have GB := GB.call hb
      have hy := own_call2 hy hb
      refine hK.out _ _ (⟨hS.1.call hb, belI_call hS.2 hb⟩) (fun hS => ?_)
      clear hK
      (try simp only [Act.put]); (try simp only [zPa]); (try simp only [zPb, zPc])
      refine wpAnyH_ready (rs := [8]) (by kernel_rfl) (by simp) ?_
      refine (AllReadyH.cons rfl (fun K hK => ?_) AllReadyH.nil)
      ·rw [if_pos (by kernel_rfl)]
       (try simp only [zGa]); (try simp only [zGb]); (try simp only [zGc])
       refine wp_store_bk 55 (.tmp 7) (.tmp 28) rfl bB _ #[.int .i64 0, .int .i64 0, .slice none 0 0] #[.int .i64 J.w, .int .i64 J.h, .slice Aq J.d.length cq] (by kernel_rfl) rfl (by simp [Value.oneCell']) rfl (by first | with_reducible rfl | (go_simp; done) | rfl) GB ?_
       intro W9 IB hgB
       have B9 := (Chg.of_grown hgB).below hS.2 hS.2.size (fun k hk => eq_of_single hk ▸ KB.out)
       skip
       skip
       skip
       have hq9 := hq.kept hgB (by by_cases hv : (Value.slice Aq J.d.length cq).ownBlock = none; exact .inl hv; exact .inr Hn.out)
       refine hK.out _ _ (⟨HS.out.call B9, B9⟩) (fun hS => ?_)
       clear hK
       (try simp only [Act.put]); (try simp only [zPa]); (try simp only [zPb, zPc])
       refine wpAnyH_done (by kernel_rfl) ?_ _
       go_wp2_with fail
       go_meet
       case rel => exact ⟨_, rfl, bB, _, rfl, IB, RdI.of_own hq9, hS.2⟩
  ·rw [if_pos (by kernel_rfl)]
   (try simp only [zGa]); (try simp only [zGb]); (try simp only [zGc])
   have k7 := hS.2.size
   refine wp_alloc_bk 55 #[.int .i64 0, .int .i64 0, .slice none 0 0] (fun _ => by kernel_rfl) rfl 7 rfl ?_
   intro bB W' hb GB lB
   have KB := Lib.hid (Nat.le_trans k7 lB)
   clear k7
   refine hK.out _ _ (⟨hS.1.call hb, belI_call hS.2 hb⟩) (fun hS => ?_)
   clear hK
   (try simp only [Act.put]); (try simp only [zPa]); (try simp only [zPb, zPc])
   refine wpAnyH_ready (rs := [1]) (by kernel_rfl) (by simp) ?_
   refine (AllReadyH.cons rfl (fun K hK => ?_) AllReadyH.nil)
   ·rw [if_pos (by kernel_rfl)]
    (try simp only [zGa]); (try simp only [zGb]); (try simp only [zGc])
    go_simp
    with_reducible refine (HPS.out _ _ _ hS.1.a.r).mono ?_
    rintro e W' ⟨z, rfl, hz, hb⟩
    dsimp only
    obtain ⟨Az, cz, rfl⟩ := ownI_shape hz
    have GB := GB.call hb
    refine hK.out _ _ (⟨hS.1.call hb, belI_call hS.2 hb⟩) (fun hS => ?_)
    clear hK
    (try simp only [Act.put]); (try simp only [zPa]); (try simp only [zPb, zPc])
    refine wpAnyH_ready (rs := [5]) (by kernel_rfl) (by simp) ?_
    refine (AllReadyH.cons rfl (fun K hK => ?_) AllReadyH.nil)
    ·rw [if_pos (by kernel_rfl)]
     (try simp only [zGa]); (try simp only [zGb]); (try simp only [zGc])
     go_simp
     with_reducible refine (HD1.out _ _ _ _ _ hS.1.a.r hS.1.b.r).mono ?_
     rintro e W' ⟨y, rfl, hy, hb⟩
     dsimp only
     obtain ⟨Ay, cy, rfl⟩ := own_shape hy
     have GB := GB.call hb
     have hz := ownI_call hz hb
     refine hK.out _ _ (⟨hS.1.call hb, belI_call hS.2 hb⟩) (fun hS => ?_)
     clear hK
     (try simp only [Act.put]); (try simp only [zPa]); (try simp only [zPb, zPc])
     refine wpAnyH_ready (rs := [6]) (by kernel_rfl) (by simp) ?_
     refine (AllReadyH.cons rfl (fun K hK => ?_) AllReadyH.nil)
     ·rw [if_pos (by kernel_rfl)]
      (try simp only [zGa]); (try simp only [zGb]); (try simp only [zGc])
      go_simp
      have g6 := GB.lt
      with_reducible refine (HP1.out _ _ _ _ _ (RdI.of_own hz) hS.1.b.r (RdR.of_own hy)).mono ?_
      rintro e W' ⟨q, rfl, hq, hb⟩
      dsimp only
      obtain ⟨Aq, cq, rfl⟩ := ownI_shape hq
      have Hn := Lib.hid (show (Value.slice Aq J.d.length cq).ownBlock ≠ some bB from fun e => by have := hq.lt bB e; omega)
      clear g6
      have GB := GB.call hb
      have hz := ownI_call hz hb
      have hy := own_call2 hy hb
      refine hK.out _ _ (⟨hS.1.call hb, belI_call hS.2 hb⟩) (fun hS => ?_)
      clear hK
      (try simp only [Act.put]); (try simp only [zPa]); (try simp only [zPb, zPc])
      refine wpAnyH_ready (rs := [8]) (by kernel_rfl) (by simp) ?_
      refine (AllReadyH.cons rfl (fun K hK => ?_) AllReadyH.nil)
      ·rw [if_pos (by kernel_rfl)]
       (try simp only [zGa]); (try simp only [zGb]); (try simp only [zGc])
       refine wp_store_bk 55 (.tmp 7) (.tmp 28) rfl bB _ #[.int .i64 0, .int .i64 0, .slice none 0 0] #[.int .i64 J.w, .int .i64 J.h, .slice Aq J.d.length cq] (by kernel_rfl) rfl (by simp [Value.oneCell']) rfl (by first | with_reducible rfl | (go_simp; done) | rfl) GB ?_
       intro W9 IB hgB
       have B9 := (Chg.of_grown hgB).below hS.2 hS.2.size (fun k hk => eq_of_single hk ▸ KB.out)
       skip
       skip
       skip
       have hq9 := hq.kept hgB (by by_cases hv : (Value.slice Aq J.d.length cq).ownBlock = none; exact .inl hv; exact .inr Hn.out)
       refine hK.out _ _ (⟨HS.out.call B9, B9⟩) (fun hS => ?_)
       clear hK
       (try simp only [Act.put]); (try simp only [zPa]); (try simp only [zPb, zPc])
       refine wpAnyH_done (by kernel_rfl) ?_ _
       go_wp2_with fail
       go_meet
       case rel => exact ⟨_, rfl, bB, _, rfl, IB, RdI.of_own hq9, hS.2⟩
 case rest =>
  obtain ⟨V7, hV7, b7, uj, rfl, hB7, hJd, hb7⟩ := hcut
  subst hV7
  have HS7 := Lib.hid (HS.out.call hb7)
  have HB7 := Lib.hid hB7
  have HJd := Lib.hid hJd
  clear hB7 hJd hb7 HS
  go_upto_region 6 with fail
  go_cut [8] (fun s8 wx => ∃ V, V = wx ∧ ∃ b8 ui, s8 = .pointer (some ⟨b8, 0, none⟩) ∧ BkAt V b8 55 #[.int .i64 I.w, .int .i64 I.h, ui] ∧ RdI V ui I.d ∧ Below V7.heap.size V7 V)
  case first =>
   refine wp_region_held_drew (S := fun V => RpA w s (.slice A s.fs.length c) bs b3 t (.slice B t.fs.length m) bt b5 V ∧ Below V7.heap.size V7 V) (by kernel_rfl) ⟨HS7.out.call (belI_drew _), belI_drew _⟩ (fun hS => ?_)
   refine tcH (i := 0) (v := .agg #[.int .i64 t.w, .int .i64 t.h, .int .i64 t.back, .slice B t.fs.length m]) rfl (by intro w' hSw; (try dsimp only at hSw); (obtain ⟨d0, d1, d2, d3⟩ := hSw.1.b.cells); go_simp) ?_
   refine tcH (i := 2) (v := .agg #[.int .i64 s.w, .int .i64 s.h, .int .i64 s.back, .slice A s.fs.length c]) rfl (by intro w' hSw; (try dsimp only at hSw); (obtain ⟨d0, d1, d2, d3⟩ := hSw.1.a.cells); go_simp) ?_
   refine tcH (i := 3) (v := .agg #[.int .i64 t.w, .int .i64 t.h, .int .i64 t.back, .slice B t.fs.length m]) rfl (by intro w' hSw; (try dsimp only at hSw); (obtain ⟨d0, d1, d2, d3⟩ := hSw.1.b.cells); go_simp) ?_
   refine tcH (i := 4) (v := .agg #[.int .i64 s.w, .int .i64 s.h, .int .i64 s.back, .slice A s.fs.length c]) rfl (by intro w' hSw; (try dsimp only at hSw); (obtain ⟨d0, d1, d2, d3⟩ := hSw.1.a.cells); go_simp) ?_
   (try simp only [Act.put]); (try simp only [zPa]); (try simp only [zPb, zPc])
   refine wpAnyH_ready (rs := [1, 7]) (by kernel_rfl) (by simp) ?_
   refine (AllReadyH.cons rfl (fun K hK => ?_) (AllReadyH.cons rfl (fun K hK => ?_) AllReadyH.nil))
   ·rw [if_pos (by kernel_rfl)]
    (try simp only [zGa]); (try simp only [zGb]); (try simp only [zGc])
    go_simp
    with_reducible refine (HPT.out _ _ _ hS.1.b.r).mono ?_
    rintro e W' ⟨z, rfl, hz, hb⟩
    dsimp only
    obtain ⟨Az, cz, rfl⟩ := ownI_shape hz
    refine hK.out _ _ (⟨hS.1.call hb, belI_call hS.2 hb⟩) (fun hS => ?_)
    clear hK
    (try simp only [Act.put]); (try simp only [zPa]); (try simp only [zPb, zPc])
    refine wpAnyH_ready (rs := [5, 7]) (by kernel_rfl) (by simp) ?_
    refine (AllReadyH.cons rfl (fun K hK => ?_) (AllReadyH.cons rfl (fun K hK => ?_) AllReadyH.nil))
    ·rw [if_pos (by kernel_rfl)]
     (try simp only [zGa]); (try simp only [zGb]); (try simp only [zGc])
     go_simp
     with_reducible refine (HD2.out _ _ _ _ _ hS.1.b.r hS.1.a.r).mono ?_
     rintro e W' ⟨y, rfl, hy, hb⟩
     dsimp only
     obtain ⟨Ay, cy, rfl⟩ := own_shape hy
     have hz := ownI_call hz hb
     refine hK.out _ _ (⟨hS.1.call hb, belI_call hS.2 hb⟩) (fun hS => ?_)
     clear hK
     (try simp only [Act.put]); (try simp only [zPa]); (try simp only [zPb, zPc])
     refine wpAnyH_ready (rs := [6, 7]) (by kernel_rfl) (by simp) ?_
     refine (AllReadyH.cons rfl (fun K hK => ?_) (AllReadyH.cons rfl (fun K hK => ?_) AllReadyH.nil))
     ·rw [if_pos (by kernel_rfl)]
      (try simp only [zGa]); (try simp only [zGb]); (try simp only [zGc])
      go_simp
      with_reducible refine (HP2.out _ _ _ _ _ (RdI.of_own hz) hS.1.a.r (RdR.of_own hy)).mono ?_
      rintro e W' ⟨q, rfl, hq, hb⟩
      dsimp only
      obtain ⟨Aq, cq, rfl⟩ := ownI_shape hq
      have hz := ownI_call hz hb
      have hy := own_call2 hy hb
      refine hK.out _ _ (⟨hS.1.call hb, belI_call hS.2 hb⟩) (fun hS => ?_)
      clear hK
      (try simp only [Act.put]); (try simp only [zPa]); (try simp only [zPb, zPc])
      refine wpAnyH_ready (rs := [7]) (by kernel_rfl) (by simp) ?_
      refine (AllReadyH.cons rfl (fun K hK => ?_) AllReadyH.nil)
      ·rw [if_pos (by kernel_rfl)]
       (try simp only [zGa]); (try simp only [zGb]); (try simp only [zGc])
       have k7 := hS.2.size
       refine wp_alloc_bk 55 #[.int .i64 0, .int .i64 0, .slice none 0 0] (fun _ => by kernel_rfl) rfl 8 rfl ?_
       intro bB W' hb GB lB
       have KB := Lib.hid (Nat.le_trans k7 lB)
       clear k7
       have Hn := Lib.hid (show (Value.slice Aq I.d.length cq).ownBlock ≠ some bB from fun e => by have := hq.lt bB e; omega)
       have hz := ownI_call hz hb
       have hy := own_call2 hy hb
       have hq := ownI_call hq hb
       refine hK.out _ _ (⟨hS.1.call hb, belI_call hS.2 hb⟩) (fun hS => ?_)
       clear hK
       (try simp only [Act.put]); (try simp only [zPa]); (try simp only [zPb, zPc])
       refine wpAnyH_ready (rs := [8]) (by kernel_rfl) (by simp) ?_
       refine (AllReadyH.cons rfl (fun K hK => ?_) AllReadyH.nil)
       ·rw [if_pos (by kernel_rfl)]
        (try simp only [zGa]); (try simp only [zGb]); (try simp only [zGc])
        refine wp_store_bk 55 (.tmp 8) (.tmp 35) rfl bB _ #[.int .i64 0, .int .i64 0, .slice none 0 0] #[.int .i64 I.w, .int .i64 I.h, .slice Aq I.d.length cq] (by kernel_rfl) rfl (by simp [Value.oneCell']) rfl (by first | with_reducible rfl | (go_simp; done) | rfl) GB ?_
        intro W9 IB hgB
        have B9 := (Chg.of_grown hgB).below hS.2 hS.2.size (fun k hk => eq_of_single hk ▸ KB.out)
        skip
        skip
        have hq9 := hq.kept hgB (by by_cases hv : (Value.slice Aq I.d.length cq).ownBlock = none; exact .inl hv; exact .inr Hn.out)
        skip
        refine hK.out _ _ (⟨HS7.out.call B9, B9⟩) (fun hS => ?_)
        clear hK
        (try simp only [Act.put]); (try simp only [zPa]); (try simp only [zPb, zPc])
        refine wpAnyH_done (by kernel_rfl) ?_ _
        go_wp2_with fail
        go_meet
        case rel => exact ⟨_, rfl, bB, _, rfl, IB, RdI.of_own hq9, hS.2⟩
     ·rw [if_pos (by kernel_rfl)]
      (try simp only [zGa]); (try simp only [zGb]); (try simp only [zGc])
      have k7 := hS.2.size
      refine wp_alloc_bk 55 #[.int .i64 0, .int .i64 0, .slice none 0 0] (fun _ => by kernel_rfl) rfl 8 rfl ?_
      intro bB W' hb GB lB
      have KB := Lib.hid (Nat.le_trans k7 lB)
      clear k7
      have hz := ownI_call hz hb
      have hy := own_call2 hy hb
      refine hK.out _ _ (⟨hS.1.call hb, belI_call hS.2 hb⟩) (fun hS => ?_)
      clear hK
      (try simp only [Act.put]); (try simp only [zPa]); (try simp only [zPb, zPc])
      refine wpAnyH_ready (rs := [6]) (by kernel_rfl) (by simp) ?_
      refine (AllReadyH.cons rfl (fun K hK => ?_) AllReadyH.nil)
      ·rw [if_pos (by kernel_rfl)]
       (try simp only [zGa]); (try simp only [zGb]); (try simp only [zGc])
       go_simp
       have g6 := GB.lt
       with_reducible refine (HP2.out _ _ _ _ _ (RdI.of_own hz) hS.1.a.r (RdR.of_own hy)).mono ?_
       rintro e W' ⟨q, rfl, hq, hb⟩
       dsimp only
       obtain ⟨Aq, cq, rfl⟩ := ownI_shape hq
       have Hn := Lib.hid (show (Value.slice Aq I.d.length cq).ownBlock ≠ some bB from fun e => by have := hq.lt bB e; omega)
       clear g6
       have hz := ownI_call hz hb
       have hy := own_call2 hy hb
       have GB := GB.call hb
       refine hK.out _ _ (⟨hS.1.call hb, belI_call hS.2 hb⟩) (fun hS => ?_)
       clear hK
       (try simp only [Act.put]); (try simp only [zPa]); (try simp only [zPb, zPc])
       refine wpAnyH_ready (rs := [8]) (by kernel_rfl) (by simp) ?_
       refine (AllReadyH.cons rfl (fun K hK => ?_) AllReadyH.nil)
       ·rw [if_pos (by kernel_rfl)]
        (try simp only [zGa]); (try simp only [zGb]); (try simp only [zGc])
        refine wp_store_bk 55 (.tmp 8) (.tmp 35) rfl bB _ #[.int .i64 0, .int .i64 0, .slice none 0 0] #[.int .i64 I.w, .int .i64 I.h, .slice Aq I.d.length cq] (by kernel_rfl) rfl (by simp [Value.oneCell']) rfl (by first | with_reducible rfl | (go_simp; done) | rfl) GB ?_
        intro W9 IB hgB
        have B9 := (Chg.of_grown hgB).below hS.2 hS.2.size (fun k hk => eq_of_single hk ▸ KB.out)
        skip
        skip
        skip
        have hq9 := hq.kept hgB (by by_cases hv : (Value.slice Aq I.d.length cq).ownBlock = none; exact .inl hv; exact .inr Hn.out)
        refine hK.out _ _ (⟨HS7.out.call B9, B9⟩) (fun hS => ?_)
        clear hK
        (try simp only [Act.put]); (try simp only [zPa]); (try simp only [zPb, zPc])
        refine wpAnyH_done (by kernel_rfl) ?_ _
        go_wp2_with fail
        go_meet
        case rel => exact ⟨_, rfl, bB, _, rfl, IB, RdI.of_own hq9, hS.2⟩
    ·rw [if_pos (by kernel_rfl)]
     (try simp only [zGa]); (try simp only [zGb]); (try simp only [zGc])
     have k7 := hS.2.size
     refine wp_alloc_bk 55 #[.int .i64 0, .int .i64 0, .slice none 0 0] (fun _ => by kernel_rfl) rfl 8 rfl ?_
     intro bB W' hb GB lB
     have KB := Lib.hid (Nat.le_trans k7 lB)
     clear k7
     have hz := ownI_call hz hb
     refine hK.out _ _ (⟨hS.1.call hb, belI_call hS.2 hb⟩) (fun hS => ?_)
     clear hK
     (try simp only [Act.put]); (try simp only [zPa]); (try simp only [zPb, zPc])
     refine wpAnyH_ready (rs := [5]) (by kernel_rfl) (by simp) ?_
     refine (AllReadyH.cons rfl (fun K hK => ?_) AllReadyH.nil)
     ·rw [if_pos (by kernel_rfl)]
      (try simp only [zGa]); (try simp only [zGb]); (try simp only [zGc])
      go_simp
      with_reducible refine (HD2.out _ _ _ _ _ hS.1.b.r hS.1.a.r).mono ?_
      rintro e W' ⟨y, rfl, hy, hb⟩
      dsimp only
      obtain ⟨Ay, cy, rfl⟩ := own_shape hy
      have hz := ownI_call hz hb
      have GB := GB.call hb
      refine hK.out _ _ (⟨hS.1.call hb, belI_call hS.2 hb⟩) (fun hS => ?_)
      clear hK
      (try simp only [Act.put]); (try simp only [zPa]); (try simp only [zPb, zPc])
      refine wpAnyH_ready (rs := [6]) (by kernel_rfl) (by simp) ?_
      refine (AllReadyH.cons rfl (fun K hK => ?_) AllReadyH.nil)
      ·rw [if_pos (by kernel_rfl)]
       (try simp only [zGa]); (try simp only [zGb]); (try simp only [zGc])
       go_simp
       have g6 := GB.lt
       with_reducible refine (HP2.out _ _ _ _ _ (RdI.of_own hz) hS.1.a.r (RdR.of_own hy)).mono ?_
       rintro e W' ⟨q, rfl, hq, hb⟩
       dsimp only
       obtain ⟨Aq, cq, rfl⟩ := ownI_shape hq
       have Hn := Lib.hid (show (Value.slice Aq I.d.length cq).ownBlock ≠ some bB from fun e => by have := hq.lt bB e; omega)
       clear g6
       have hz := ownI_call hz hb
       have GB := GB.call hb
       have hy := own_call2 hy hb
       refine hK.out _ _ (⟨hS.1.call hb, belI_call hS.2 hb⟩) (fun hS => ?_)
       clear hK
       (try simp only [Act.put]); (try simp only [zPa]); (try simp only [zPb, zPc])
       refine wpAnyH_ready (rs := [8]) (by kernel_rfl) (by simp) ?_
       refine (AllReadyH.cons rfl (fun K hK => ?_) AllReadyH.nil)
       ·rw [if_pos (by kernel_rfl)]
        (try simp only [zGa]); (try simp only [zGb]); (try simp only [zGc])
        refine wp_store_bk 55 (.tmp 8) (.tmp 35) rfl bB _ #[.int .i64 0, .int .i64 0, .slice none 0 0] #[.int .i64 I.w, .int .i64 I.h, .slice Aq I.d.length cq] (by kernel_rfl) rfl (by simp [Value.oneCell']) rfl (by first | with_reducible rfl | (go_simp; done) | rfl) GB ?_
        intro W9 IB hgB
        have B9 := (Chg.of_grown hgB).below hS.2 hS.2.size (fun k hk => eq_of_single hk ▸ KB.out)
        skip
        skip
        skip
        have hq9 := hq.kept hgB (by by_cases hv : (Value.slice Aq I.d.length cq).ownBlock = none; exact .inl hv; exact .inr Hn.out)
        refine hK.out _ _ (⟨HS7.out.call B9, B9⟩) (fun hS => ?_)
        clear hK
        (try simp only [Act.put]); (try simp only [zPa]); (try simp only [zPb, zPc])
        refine wpAnyH_done (by kernel_rfl) ?_ _
        go_wp2_with fail
        go_meet
        case rel => exact ⟨_, rfl, bB, _, rfl, IB, RdI.of_own hq9, hS.2⟩
   ·rw [if_pos (by kernel_rfl)]
    (try simp only [zGa]); (try simp only [zGb]); (try simp only [zGc])
    have k7 := hS.2.size
    refine wp_alloc_bk 55 #[.int .i64 0, .int .i64 0, .slice none 0 0] (fun _ => by kernel_rfl) rfl 8 rfl ?_
    intro bB W' hb GB lB
    have KB := Lib.hid (Nat.le_trans k7 lB)
    clear k7
    refine hK.out _ _ (⟨hS.1.call hb, belI_call hS.2 hb⟩) (fun hS => ?_)
    clear hK
    (try simp only [Act.put]); (try simp only [zPa]); (try simp only [zPb, zPc])
    refine wpAnyH_ready (rs := [1]) (by kernel_rfl) (by simp) ?_
    refine (AllReadyH.cons rfl (fun K hK => ?_) AllReadyH.nil)
    ·rw [if_pos (by kernel_rfl)]
     (try simp only [zGa]); (try simp only [zGb]); (try simp only [zGc])
     go_simp
     with_reducible refine (HPT.out _ _ _ hS.1.b.r).mono ?_
     rintro e W' ⟨z, rfl, hz, hb⟩
     dsimp only
     obtain ⟨Az, cz, rfl⟩ := ownI_shape hz
     have GB := GB.call hb
     refine hK.out _ _ (⟨hS.1.call hb, belI_call hS.2 hb⟩) (fun hS => ?_)
     clear hK
     (try simp only [Act.put]); (try simp only [zPa]); (try simp only [zPb, zPc])
     refine wpAnyH_ready (rs := [5]) (by kernel_rfl) (by simp) ?_
     refine (AllReadyH.cons rfl (fun K hK => ?_) AllReadyH.nil)
     ·rw [if_pos (by kernel_rfl)]
      (try simp only [zGa]); (try simp only [zGb]); (try simp only [zGc])
      go_simp
      with_reducible refine (HD2.out _ _ _ _ _ hS.1.b.r hS.1.a.r).mono ?_
      rintro e W' ⟨y, rfl, hy, hb⟩
      dsimp only
      obtain ⟨Ay, cy, rfl⟩ := own_shape hy
      have GB := GB.call hb
      have hz := ownI_call hz hb
      refine hK.out _ _ (⟨hS.1.call hb, belI_call hS.2 hb⟩) (fun hS => ?_)
      clear hK
      (try simp only [Act.put]); (try simp only [zPa]); (try simp only [zPb, zPc])
      refine wpAnyH_ready (rs := [6]) (by kernel_rfl) (by simp) ?_
      refine (AllReadyH.cons rfl (fun K hK => ?_) AllReadyH.nil)
      ·rw [if_pos (by kernel_rfl)]
       (try simp only [zGa]); (try simp only [zGb]); (try simp only [zGc])
       go_simp
       have g6 := GB.lt
       with_reducible refine (HP2.out _ _ _ _ _ (RdI.of_own hz) hS.1.a.r (RdR.of_own hy)).mono ?_
       rintro e W' ⟨q, rfl, hq, hb⟩
       dsimp only
       obtain ⟨Aq, cq, rfl⟩ := ownI_shape hq
       have Hn := Lib.hid (show (Value.slice Aq I.d.length cq).ownBlock ≠ some bB from fun e => by have := hq.lt bB e; omega)
       clear g6
       have GB := GB.call hb
       have hz := ownI_call hz hb
       have hy := own_call2 hy hb
       refine hK.out _ _ (⟨hS.1.call hb, belI_call hS.2 hb⟩) (fun hS => ?_)
       clear hK
       (try simp only [Act.put]); (try simp only [zPa]); (try simp only [zPb, zPc])
       refine wpAnyH_ready (rs := [8]) (by kernel_rfl) (by simp) ?_
       refine (AllReadyH.cons rfl (fun K hK => ?_) AllReadyH.nil)
       ·rw [if_pos (by kernel_rfl)]
        (try simp only [zGa]); (try simp only [zGb]); (try simp only [zGc])
        refine wp_store_bk 55 (.tmp 8) (.tmp 35) rfl bB _ #[.int .i64 0, .int .i64 0, .slice none 0 0] #[.int .i64 I.w, .int .i64 I.h, .slice Aq I.d.length cq] (by kernel_rfl) rfl (by simp [Value.oneCell']) rfl (by first | with_reducible rfl | (go_simp; done) | rfl) GB ?_
        intro W9 IB hgB
        have B9 := (Chg.of_grown hgB).below hS.2 hS.2.size (fun k hk => eq_of_single hk ▸ KB.out)
        skip
        skip
        skip
        have hq9 := hq.kept hgB (by by_cases hv : (Value.slice Aq I.d.length cq).ownBlock = none; exact .inl hv; exact .inr Hn.out)
        refine hK.out _ _ (⟨HS7.out.call B9, B9⟩) (fun hS => ?_)
        clear hK
        (try simp only [Act.put]); (try simp only [zPa]); (try simp only [zPb, zPc])
        refine wpAnyH_done (by kernel_rfl) ?_ _
        go_wp2_with fail
        go_meet
        case rel => exact ⟨_, rfl, bB, _, rfl, IB, RdI.of_own hq9, hS.2⟩
  case rest =>
   obtain ⟨V8, hV8, b8, ui, rfl, hB8, hId, hb8⟩ := hcut
   subst hV8
   have hT : RpB w s (.slice A s.fs.length c) bs b3 t (.slice B t.fs.length m) bt b5 J uj b7 I ui b8 V8 := ⟨HS7.out.call hb8, HB7.out.call hb8, HJd.out.call hb8, hB8, hId⟩
   obtain ⟨Aj, cj, rfl⟩ := hT.jd.form
   obtain ⟨Ai, ci, rfl⟩ := hT.id.form
   clear hB8 hId hb8 HS7 HB7 HJd
   go_upto_region 7 with fail
   refine wp_region_held_drew (S := fun V => RpB w s (.slice A s.fs.length c) bs b3 t (.slice B t.fs.length m) bt b5 J (.slice Aj J.d.length cj) b7 I (.slice Ai I.d.length ci) b8 V) (by kernel_rfl) (hT.call (belI_drew _)) (fun hS => ?_)
   refine tcH (i := 0) (v := .agg #[.int .i64 J.w, .int .i64 J.h, .slice Aj J.d.length cj]) rfl (by intro w' hSw; (try dsimp only at hSw); (have e0 := hSw.j.cell 0 rfl); (have e1 := hSw.j.cell 1 rfl); (have e2 := hSw.j.cell 2 rfl); go_simp) ?_
   refine tcH (i := 1) (v := .agg #[.int .i64 t.w, .int .i64 t.h, .int .i64 t.back, .slice B t.fs.length m]) rfl (by intro w' hSw; (try dsimp only at hSw); (obtain ⟨d0, d1, d2, d3⟩ := hSw.y.b.cells); go_simp) ?_
   (try simp only [Act.put]); (try simp only [zPa]); (try simp only [zPb, zPc])
   refine wpAnyH_ready (rs := [2]) (by kernel_rfl) (by simp) ?_
   refine (AllReadyH.cons rfl (fun K hK => ?_) AllReadyH.nil)
   ·rw [if_pos (by kernel_rfl)]
    (try simp only [zGa]); (try simp only [zGb]); (try simp only [zGc])
    go_simp
    with_reducible refine (HPT.out _ _ _ hS.y.b.r).mono ?_
    rintro e W' ⟨z, rfl, hz, hb⟩
    dsimp only
    obtain ⟨Az, cz, rfl⟩ := ownI_shape hz
    refine hK.out _ _ (hS.call hb) (fun hS => ?_)
    clear hK
    (try simp only [Act.put]); (try simp only [zPa]); (try simp only [zPb, zPc])
    refine wpAnyH_ready (rs := [3]) (by kernel_rfl) (by simp) ?_
    refine (AllReadyH.cons rfl (fun K hK => ?_) AllReadyH.nil)
    ·rw [if_pos (by kernel_rfl)]
     (try simp only [zGa]); (try simp only [zGb]); (try simp only [zGc])
     go_simp
     with_reducible refine (HSJ.out _ _ _ hS.jd (RdI.of_own hz)).mono ?_
     rintro e W' ⟨rfl, hb⟩
     dsimp only
     have hz := ownI_call hz hb
     refine hK.out _ _ (hS.call hb) (fun hS => ?_)
     clear hK
     (try simp only [Act.put]); (try simp only [zPa]); (try simp only [zPb, zPc])
     refine tkH (i := 4) (v := .bool true) rfl ?_
     refine tcH (i := 5) (v := .agg #[.int .i64 I.w, .int .i64 I.h, .slice Ai I.d.length ci]) rfl (by intro w' hSw; (try dsimp only at hSw); (have e0 := hSw.i.cell 0 rfl); (have e1 := hSw.i.cell 1 rfl); (have e2 := hSw.i.cell 2 rfl); go_simp) ?_
     refine tcH (i := 6) (v := .agg #[.int .i64 s.w, .int .i64 s.h, .int .i64 s.back, .slice A s.fs.length c]) rfl (by intro w' hSw; (try dsimp only at hSw); (obtain ⟨d0, d1, d2, d3⟩ := hSw.y.a.cells); go_simp) ?_
     (try simp only [Act.put]); (try simp only [zPa]); (try simp only [zPb, zPc])
     refine wpAnyH_ready (rs := [7]) (by kernel_rfl) (by simp) ?_
     refine (AllReadyH.cons rfl (fun K hK => ?_) AllReadyH.nil)
     ·rw [if_pos (by kernel_rfl)]
      (try simp only [zGa]); (try simp only [zGb]); (try simp only [zGc])
      go_simp
      with_reducible refine (HPS.out _ _ _ hS.y.a.r).mono ?_
      rintro e W' ⟨x, rfl, hx, hb⟩
      dsimp only
      obtain ⟨Ax, cx, rfl⟩ := ownI_shape hx
      have hz := ownI_call hz hb
      refine hK.out _ _ (hS.call hb) (fun hS => ?_)
      clear hK
      (try simp only [Act.put]); (try simp only [zPa]); (try simp only [zPb, zPc])
      refine wpAnyH_ready (rs := [8]) (by kernel_rfl) (by simp) ?_
      refine (AllReadyH.cons rfl (fun K hK => ?_) AllReadyH.nil)
      ·rw [if_pos (by kernel_rfl)]
       (try simp only [zGa]); (try simp only [zGb]); (try simp only [zGc])
       go_simp
       with_reducible refine (HSI.out _ _ _ hS.id (RdI.of_own hx)).mono ?_
       rintro e W' ⟨rfl, hb⟩
       dsimp only
       have hz := ownI_call hz hb
       have hx := ownI_call hx hb
       refine hK.out _ _ (hS.call hb) (fun hS => ?_)
       clear hK
       (try simp only [Act.put]); (try simp only [zPa]); (try simp only [zPb, zPc])
       refine tkH (i := 9) (v := .bool true) rfl ?_
       refine tkH (i := 10) (v := .bool true) rfl ?_
       refine wpAnyH_done (by kernel_rfl) ?_ _
       have HK9 := Lib.hid hS.y.bw
       go_wp2_with fail
       go_ret
       exact ⟨rfl, HK9.out⟩
end Go.Proofs.YtokniebejilcbaaGreat
