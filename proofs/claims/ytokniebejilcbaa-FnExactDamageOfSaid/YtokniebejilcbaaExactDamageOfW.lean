/- The walk of the law FnExactDamageOf: it returns true for every two scenes. -/
import Derived.Test.YtokniebejilcbaaMAv23
import Derived.Test.YtokniebejilcbaaMAv3
import Derived.Test.YtokniebejilcbaaMAv123
import Derived.Test.YtokniebejilcbaaMBv3
import Derived.Test.YtokniebejilcbaaB1sav3
import Derived.Test.YtokniebejilcbaaMBv23
import Derived.Test.YtokniebejilcbaaSnSv3
import Derived.Test.YtokniebejilcbaaB1sbv3
import Derived.Test.YtokniebejilcbaaB0sav3
import Derived.Test.YtokniebejilcbaaDmIv3
import Derived.Test.YtokniebejilcbaaDmJv3
import Derived.Test.YtokniebejilcbaaDmSv3
import Derived.Test.YtokniebejilcbaaB4sav3
import Derived.Test.YtokniebejilcbaaProg
import Derived.WalkKit
import Derived.ProofKit
import Derived.OpenShut
import Derived.WalkLawsBesides
import Derived.WalkSpells
import Derived.ShutString
import Derived.ChangeOld
import Derived.Below
import Derived.Lib.Hide
import Derived.BigQuiet
import Derived.Deep.QuietTactic
import Derived.Maps.AppendAt
import Derived.Deep.OwnRows
import Derived.Handy
import Derived.Deep.Draws
import Derived.OwnWalk
import Derived.Deep.AppendLies
import Derived.Deep.LoopGhost
import Derived.Deep.Onto
import Derived.Deep.MidRow
import Derived.Deep.WholeRow
import Derived.Laws.BitsAllLaws
import Derived.Lib.QuoteBits
import Derived.Deep.RegionHeld3
import Derived.Deep.DeepCutAuto
import Derived.Test.YtokniebejilcbaaShelf
import Derived.Laws.CopyOwn
import Derived.Deep.RegionLaw
import Derived.Great.BuildSlice
import Derived.Laws.AppendOwn
import Derived.ChangeKeysEq
import Derived.Deep.RegionWith
import Derived.Maps.RangeWalk
import Derived.Maps.OwnOps
import Derived.Shelf.RegionOpenPlain
import Derived.Lib.SliceRun
import Derived.Deep.DeepAppendRoom
namespace Go.Proofs.Ytokniebejilcbaa
open Go.RowKit
set_option maxHeartbeats 8000000 in
set_option maxRecDepth 100000 in
theorem walk_FnExactDamageOf (f0 : Sn) (d0 : Value) (f1 : Sn) (d1 : Value) (w : World) (h0 : wkSn.R w f0 [.int .i64 f0.w, .int .i64 f0.h, .int .i64 f0.back, d0]) (h1 : wkSn.R w f1 [.int .i64 f1.w, .int .i64 f1.h, .int .i64 f1.back, d1]) :
  Calls Try.prog 11 #[.agg #[.int .i64 f0.w, .int .i64 f0.h, .int .i64 f0.back, d0], .agg #[.int .i64 f1.w, .int .i64 f1.h, .int .i64 f1.back, d1]] w fun e w' => e = .returned (.bool true) ∧ Below w.heap.size w w' := by
 obtain ⟨A0, c0, rfl⟩ := wform_sn h0
 have O0 := Lib.hid h0
 obtain ⟨A1, c1, rfl⟩ := wform_sn h1
 have O1 := Lib.hid h1
 have Kw := Below.refl w.heap.size w
 have hb0 := belI_box w (.cells #[.int .i64 f0.w, .int .i64 f0.h, .int .i64 f0.back, .slice A0 f0.fs.length c0] 49)
 have a0 : ArgB wkSn 49 (w.heap.size) f0 [.int .i64 f0.w, .int .i64 f0.h, .int .i64 f0.back, .slice A0 f0.fs.length c0] (w.alloc (.cells #[.int .i64 f0.w, .int .i64 f0.h, .int .i64 f0.back, .slice A0 f0.fs.length c0] 49)) := ArgB.bornAt (w := w) (by simp) (wkSn.call h0 Kw) _
 replace Kw := belI_call Kw hb0
 clear hb0
 have hb1 := belI_box (w.alloc (.cells #[.int .i64 f0.w, .int .i64 f0.h, .int .i64 f0.back, .slice A0 f0.fs.length c0] 49)) (.cells #[.int .i64 f1.w, .int .i64 f1.h, .int .i64 f1.back, .slice A1 f1.fs.length c1] 49)
 replace a0 := a0.call hb1
 have a1 : ArgB wkSn 49 (w.heap.size + 1) f1 [.int .i64 f1.w, .int .i64 f1.h, .int .i64 f1.back, .slice A1 f1.fs.length c1] ((w.alloc (.cells #[.int .i64 f0.w, .int .i64 f0.h, .int .i64 f0.back, .slice A0 f0.fs.length c0] 49)).alloc (.cells #[.int .i64 f1.w, .int .i64 f1.h, .int .i64 f1.back, .slice A1 f1.fs.length c1] 49)) := ArgB.bornAt (w := (w.alloc (.cells #[.int .i64 f0.w, .int .i64 f0.h, .int .i64 f0.back, .slice A0 f0.fs.length c0] 49))) (by simp) (wkSn.call h1 Kw) _
 replace Kw := belI_call Kw hb1
 clear hb1
 obtain ⟨w0, hw0⟩ : ∃ w0, w0 = ((w.alloc (.cells #[.int .i64 f0.w, .int .i64 f0.h, .int .i64 f0.back, .slice A0 f0.fs.length c0] 49)).alloc (.cells #[.int .i64 f1.w, .int .i64 f1.h, .int .i64 f1.back, .slice A1 f1.fs.length c1] 49)) := ⟨_, rfl⟩
 rw [← hw0] at Kw a0 a1
 have Hw := Lib.hid hw0
 clear hw0 h0 h1
 by_cases g0 : (sizFs f0.fs) ≤ 1048576
 rotate_left
 ·have g' : ¬ (sizFs f0.fs) ≤ 1048576 := g0
  have a0_0 := a0.at_.cell 0 rfl
  have a0_1 := a0.at_.cell 1 rfl
  have a0_2 := a0.at_.cell 2 rfl
  have a0_3 := a0.at_.cell 3 rfl
  go_enter Try.func11, Try.ntmps11
  go_wp2_with fail
  rw [← Hw.out]
  clear a0_0 a0_1 a0_2 a0_3
  have q0 : (0 : Int) ≤ (1048576 : Int) := by omega
  have q1 : (1048576 : Int) < (((sizFs f0.fs) : Nat) : Int) := by omega
  refine (sz_sn_no f0 _ _ _ a0.rd q0 q1 (by omega)).mono ?_
  rintro e w1 ⟨rfl, hb⟩
  replace a0 := a0.call hb
  replace a1 := a1.call hb
  replace Kw := belI_call Kw hb
  clear hb
  go_wp2_with fail
  go_ret
  exact ⟨rfl, Kw⟩
 by_cases g1 : (sizFs f0.fs) + (sizFs f1.fs) ≤ 1048576
 rotate_left
 ·have g' : ¬ (sizFs f0.fs) + (sizFs f1.fs) ≤ 1048576 := g1
  have a0_0 := a0.at_.cell 0 rfl
  have a0_1 := a0.at_.cell 1 rfl
  have a0_2 := a0.at_.cell 2 rfl
  have a0_3 := a0.at_.cell 3 rfl
  go_enter Try.func11, Try.ntmps11
  go_wp2_with fail
  rw [← Hw.out]
  clear a0_0 a0_1 a0_2 a0_3
  refine (sz_sn_yes f0 _ _ _ a0.rd (by omega) (by omega)).mono ?_
  rintro e w2 ⟨rfl, hb⟩
  replace a0 := a0.call hb
  replace a1 := a1.call hb
  replace Kw := belI_call Kw hb
  clear hb
  have z0 : ¬ ((1048576 : Int) - (((sizFs f0.fs) : Nat) : Int)) < 0 := by omega
  have a1_0 := a1.at_.cell 0 rfl
  have a1_1 := a1.at_.cell 1 rfl
  have a1_2 := a1.at_.cell 2 rfl
  have a1_3 := a1.at_.cell 3 rfl
  go_wp2_with fail
  clear a1_0 a1_1 a1_2 a1_3
  have q0 : (0 : Int) ≤ ((1048576 : Int) - (((sizFs f0.fs) : Nat) : Int)) := by omega
  have q1 : ((1048576 : Int) - (((sizFs f0.fs) : Nat) : Int)) < (((sizFs f1.fs) : Nat) : Int) := by omega
  refine (sz_sn_no f1 _ _ _ a1.rd q0 q1 (by omega)).mono ?_
  rintro e w3 ⟨rfl, hb⟩
  replace a0 := a0.call hb
  replace a1 := a1.call hb
  replace Kw := belI_call Kw hb
  clear hb
  go_wp2_with fail
  go_ret
  exact ⟨rfl, Kw⟩
 have Hn0 := Lib.hid (show (sizFs f0.fs) ≤ 1048576 by omega)
 have Hn1 := Lib.hid (show (sizFs f1.fs) ≤ 1048576 by omega)
 have hcs0 := cnt_le_siz f0.fs
 have hcs1 := cnt_le_siz f1.fs
 obtain ⟨q0, hq0⟩ : ∃ q, q = dmgM f0 f1 := ⟨_, rfl⟩
 have hm0 : (4 * q0.length) ≤ 100000000 := by rw [hq0]; exact (by have := dmgM_len f0 f1; omega)
 have PS := fun (W : World) (u0 : Value) (bs0 : List Nat) (k0 : repSn.R W f0 [.int .i64 f0.w, .int .i64 f0.h, .int .i64 f0.back, u0] bs0) (u1 : Value) (bs1 : List Nat) (k1 : repSn.R W f1 [.int .i64 f1.w, .int .i64 f1.h, .int .i64 f1.back, u1] bs1) => dmgS' f0 f1 u0 u1 _ _ W (r_sn k0) (r_sn k1)
 have PI := fun (W : World) (u0 : Value) (bs0 : List Nat) (k0 : repSn.R W f0 [.int .i64 f0.w, .int .i64 f0.h, .int .i64 f0.back, u0] bs0) (u1 : Value) (bs1 : List Nat) (k1 : repSn.R W f1 [.int .i64 f1.w, .int .i64 f1.h, .int .i64 f1.back, u1] bs1) => dmgI' f0 f1 u0 u1 _ _ W (r_sn k0) (r_sn k1)
 unfold RgU at PS PI
 rw [← hq0] at PS PI
 have HS := Lib.hid PS
 have HI := Lib.hid PI
 clear PS PI hq0
 have a0_0 := a0.at_.cell 0 rfl
 have a0_1 := a0.at_.cell 1 rfl
 have a0_2 := a0.at_.cell 2 rfl
 have a0_3 := a0.at_.cell 3 rfl
 go_enter Try.func11, Try.ntmps11
 go_wp2_with fail
 rw [← Hw.out]
 clear a0_0 a0_1 a0_2 a0_3
 refine (sz_sn_yes f0 _ _ _ a0.rd (by omega) (by omega)).mono ?_
 rintro e w4 ⟨rfl, hb⟩
 replace a0 := a0.call hb
 replace a1 := a1.call hb
 replace Kw := belI_call Kw hb
 clear hb
 have z0 : ¬ ((1048576 : Int) - (((sizFs f0.fs) : Nat) : Int)) < 0 := by omega
 have a1_0 := a1.at_.cell 0 rfl
 have a1_1 := a1.at_.cell 1 rfl
 have a1_2 := a1.at_.cell 2 rfl
 have a1_3 := a1.at_.cell 3 rfl
 go_wp2_with fail
 clear a1_0 a1_1 a1_2 a1_3
 refine (sz_sn_yes f1 _ _ _ a1.rd (by omega) (by omega)).mono ?_
 rintro e w5 ⟨rfl, hb⟩
 replace a0 := a0.call hb
 replace a1 := a1.call hb
 replace Kw := belI_call Kw hb
 clear hb
 have z1 : ¬ (((1048576 : Int) - (((sizFs f0.fs) : Nat) : Int)) - (((sizFs f1.fs) : Nat) : Int)) < 0 := by omega
 have neg0 : ¬ ((1 + (4 * q0.length) : Nat) : Int) < 0 := by omega
 go_upto_region 8 with fail
 go_cut [6] (fun s6 wx => ∃ (b hi : Nat) (A : Option Addr) (c : Nat) (bs : List Nat), s6 = .pointer (some ⟨b, 0, none⟩) ∧ VarB repRg 85 w5.heap.size hi b q0 [.slice A q0.length c] bs wx ∧ Below w5.heap.size w5 wx)
 case first =>
  refine wp_region_held_drew (S := fun W => Below w5.heap.size w5 W) (by kernel_rfl) (Below.refl _ _).drew (fun hS => ?_)
  refine tcH (i := 0) (v := .agg #[.int .i64 f0.w, .int .i64 f0.h, .int .i64 f0.back, .slice A0 f0.fs.length c0]) rfl (by intro w' hSw; (try dsimp only at hSw); (have a0_0 := (a0.call hSw).at_.cell 0 rfl); (have a0_1 := (a0.call hSw).at_.cell 1 rfl); (have a0_2 := (a0.call hSw).at_.cell 2 rfl); (have a0_3 := (a0.call hSw).at_.cell 3 rfl); (have a1_0 := (a1.call hSw).at_.cell 0 rfl); (have a1_1 := (a1.call hSw).at_.cell 1 rfl); (have a1_2 := (a1.call hSw).at_.cell 2 rfl); (have a1_3 := (a1.call hSw).at_.cell 3 rfl); go_simp) ?_
  refine tcH (i := 2) (v := .agg #[.int .i64 f1.w, .int .i64 f1.h, .int .i64 f1.back, .slice A1 f1.fs.length c1]) rfl (by intro w' hSw; (try dsimp only at hSw); (have a0_0 := (a0.call hSw).at_.cell 0 rfl); (have a0_1 := (a0.call hSw).at_.cell 1 rfl); (have a0_2 := (a0.call hSw).at_.cell 2 rfl); (have a0_3 := (a0.call hSw).at_.cell 3 rfl); (have a1_0 := (a1.call hSw).at_.cell 0 rfl); (have a1_1 := (a1.call hSw).at_.cell 1 rfl); (have a1_2 := (a1.call hSw).at_.cell 2 rfl); (have a1_3 := (a1.call hSw).at_.cell 3 rfl); go_simp) ?_
  (try simp only [Act.put]); (try simp only [zPa]); (try simp only [zPb, zPc])
  refine wpAnyH_ready (rs := [1, 5]) (by kernel_rfl) (by simp) ?_
  refine (AllReadyH.cons rfl (fun K hK => ?_) (AllReadyH.cons rfl (fun K hK => ?_) AllReadyH.nil))
  ·rw [if_pos (by kernel_rfl)]
   (try simp only [zGa]); (try simp only [zGb]); (try simp only [zGc])
   go_simp
   with_reducible refine (to_sn f0 _ _ (a0.call hS).rd Hn0.out).mono ?_
   rintro e W' ⟨uo, bs_u1, rfl, u1, hb⟩
   obtain ⟨A_u1, c_u1, he⟩ := form_sn u1.r
   subst he
   replace u1 := u1.mono hS.size
   dsimp only
   refine hK.out _ _ (belI_call hS hb) (fun hS => ?_)
   clear hK
   (try simp only [Act.put]); (try simp only [zPa]); (try simp only [zPb, zPc])
   refine wpAnyH_ready (rs := [3, 5]) (by kernel_rfl) (by simp) ?_
   refine (AllReadyH.cons rfl (fun K hK => ?_) (AllReadyH.cons rfl (fun K hK => ?_) AllReadyH.nil))
   ·rw [if_pos (by kernel_rfl)]
    (try simp only [zGa]); (try simp only [zGb]); (try simp only [zGc])
    go_simp
    with_reducible refine (to_sn f1 _ _ (a1.call hS).rd Hn1.out).mono ?_
    rintro e W' ⟨uo, bs_u2, rfl, u2, hb⟩
    obtain ⟨A_u2, c_u2, he⟩ := form_sn u2.r
    subst he
    replace u2 := u2.mono hS.size
    dsimp only
    have u1 := u1.call hb
    refine hK.out _ _ (belI_call hS hb) (fun hS => ?_)
    clear hK
    (try simp only [Act.put]); (try simp only [zPa]); (try simp only [zPb, zPc])
    refine wpAnyH_ready (rs := [4, 5]) (by kernel_rfl) (by simp) ?_
    refine (AllReadyH.cons rfl (fun K hK => ?_) (AllReadyH.cons rfl (fun K hK => ?_) AllReadyH.nil))
    ·rw [if_pos (by kernel_rfl)]
     (try simp only [zGa]); (try simp only [zGb]); (try simp only [zGc])
     go_simp
     with_reducible refine (HS.out _ _ _ u1.r _ _ u2.r).mono ?_
     rintro e W' ⟨uou3, bs_u3, rfl, u3, hb⟩
     obtain ⟨A_u3, c_u3, he⟩ := form_rg u3.r
     subst he
     replace u3 := u3.mono hS.size
     dsimp only
     have u1 := u1.call hb
     have u2 := u2.call hb
     refine hK.out _ _ (belI_call hS hb) (fun hS => ?_)
     clear hK
     (try simp only [Act.put]); (try simp only [zPa]); (try simp only [zPb, zPc])
     refine wpAnyH_ready (rs := [5]) (by kernel_rfl) (by simp) ?_
     refine (AllReadyH.cons rfl (fun K hK => ?_) AllReadyH.nil)
     ·rw [if_pos (by kernel_rfl)]
      (try simp only [zGa]); (try simp only [zGb]); (try simp only [zGc])
      refine wp_alloc_bk 85 #[.slice none 0 0] (fun _ => by kernel_rfl) rfl 6 rfl ?_
      intro bB W' hb GB lB
      have kB := Nat.le_trans hS.size lB
      have nB : bB ∉ bs_u1 := fun hk => by have := repSn.ex u1.r _ hk; omega
      have nB : bB ∉ bs_u2 := fun hk => by have := repSn.ex u2.r _ hk; omega
      have nB : bB ∉ bs_u3 := fun hk => by have := repRg.ex u3.r _ hk; omega
      have u1 := u1.call hb
      have u2 := u2.call hb
      have u3 := u3.call hb
      refine hK.out _ _ (belI_call hS hb) (fun hS => ?_)
      clear hK
      (try simp only [Act.put]); (try simp only [zPa]); (try simp only [zPb, zPc])
      refine wpAnyH_ready (rs := [6]) (by kernel_rfl) (by simp) ?_
      refine (AllReadyH.cons rfl (fun K hK => ?_) AllReadyH.nil)
      ·rw [if_pos (by kernel_rfl)]
       (try simp only [zGa]); (try simp only [zGb]); (try simp only [zGc])
       refine wp_store_bk 85 (.tmp 6) (.tmp 28) rfl bB _ #[.slice none 0 0] #[.slice A_u3 q0.length c_u3] (by kernel_rfl) rfl (by simp [Value.oneCell']) rfl (by first | with_reducible rfl | (go_simp; done) | rfl) GB ?_
       intro W3 IB hgB
       skip
       skip
       replace u3 := Rep.Own.chg u3 (Chg.of_grown hgB) (fun k hk e => nB (by rw [← show k = bB by simpa using e]; exact hk))
       skip
       refine hK.out _ _ (hS.grown hgB hS.size (fun k hk => by injection hk with hk; omega)) (fun hS => ?_)
       clear hK
       (try simp only [Act.put]); (try simp only [zPa]); (try simp only [zPb, zPc])
       refine wpAnyH_done (by kernel_rfl) ?_ _
       go_wp2_with fail
       go_meet
       case rel => exact ⟨bB, _, _, _, _, rfl, VarB.made IB u3 kB nB, hS⟩
    ·rw [if_pos (by kernel_rfl)]
     (try simp only [zGa]); (try simp only [zGb]); (try simp only [zGc])
     refine wp_alloc_bk 85 #[.slice none 0 0] (fun _ => by kernel_rfl) rfl 6 rfl ?_
     intro bB W' hb GB lB
     have kB := Nat.le_trans hS.size lB
     have nB : bB ∉ bs_u1 := fun hk => by have := repSn.ex u1.r _ hk; omega
     have nB : bB ∉ bs_u2 := fun hk => by have := repSn.ex u2.r _ hk; omega
     have u1 := u1.call hb
     have u2 := u2.call hb
     refine hK.out _ _ (belI_call hS hb) (fun hS => ?_)
     clear hK
     (try simp only [Act.put]); (try simp only [zPa]); (try simp only [zPb, zPc])
     refine wpAnyH_ready (rs := [4]) (by kernel_rfl) (by simp) ?_
     refine (AllReadyH.cons rfl (fun K hK => ?_) AllReadyH.nil)
     ·rw [if_pos (by kernel_rfl)]
      (try simp only [zGa]); (try simp only [zGb]); (try simp only [zGc])
      go_simp
      with_reducible refine (HS.out _ _ _ u1.r _ _ u2.r).mono ?_
      rintro e W' ⟨uou3, bs_u3, rfl, u3, hb⟩
      obtain ⟨A_u3, c_u3, he⟩ := form_rg u3.r
      subst he
      have nB : bB ∉ bs_u3 := fun hk => by have := u3.lo _ hk; have := GB.lt; omega
      replace u3 := u3.mono hS.size
      dsimp only
      have u1 := u1.call hb
      have u2 := u2.call hb
      have GB := GB.call hb
      refine hK.out _ _ (belI_call hS hb) (fun hS => ?_)
      clear hK
      (try simp only [Act.put]); (try simp only [zPa]); (try simp only [zPb, zPc])
      refine wpAnyH_ready (rs := [6]) (by kernel_rfl) (by simp) ?_
      refine (AllReadyH.cons rfl (fun K hK => ?_) AllReadyH.nil)
      ·rw [if_pos (by kernel_rfl)]
       (try simp only [zGa]); (try simp only [zGb]); (try simp only [zGc])
       refine wp_store_bk 85 (.tmp 6) (.tmp 28) rfl bB _ #[.slice none 0 0] #[.slice A_u3 q0.length c_u3] (by kernel_rfl) rfl (by simp [Value.oneCell']) rfl (by first | with_reducible rfl | (go_simp; done) | rfl) GB ?_
       intro W3 IB hgB
       skip
       skip
       skip
       replace u3 := Rep.Own.chg u3 (Chg.of_grown hgB) (fun k hk e => nB (by rw [← show k = bB by simpa using e]; exact hk))
       refine hK.out _ _ (hS.grown hgB hS.size (fun k hk => by injection hk with hk; omega)) (fun hS => ?_)
       clear hK
       (try simp only [Act.put]); (try simp only [zPa]); (try simp only [zPb, zPc])
       refine wpAnyH_done (by kernel_rfl) ?_ _
       go_wp2_with fail
       go_meet
       case rel => exact ⟨bB, _, _, _, _, rfl, VarB.made IB u3 kB nB, hS⟩
   ·rw [if_pos (by kernel_rfl)]
    (try simp only [zGa]); (try simp only [zGb]); (try simp only [zGc])
    refine wp_alloc_bk 85 #[.slice none 0 0] (fun _ => by kernel_rfl) rfl 6 rfl ?_
    intro bB W' hb GB lB
    have kB := Nat.le_trans hS.size lB
    have nB : bB ∉ bs_u1 := fun hk => by have := repSn.ex u1.r _ hk; omega
    have u1 := u1.call hb
    refine hK.out _ _ (belI_call hS hb) (fun hS => ?_)
    clear hK
    (try simp only [Act.put]); (try simp only [zPa]); (try simp only [zPb, zPc])
    refine wpAnyH_ready (rs := [3]) (by kernel_rfl) (by simp) ?_
    refine (AllReadyH.cons rfl (fun K hK => ?_) AllReadyH.nil)
    ·rw [if_pos (by kernel_rfl)]
     (try simp only [zGa]); (try simp only [zGb]); (try simp only [zGc])
     go_simp
     with_reducible refine (to_sn f1 _ _ (a1.call hS).rd Hn1.out).mono ?_
     rintro e W' ⟨uo, bs_u2, rfl, u2, hb⟩
     obtain ⟨A_u2, c_u2, he⟩ := form_sn u2.r
     subst he
     have nB : bB ∉ bs_u2 := fun hk => by have := u2.lo _ hk; have := GB.lt; omega
     replace u2 := u2.mono hS.size
     dsimp only
     have u1 := u1.call hb
     have GB := GB.call hb
     refine hK.out _ _ (belI_call hS hb) (fun hS => ?_)
     clear hK
     (try simp only [Act.put]); (try simp only [zPa]); (try simp only [zPb, zPc])
     refine wpAnyH_ready (rs := [4]) (by kernel_rfl) (by simp) ?_
     refine (AllReadyH.cons rfl (fun K hK => ?_) AllReadyH.nil)
     ·rw [if_pos (by kernel_rfl)]
      (try simp only [zGa]); (try simp only [zGb]); (try simp only [zGc])
      go_simp
      with_reducible refine (HS.out _ _ _ u1.r _ _ u2.r).mono ?_
      rintro e W' ⟨uou3, bs_u3, rfl, u3, hb⟩
      obtain ⟨A_u3, c_u3, he⟩ := form_rg u3.r
      subst he
      have nB : bB ∉ bs_u3 := fun hk => by have := u3.lo _ hk; have := GB.lt; omega
      replace u3 := u3.mono hS.size
      dsimp only
      have u1 := u1.call hb
      have GB := GB.call hb
      have u2 := u2.call hb
      refine hK.out _ _ (belI_call hS hb) (fun hS => ?_)
      clear hK
      (try simp only [Act.put]); (try simp only [zPa]); (try simp only [zPb, zPc])
      refine wpAnyH_ready (rs := [6]) (by kernel_rfl) (by simp) ?_
      refine (AllReadyH.cons rfl (fun K hK => ?_) AllReadyH.nil)
      ·rw [if_pos (by kernel_rfl)]
       (try simp only [zGa]); (try simp only [zGb]); (try simp only [zGc])
       refine wp_store_bk 85 (.tmp 6) (.tmp 28) rfl bB _ #[.slice none 0 0] #[.slice A_u3 q0.length c_u3] (by kernel_rfl) rfl (by simp [Value.oneCell']) rfl (by first | with_reducible rfl | (go_simp; done) | rfl) GB ?_
       intro W3 IB hgB
       skip
       skip
       skip
       replace u3 := Rep.Own.chg u3 (Chg.of_grown hgB) (fun k hk e => nB (by rw [← show k = bB by simpa using e]; exact hk))
       refine hK.out _ _ (hS.grown hgB hS.size (fun k hk => by injection hk with hk; omega)) (fun hS => ?_)
       clear hK
       (try simp only [Act.put]); (try simp only [zPa]); (try simp only [zPb, zPc])
       refine wpAnyH_done (by kernel_rfl) ?_ _
       go_wp2_with fail
       go_meet
       case rel => exact ⟨bB, _, _, _, _, rfl, VarB.made IB u3 kB nB, hS⟩
  ·rw [if_pos (by kernel_rfl)]
   (try simp only [zGa]); (try simp only [zGb]); (try simp only [zGc])
   refine wp_alloc_bk 85 #[.slice none 0 0] (fun _ => by kernel_rfl) rfl 6 rfl ?_
   intro bB W' hb GB lB
   have kB := Nat.le_trans hS.size lB
   refine hK.out _ _ (belI_call hS hb) (fun hS => ?_)
   clear hK
   (try simp only [Act.put]); (try simp only [zPa]); (try simp only [zPb, zPc])
   refine wpAnyH_ready (rs := [1]) (by kernel_rfl) (by simp) ?_
   refine (AllReadyH.cons rfl (fun K hK => ?_) AllReadyH.nil)
   ·rw [if_pos (by kernel_rfl)]
    (try simp only [zGa]); (try simp only [zGb]); (try simp only [zGc])
    go_simp
    with_reducible refine (to_sn f0 _ _ (a0.call hS).rd Hn0.out).mono ?_
    rintro e W' ⟨uo, bs_u1, rfl, u1, hb⟩
    obtain ⟨A_u1, c_u1, he⟩ := form_sn u1.r
    subst he
    have nB : bB ∉ bs_u1 := fun hk => by have := u1.lo _ hk; have := GB.lt; omega
    replace u1 := u1.mono hS.size
    dsimp only
    have GB := GB.call hb
    refine hK.out _ _ (belI_call hS hb) (fun hS => ?_)
    clear hK
    (try simp only [Act.put]); (try simp only [zPa]); (try simp only [zPb, zPc])
    refine wpAnyH_ready (rs := [3]) (by kernel_rfl) (by simp) ?_
    refine (AllReadyH.cons rfl (fun K hK => ?_) AllReadyH.nil)
    ·rw [if_pos (by kernel_rfl)]
     (try simp only [zGa]); (try simp only [zGb]); (try simp only [zGc])
     go_simp
     with_reducible refine (to_sn f1 _ _ (a1.call hS).rd Hn1.out).mono ?_
     rintro e W' ⟨uo, bs_u2, rfl, u2, hb⟩
     obtain ⟨A_u2, c_u2, he⟩ := form_sn u2.r
     subst he
     have nB : bB ∉ bs_u2 := fun hk => by have := u2.lo _ hk; have := GB.lt; omega
     replace u2 := u2.mono hS.size
     dsimp only
     have GB := GB.call hb
     have u1 := u1.call hb
     refine hK.out _ _ (belI_call hS hb) (fun hS => ?_)
     clear hK
     (try simp only [Act.put]); (try simp only [zPa]); (try simp only [zPb, zPc])
     refine wpAnyH_ready (rs := [4]) (by kernel_rfl) (by simp) ?_
     refine (AllReadyH.cons rfl (fun K hK => ?_) AllReadyH.nil)
     ·rw [if_pos (by kernel_rfl)]
      (try simp only [zGa]); (try simp only [zGb]); (try simp only [zGc])
      go_simp
      with_reducible refine (HS.out _ _ _ u1.r _ _ u2.r).mono ?_
      rintro e W' ⟨uou3, bs_u3, rfl, u3, hb⟩
      obtain ⟨A_u3, c_u3, he⟩ := form_rg u3.r
      subst he
      have nB : bB ∉ bs_u3 := fun hk => by have := u3.lo _ hk; have := GB.lt; omega
      replace u3 := u3.mono hS.size
      dsimp only
      have GB := GB.call hb
      have u1 := u1.call hb
      have u2 := u2.call hb
      refine hK.out _ _ (belI_call hS hb) (fun hS => ?_)
      clear hK
      (try simp only [Act.put]); (try simp only [zPa]); (try simp only [zPb, zPc])
      refine wpAnyH_ready (rs := [6]) (by kernel_rfl) (by simp) ?_
      refine (AllReadyH.cons rfl (fun K hK => ?_) AllReadyH.nil)
      ·rw [if_pos (by kernel_rfl)]
       (try simp only [zGa]); (try simp only [zGb]); (try simp only [zGc])
       refine wp_store_bk 85 (.tmp 6) (.tmp 28) rfl bB _ #[.slice none 0 0] #[.slice A_u3 q0.length c_u3] (by kernel_rfl) rfl (by simp [Value.oneCell']) rfl (by first | with_reducible rfl | (go_simp; done) | rfl) GB ?_
       intro W3 IB hgB
       skip
       skip
       skip
       replace u3 := Rep.Own.chg u3 (Chg.of_grown hgB) (fun k hk e => nB (by rw [← show k = bB by simpa using e]; exact hk))
       refine hK.out _ _ (hS.grown hgB hS.size (fun k hk => by injection hk with hk; omega)) (fun hS => ?_)
       clear hK
       (try simp only [Act.put]); (try simp only [zPa]); (try simp only [zPb, zPc])
       refine wpAnyH_done (by kernel_rfl) ?_ _
       go_wp2_with fail
       go_meet
       case rel => exact ⟨bB, _, _, _, _, rfl, VarB.made IB u3 kB nB, hS⟩
 case rest =>
  obtain ⟨b_V4, hi_V4, A_V4, c_V4, bs_V4, rfl, V4, hb⟩ := hcut
  obtain ⟨w6, hWy⟩ : ∃ w6, w6 = wc := ⟨_, rfl⟩
  subst hWy
  have hlo_V4 := Lib.hid Kw.size
  have hl_a0_V4 := Lib.hid a0.lt
  have hl_a1_V4 := Lib.hid a1.lt
  replace a0 := a0.call hb
  replace a1 := a1.call hb
  replace Kw := belI_call Kw hb
  clear hb
  have a0_0 := a0.at_.cell 0 rfl
  have a0_1 := a0.at_.cell 1 rfl
  have a0_2 := a0.at_.cell 2 rfl
  have a0_3 := a0.at_.cell 3 rfl
  go_wp2_with fail
  clear a0_0 a0_1 a0_2 a0_3
  refine (to_sn f0 _ _ a0.rd Hn0.out).mono ?_
  rintro e w7 ⟨uo, bs_u5, rfl, u5, hb⟩
  obtain ⟨A_u5, c_u5, he⟩ := form_sn u5.r
  subst he
  have hs_V4_V6 := Lib.hid V4.hs
  have hlo_V6 := Lib.hid Kw.size
  have hl_a0_V6 := Lib.hid a0.lt
  have hl_a1_V6 := Lib.hid a1.lt
  have V6 := VarB.born hb u5 56
  replace hb := belI_call hb (belI_box w7 (.cells #[.int .i64 f0.w, .int .i64 f0.h, .int .i64 f0.back, .slice A_u5 f0.fs.length c_u5] 56))
  replace a0 := a0.call hb
  replace a1 := a1.call hb
  replace V4 := V4.call hb
  replace Kw := belI_call Kw hb
  clear hb u5
  have a1_0 := a1.at_.cell 0 rfl
  have a1_1 := a1.at_.cell 1 rfl
  have a1_2 := a1.at_.cell 2 rfl
  have a1_3 := a1.at_.cell 3 rfl
  go_wp2_with fail
  clear a1_0 a1_1 a1_2 a1_3
  obtain ⟨w8, hWx⟩ : ∃ w8, w8 = (w7.alloc (.cells #[.int .i64 f0.w, .int .i64 f0.h, .int .i64 f0.back, .slice A_u5 f0.fs.length c_u5] 56)) := ⟨_, rfl⟩
  rw [← hWx]
  rw [← hWx] at Kw a0 a1 V4 V6
  clear hWx
  refine (to_sn f1 _ _ a1.rd Hn1.out).mono ?_
  rintro e w9 ⟨uo, bs_u7, rfl, u7, hb⟩
  obtain ⟨A_u7, c_u7, he⟩ := form_sn u7.r
  subst he
  have hs_V4_V8 := Lib.hid V4.hs
  have hs_V6_V8 := Lib.hid V6.hs
  have hlo_V8 := Lib.hid Kw.size
  have hl_a0_V8 := Lib.hid a0.lt
  have hl_a1_V8 := Lib.hid a1.lt
  have V8 := VarB.born hb u7 56
  replace hb := belI_call hb (belI_box w9 (.cells #[.int .i64 f1.w, .int .i64 f1.h, .int .i64 f1.back, .slice A_u7 f1.fs.length c_u7] 56))
  replace a0 := a0.call hb
  replace a1 := a1.call hb
  replace V4 := V4.call hb
  replace V6 := V6.call hb
  replace Kw := belI_call Kw hb
  clear hb u7
  have V6_0 := V6.at_.cell 0 rfl
  have V6_1 := V6.at_.cell 1 rfl
  have V6_2 := V6.at_.cell 2 rfl
  have V6_3 := V6.at_.cell 3 rfl
  have V8_0 := V8.at_.cell 0 rfl
  have V8_1 := V8.at_.cell 1 rfl
  have V8_2 := V8.at_.cell 2 rfl
  have V8_3 := V8.at_.cell 3 rfl
  go_wp2_with fail
  clear V6_0 V6_1 V6_2 V6_3 V8_0 V8_1 V8_2 V8_3
  obtain ⟨w10, hWx⟩ : ∃ w10, w10 = (w9.alloc (.cells #[.int .i64 f1.w, .int .i64 f1.h, .int .i64 f1.back, .slice A_u7 f1.fs.length c_u7] 56)) := ⟨_, rfl⟩
  rw [← hWx]
  rw [← hWx] at Kw a0 a1 V4 V6 V8
  clear hWx
  refine (HI.out _ _ _ V6.r _ _ V8.r).mono ?_
  rintro e w11 ⟨uou9, bs_u9, rfl, u9, hb⟩
  obtain ⟨A_u9, c_u9, he⟩ := form_rg u9.r
  subst he
  have hs_V4_V10 := Lib.hid V4.hs
  have hs_V6_V10 := Lib.hid V6.hs
  have hs_V8_V10 := Lib.hid V8.hs
  have hlo_V10 := Lib.hid Kw.size
  have hl_a0_V10 := Lib.hid a0.lt
  have hl_a1_V10 := Lib.hid a1.lt
  have V10 := VarB.born hb u9 85
  replace hb := belI_call hb (belI_box w11 (.cells #[.slice A_u9 q0.length c_u9] 85))
  replace a0 := a0.call hb
  replace a1 := a1.call hb
  replace V4 := V4.call hb
  replace V6 := V6.call hb
  replace V8 := V8.call hb
  replace Kw := belI_call Kw hb
  clear hb u9
  have V10_0 := V10.at_.cell 0 rfl
  have V4_0 := V4.at_.cell 0 rfl
  go_wp2_with fail
  clear V10_0 V4_0
  obtain ⟨w12, hWx⟩ : ∃ w12, w12 = (w11.alloc (.cells #[.slice A_u9 q0.length c_u9] 85)) := ⟨_, rfl⟩
  rw [← hWx]
  rw [← hWx] at Kw a0 a1 V4 V6 V8 V10
  clear hWx
  refine (eq_rg q0 _ _ _ _ _ V10.r V4.r).mono ?_
  rintro e w13 ⟨rfl, hb⟩
  replace a0 := a0.call hb
  replace a1 := a1.call hb
  replace V4 := V4.call hb
  replace V6 := V6.call hb
  replace V8 := V8.call hb
  replace V10 := V10.call hb
  replace Kw := belI_call Kw hb
  clear hb
  go_upto_region 14 with fail
  refine wp_region_held_drew (S := fun W => Below w13.heap.size w13 W) (by kernel_rfl) (Below.refl _ _).drew (fun hS => ?_)
  refine tcH (i := 0) (v := .agg #[.int .i64 f0.w, .int .i64 f0.h, .int .i64 f0.back, .slice A_u5 f0.fs.length c_u5]) rfl (by intro w' hSw; (try dsimp only at hSw); (have V6_0 := (V6.call hSw).at_.cell 0 rfl); (have V6_1 := (V6.call hSw).at_.cell 1 rfl); (have V6_2 := (V6.call hSw).at_.cell 2 rfl); (have V6_3 := (V6.call hSw).at_.cell 3 rfl); (have a0_0 := (a0.call hSw).at_.cell 0 rfl); (have a0_1 := (a0.call hSw).at_.cell 1 rfl); (have a0_2 := (a0.call hSw).at_.cell 2 rfl); (have a0_3 := (a0.call hSw).at_.cell 3 rfl); go_simp) ?_
  refine tcH (i := 1) (v := .agg #[.int .i64 f0.w, .int .i64 f0.h, .int .i64 f0.back, .slice A0 f0.fs.length c0]) rfl (by intro w' hSw; (try dsimp only at hSw); (have V6_0 := (V6.call hSw).at_.cell 0 rfl); (have V6_1 := (V6.call hSw).at_.cell 1 rfl); (have V6_2 := (V6.call hSw).at_.cell 2 rfl); (have V6_3 := (V6.call hSw).at_.cell 3 rfl); (have a0_0 := (a0.call hSw).at_.cell 0 rfl); (have a0_1 := (a0.call hSw).at_.cell 1 rfl); (have a0_2 := (a0.call hSw).at_.cell 2 rfl); (have a0_3 := (a0.call hSw).at_.cell 3 rfl); go_simp) ?_
  (try simp only [Act.put]); (try simp only [zPa]); (try simp only [zPb, zPc])
  refine wpAnyH_ready (rs := [2]) (by kernel_rfl) (by simp) ?_
  refine (AllReadyH.cons rfl (fun K hK => ?_) AllReadyH.nil)
  ·rw [if_pos (by kernel_rfl)]
   (try simp only [zGa]); (try simp only [zGb]); (try simp only [zGc])
   go_simp
   with_reducible refine (to_sn f0 _ _ (a0.call hS).rd Hn0.out).mono ?_
   rintro e W' ⟨uo, bs_u11, rfl, u11, hb⟩
   obtain ⟨A_u11, c_u11, he⟩ := form_sn u11.r
   subst he
   replace u11 := u11.mono hS.size
   dsimp only
   refine hK.out _ _ (belI_call hS hb) (fun hS => ?_)
   clear hK
   (try simp only [Act.put]); (try simp only [zPa]); (try simp only [zPb, zPc])
   refine wpAnyH_ready (rs := [3]) (by kernel_rfl) (by simp) ?_
   refine (AllReadyH.cons rfl (fun K hK => ?_) AllReadyH.nil)
   ·rw [if_pos (by kernel_rfl)]
    (try simp only [zGa]); (try simp only [zGb]); (try simp only [zGc])
    go_simp
    with_reducible refine (eq_sn f0 _ _ _ _ _ (V6.call hS).r u11.r).mono ?_
    rintro e W' ⟨rfl, hb⟩
    dsimp only
    have u11 := u11.call hb
    refine hK.out _ _ (belI_call hS hb) (fun hS => ?_)
    clear hK
    (try simp only [Act.put]); (try simp only [zPa]); (try simp only [zPb, zPc])
    refine tcH (i := 4) (v := .bool false) rfl (by intro w' hSw; (try dsimp only at hSw); (have V6_0 := (V6.call hSw).at_.cell 0 rfl); (have V6_1 := (V6.call hSw).at_.cell 1 rfl); (have V6_2 := (V6.call hSw).at_.cell 2 rfl); (have V6_3 := (V6.call hSw).at_.cell 3 rfl); (have a0_0 := (a0.call hSw).at_.cell 0 rfl); (have a0_1 := (a0.call hSw).at_.cell 1 rfl); (have a0_2 := (a0.call hSw).at_.cell 2 rfl); (have a0_3 := (a0.call hSw).at_.cell 3 rfl); go_simp) ?_
    refine wpAnyH_done (by kernel_rfl) ?_ _
    have hb := hS
    replace a0 := a0.call hb
    replace a1 := a1.call hb
    replace V4 := V4.call hb
    replace V6 := V6.call hb
    replace V8 := V8.call hb
    replace V10 := V10.call hb
    replace Kw := belI_call Kw hb
    clear hb hS
    clear u11
    obtain ⟨w14, hWy⟩ : ∃ w14, w14 = W' := ⟨_, rfl⟩
    subst hWy
    go_upto_region 16 with fail
    refine wp_region_held_drew (S := fun W => Below w14.heap.size w14 W) (by kernel_rfl) (Below.refl _ _).drew (fun hS => ?_)
    refine tcH (i := 0) (v := .agg #[.int .i64 f1.w, .int .i64 f1.h, .int .i64 f1.back, .slice A_u7 f1.fs.length c_u7]) rfl (by intro w' hSw; (try dsimp only at hSw); (have V8_0 := (V8.call hSw).at_.cell 0 rfl); (have V8_1 := (V8.call hSw).at_.cell 1 rfl); (have V8_2 := (V8.call hSw).at_.cell 2 rfl); (have V8_3 := (V8.call hSw).at_.cell 3 rfl); (have a1_0 := (a1.call hSw).at_.cell 0 rfl); (have a1_1 := (a1.call hSw).at_.cell 1 rfl); (have a1_2 := (a1.call hSw).at_.cell 2 rfl); (have a1_3 := (a1.call hSw).at_.cell 3 rfl); go_simp) ?_
    refine tcH (i := 1) (v := .agg #[.int .i64 f1.w, .int .i64 f1.h, .int .i64 f1.back, .slice A1 f1.fs.length c1]) rfl (by intro w' hSw; (try dsimp only at hSw); (have V8_0 := (V8.call hSw).at_.cell 0 rfl); (have V8_1 := (V8.call hSw).at_.cell 1 rfl); (have V8_2 := (V8.call hSw).at_.cell 2 rfl); (have V8_3 := (V8.call hSw).at_.cell 3 rfl); (have a1_0 := (a1.call hSw).at_.cell 0 rfl); (have a1_1 := (a1.call hSw).at_.cell 1 rfl); (have a1_2 := (a1.call hSw).at_.cell 2 rfl); (have a1_3 := (a1.call hSw).at_.cell 3 rfl); go_simp) ?_
    (try simp only [Act.put]); (try simp only [zPa]); (try simp only [zPb, zPc])
    refine wpAnyH_ready (rs := [2]) (by kernel_rfl) (by simp) ?_
    refine (AllReadyH.cons rfl (fun K hK => ?_) AllReadyH.nil)
    ·rw [if_pos (by kernel_rfl)]
     (try simp only [zGa]); (try simp only [zGb]); (try simp only [zGc])
     go_simp
     with_reducible refine (to_sn f1 _ _ (a1.call hS).rd Hn1.out).mono ?_
     rintro e W' ⟨uo, bs_u12, rfl, u12, hb⟩
     obtain ⟨A_u12, c_u12, he⟩ := form_sn u12.r
     subst he
     replace u12 := u12.mono hS.size
     dsimp only
     refine hK.out _ _ (belI_call hS hb) (fun hS => ?_)
     clear hK
     (try simp only [Act.put]); (try simp only [zPa]); (try simp only [zPb, zPc])
     refine wpAnyH_ready (rs := [3]) (by kernel_rfl) (by simp) ?_
     refine (AllReadyH.cons rfl (fun K hK => ?_) AllReadyH.nil)
     ·rw [if_pos (by kernel_rfl)]
      (try simp only [zGa]); (try simp only [zGb]); (try simp only [zGc])
      go_simp
      with_reducible refine (eq_sn f1 _ _ _ _ _ (V8.call hS).r u12.r).mono ?_
      rintro e W' ⟨rfl, hb⟩
      dsimp only
      have u12 := u12.call hb
      refine hK.out _ _ (belI_call hS hb) (fun hS => ?_)
      clear hK
      (try simp only [Act.put]); (try simp only [zPa]); (try simp only [zPb, zPc])
      refine tcH (i := 4) (v := .bool false) rfl (by intro w' hSw; (try dsimp only at hSw); (have V8_0 := (V8.call hSw).at_.cell 0 rfl); (have V8_1 := (V8.call hSw).at_.cell 1 rfl); (have V8_2 := (V8.call hSw).at_.cell 2 rfl); (have V8_3 := (V8.call hSw).at_.cell 3 rfl); (have a1_0 := (a1.call hSw).at_.cell 0 rfl); (have a1_1 := (a1.call hSw).at_.cell 1 rfl); (have a1_2 := (a1.call hSw).at_.cell 2 rfl); (have a1_3 := (a1.call hSw).at_.cell 3 rfl); go_simp) ?_
      refine wpAnyH_done (by kernel_rfl) ?_ _
      have hb := hS
      replace a0 := a0.call hb
      replace a1 := a1.call hb
      replace V4 := V4.call hb
      replace V6 := V6.call hb
      replace V8 := V8.call hb
      replace V10 := V10.call hb
      replace Kw := belI_call Kw hb
      clear hb hS
      clear u12
      obtain ⟨w15, hWy⟩ : ∃ w15, w15 = W' := ⟨_, rfl⟩
      subst hWy
      have V6_0 := V6.at_.cell 0 rfl
      have V6_1 := V6.at_.cell 1 rfl
      have V6_2 := V6.at_.cell 2 rfl
      have V6_3 := V6.at_.cell 3 rfl
      go_wp2_with fail
      clear V6_0 V6_1 V6_2 V6_3
      refine (mark_sn _ f0 _ _ (1) _ (by omega) V6.own).mono ?_
      rintro e w16 ⟨rfl, hr, hc⟩
      replace Kw := V6.below Kw (by have := hlo_V6.out; omega) hc
      replace a0 := a0.chg O0.out Kw hc (fun hk => by have := V6.rng _ hk; have := hl_a0_V6.out; omega)
      replace a1 := a1.chg O1.out Kw hc (fun hk => by have := V6.rng _ hk; have := hl_a1_V6.out; omega)
      replace V4 := V4.chg hc (fun k hk => by have := V6.rng k hk; have := hs_V4_V6.out; omega)
      replace V8 := V8.chg hc (fun k hk => by have := V6.rng k hk; have := hs_V6_V8.out; omega)
      replace V10 := V10.chg hc (fun k hk => by have := V6.rng k hk; have := hs_V6_V10.out; omega)
      replace V6 := V6.mark hr hc
      clear hr hc
      have hk_w16 : ¬ ((1 + (cntFs f0.fs) : Nat) : Int) < 0 := by omega
      have V8_0 := V8.at_.cell 0 rfl
      have V8_1 := V8.at_.cell 1 rfl
      have V8_2 := V8.at_.cell 2 rfl
      have V8_3 := V8.at_.cell 3 rfl
      go_wp2_with fail
      clear V8_0 V8_1 V8_2 V8_3
      refine (mark_sn _ f1 _ _ (1 + (cntFs f0.fs)) _ (by omega) V8.own).mono ?_
      rintro e w17 ⟨rfl, hr, hc⟩
      replace Kw := V8.below Kw (by have := hlo_V8.out; omega) hc
      replace a0 := a0.chg O0.out Kw hc (fun hk => by have := V8.rng _ hk; have := hl_a0_V8.out; omega)
      replace a1 := a1.chg O1.out Kw hc (fun hk => by have := V8.rng _ hk; have := hl_a1_V8.out; omega)
      replace V4 := V4.chg hc (fun k hk => by have := V8.rng k hk; have := hs_V4_V8.out; omega)
      replace V6 := V6.chg hc (fun k hk => by have := V8.rng k hk; have := hs_V6_V8.out; omega)
      replace V10 := V10.chg hc (fun k hk => by have := V8.rng k hk; have := hs_V8_V10.out; omega)
      replace V8 := V8.mark hr hc
      clear hr hc
      have hk_w17 : ¬ ((1 + (cntFs f0.fs) + (cntFs f1.fs) : Nat) : Int) < 0 := by omega
      have V10_0 := V10.at_.cell 0 rfl
      have V4_0 := V4.at_.cell 0 rfl
      go_wp2_with fail
      clear V10_0 V4_0
      refine (eq_rg q0 _ _ _ _ _ V10.r V4.r).mono ?_
      rintro e w18 ⟨rfl, hb⟩
      replace a0 := a0.call hb
      replace a1 := a1.call hb
      replace V4 := V4.call hb
      replace V6 := V6.call hb
      replace V8 := V8.call hb
      replace V10 := V10.call hb
      replace Kw := belI_call Kw hb
      clear hb
      have V10_0 := V10.at_.cell 0 rfl
      go_wp2_with fail
      clear V10_0
      refine (mark_rg _ q0 _ _ (1) _ (by omega) V10.own).mono ?_
      rintro e w19 ⟨rfl, hr, hc⟩
      replace Kw := V10.below Kw (by have := hlo_V10.out; omega) hc
      replace a0 := a0.chg O0.out Kw hc (fun hk => by have := V10.rng _ hk; have := hl_a0_V10.out; omega)
      replace a1 := a1.chg O1.out Kw hc (fun hk => by have := V10.rng _ hk; have := hl_a1_V10.out; omega)
      replace V4 := V4.chg hc (fun k hk => by have := V10.rng k hk; have := hs_V4_V10.out; omega)
      replace V6 := V6.chg hc (fun k hk => by have := V10.rng k hk; have := hs_V6_V10.out; omega)
      replace V8 := V8.chg hc (fun k hk => by have := V10.rng k hk; have := hs_V8_V10.out; omega)
      replace V10 := V10.mark hr hc
      clear hr hc
      have hk_w19 : ¬ ((1 + (4 * q0.length) : Nat) : Int) < 0 := by omega
      have V10_0 := V10.at_.cell 0 rfl
      go_wp2_with fail
      clear V10_0
      refine (held_rg q0 _ _ 1 _ (by omega) V10.r).mono ?_
      rintro e w20 ⟨rfl, hb⟩
      replace a0 := a0.call hb
      replace a1 := a1.call hb
      replace V4 := V4.call hb
      replace V6 := V6.call hb
      replace V8 := V8.call hb
      replace V10 := V10.call hb
      replace Kw := belI_call Kw hb
      clear hb
      go_upto_region 31 with fail
      go_cut [13] (fun s13 wx => ∃ (b hi : Nat) (A : Option Addr) (c : Nat) (bs : List Nat), s13 = .pointer (some ⟨b, 0, none⟩) ∧ VarB repRg 85 w20.heap.size hi b q0 [.slice A q0.length c] bs wx ∧ Below w20.heap.size w20 wx)
      case first =>
       refine wp_region_held_drew (S := fun W => Below w20.heap.size w20 W) (by kernel_rfl) (Below.refl _ _).drew (fun hS => ?_)
       refine tcH (i := 0) (v := .agg #[.int .i64 f0.w, .int .i64 f0.h, .int .i64 f0.back, .slice A0 f0.fs.length c0]) rfl (by intro w' hSw; (try dsimp only at hSw); (have a0_0 := (a0.call hSw).at_.cell 0 rfl); (have a0_1 := (a0.call hSw).at_.cell 1 rfl); (have a0_2 := (a0.call hSw).at_.cell 2 rfl); (have a0_3 := (a0.call hSw).at_.cell 3 rfl); (have a1_0 := (a1.call hSw).at_.cell 0 rfl); (have a1_1 := (a1.call hSw).at_.cell 1 rfl); (have a1_2 := (a1.call hSw).at_.cell 2 rfl); (have a1_3 := (a1.call hSw).at_.cell 3 rfl); go_simp) ?_
       refine tcH (i := 2) (v := .agg #[.int .i64 f1.w, .int .i64 f1.h, .int .i64 f1.back, .slice A1 f1.fs.length c1]) rfl (by intro w' hSw; (try dsimp only at hSw); (have a0_0 := (a0.call hSw).at_.cell 0 rfl); (have a0_1 := (a0.call hSw).at_.cell 1 rfl); (have a0_2 := (a0.call hSw).at_.cell 2 rfl); (have a0_3 := (a0.call hSw).at_.cell 3 rfl); (have a1_0 := (a1.call hSw).at_.cell 0 rfl); (have a1_1 := (a1.call hSw).at_.cell 1 rfl); (have a1_2 := (a1.call hSw).at_.cell 2 rfl); (have a1_3 := (a1.call hSw).at_.cell 3 rfl); go_simp) ?_
       (try simp only [Act.put]); (try simp only [zPa]); (try simp only [zPb, zPc])
       refine wpAnyH_ready (rs := [1, 5]) (by kernel_rfl) (by simp) ?_
       refine (AllReadyH.cons rfl (fun K hK => ?_) (AllReadyH.cons rfl (fun K hK => ?_) AllReadyH.nil))
       ·rw [if_pos (by kernel_rfl)]
        (try simp only [zGa]); (try simp only [zGb]); (try simp only [zGc])
        go_simp
        with_reducible refine (to_sn f0 _ _ (a0.call hS).rd Hn0.out).mono ?_
        rintro e W' ⟨uo, bs_u13, rfl, u13, hb⟩
        obtain ⟨A_u13, c_u13, he⟩ := form_sn u13.r
        subst he
        replace u13 := u13.mono hS.size
        dsimp only
        refine hK.out _ _ (belI_call hS hb) (fun hS => ?_)
        clear hK
        (try simp only [Act.put]); (try simp only [zPa]); (try simp only [zPb, zPc])
        refine wpAnyH_ready (rs := [3, 5]) (by kernel_rfl) (by simp) ?_
        refine (AllReadyH.cons rfl (fun K hK => ?_) (AllReadyH.cons rfl (fun K hK => ?_) AllReadyH.nil))
        ·rw [if_pos (by kernel_rfl)]
         (try simp only [zGa]); (try simp only [zGb]); (try simp only [zGc])
         go_simp
         with_reducible refine (to_sn f1 _ _ (a1.call hS).rd Hn1.out).mono ?_
         rintro e W' ⟨uo, bs_u14, rfl, u14, hb⟩
         obtain ⟨A_u14, c_u14, he⟩ := form_sn u14.r
         subst he
         replace u14 := u14.mono hS.size
         dsimp only
         have u13 := u13.call hb
         refine hK.out _ _ (belI_call hS hb) (fun hS => ?_)
         clear hK
         (try simp only [Act.put]); (try simp only [zPa]); (try simp only [zPb, zPc])
         refine wpAnyH_ready (rs := [4, 5]) (by kernel_rfl) (by simp) ?_
         refine (AllReadyH.cons rfl (fun K hK => ?_) (AllReadyH.cons rfl (fun K hK => ?_) AllReadyH.nil))
         ·rw [if_pos (by kernel_rfl)]
          (try simp only [zGa]); (try simp only [zGb]); (try simp only [zGc])
          go_simp
          with_reducible refine (HI.out _ _ _ u13.r _ _ u14.r).mono ?_
          rintro e W' ⟨uou15, bs_u15, rfl, u15, hb⟩
          obtain ⟨A_u15, c_u15, he⟩ := form_rg u15.r
          subst he
          replace u15 := u15.mono hS.size
          dsimp only
          have u13 := u13.call hb
          have u14 := u14.call hb
          refine hK.out _ _ (belI_call hS hb) (fun hS => ?_)
          clear hK
          (try simp only [Act.put]); (try simp only [zPa]); (try simp only [zPb, zPc])
          refine wpAnyH_ready (rs := [5]) (by kernel_rfl) (by simp) ?_
          refine (AllReadyH.cons rfl (fun K hK => ?_) AllReadyH.nil)
          ·rw [if_pos (by kernel_rfl)]
           (try simp only [zGa]); (try simp only [zGb]); (try simp only [zGc])
           refine wp_alloc_bk 85 #[.slice none 0 0] (fun _ => by kernel_rfl) rfl 13 rfl ?_
           intro bB W' hb GB lB
           have kB := Nat.le_trans hS.size lB
           have nB : bB ∉ bs_u13 := fun hk => by have := repSn.ex u13.r _ hk; omega
           have nB : bB ∉ bs_u14 := fun hk => by have := repSn.ex u14.r _ hk; omega
           have nB : bB ∉ bs_u15 := fun hk => by have := repRg.ex u15.r _ hk; omega
           have u13 := u13.call hb
           have u14 := u14.call hb
           have u15 := u15.call hb
           refine hK.out _ _ (belI_call hS hb) (fun hS => ?_)
           clear hK
           (try simp only [Act.put]); (try simp only [zPa]); (try simp only [zPb, zPc])
           refine wpAnyH_ready (rs := [6]) (by kernel_rfl) (by simp) ?_
           refine (AllReadyH.cons rfl (fun K hK => ?_) AllReadyH.nil)
           ·rw [if_pos (by kernel_rfl)]
            (try simp only [zGa]); (try simp only [zGb]); (try simp only [zGc])
            refine wp_store_bk 85 (.tmp 13) (.tmp 79) rfl bB _ #[.slice none 0 0] #[.slice A_u15 q0.length c_u15] (by kernel_rfl) rfl (by simp [Value.oneCell']) rfl (by first | with_reducible rfl | (go_simp; done) | rfl) GB ?_
            intro W3 IB hgB
            skip
            skip
            replace u15 := Rep.Own.chg u15 (Chg.of_grown hgB) (fun k hk e => nB (by rw [← show k = bB by simpa using e]; exact hk))
            skip
            refine hK.out _ _ (hS.grown hgB hS.size (fun k hk => by injection hk with hk; omega)) (fun hS => ?_)
            clear hK
            (try simp only [Act.put]); (try simp only [zPa]); (try simp only [zPb, zPc])
            refine wpAnyH_done (by kernel_rfl) ?_ _
            go_wp2_with fail
            go_meet
            case rel => exact ⟨bB, _, _, _, _, rfl, VarB.made IB u15 kB nB, hS⟩
         ·rw [if_pos (by kernel_rfl)]
          (try simp only [zGa]); (try simp only [zGb]); (try simp only [zGc])
          refine wp_alloc_bk 85 #[.slice none 0 0] (fun _ => by kernel_rfl) rfl 13 rfl ?_
          intro bB W' hb GB lB
          have kB := Nat.le_trans hS.size lB
          have nB : bB ∉ bs_u13 := fun hk => by have := repSn.ex u13.r _ hk; omega
          have nB : bB ∉ bs_u14 := fun hk => by have := repSn.ex u14.r _ hk; omega
          have u13 := u13.call hb
          have u14 := u14.call hb
          refine hK.out _ _ (belI_call hS hb) (fun hS => ?_)
          clear hK
          (try simp only [Act.put]); (try simp only [zPa]); (try simp only [zPb, zPc])
          refine wpAnyH_ready (rs := [4]) (by kernel_rfl) (by simp) ?_
          refine (AllReadyH.cons rfl (fun K hK => ?_) AllReadyH.nil)
          ·rw [if_pos (by kernel_rfl)]
           (try simp only [zGa]); (try simp only [zGb]); (try simp only [zGc])
           go_simp
           with_reducible refine (HI.out _ _ _ u13.r _ _ u14.r).mono ?_
           rintro e W' ⟨uou15, bs_u15, rfl, u15, hb⟩
           obtain ⟨A_u15, c_u15, he⟩ := form_rg u15.r
           subst he
           have nB : bB ∉ bs_u15 := fun hk => by have := u15.lo _ hk; have := GB.lt; omega
           replace u15 := u15.mono hS.size
           dsimp only
           have u13 := u13.call hb
           have u14 := u14.call hb
           have GB := GB.call hb
           refine hK.out _ _ (belI_call hS hb) (fun hS => ?_)
           clear hK
           (try simp only [Act.put]); (try simp only [zPa]); (try simp only [zPb, zPc])
           refine wpAnyH_ready (rs := [6]) (by kernel_rfl) (by simp) ?_
           refine (AllReadyH.cons rfl (fun K hK => ?_) AllReadyH.nil)
           ·rw [if_pos (by kernel_rfl)]
            (try simp only [zGa]); (try simp only [zGb]); (try simp only [zGc])
            refine wp_store_bk 85 (.tmp 13) (.tmp 79) rfl bB _ #[.slice none 0 0] #[.slice A_u15 q0.length c_u15] (by kernel_rfl) rfl (by simp [Value.oneCell']) rfl (by first | with_reducible rfl | (go_simp; done) | rfl) GB ?_
            intro W3 IB hgB
            skip
            skip
            skip
            replace u15 := Rep.Own.chg u15 (Chg.of_grown hgB) (fun k hk e => nB (by rw [← show k = bB by simpa using e]; exact hk))
            refine hK.out _ _ (hS.grown hgB hS.size (fun k hk => by injection hk with hk; omega)) (fun hS => ?_)
            clear hK
            (try simp only [Act.put]); (try simp only [zPa]); (try simp only [zPb, zPc])
            refine wpAnyH_done (by kernel_rfl) ?_ _
            go_wp2_with fail
            go_meet
            case rel => exact ⟨bB, _, _, _, _, rfl, VarB.made IB u15 kB nB, hS⟩
        ·rw [if_pos (by kernel_rfl)]
         (try simp only [zGa]); (try simp only [zGb]); (try simp only [zGc])
         refine wp_alloc_bk 85 #[.slice none 0 0] (fun _ => by kernel_rfl) rfl 13 rfl ?_
         intro bB W' hb GB lB
         have kB := Nat.le_trans hS.size lB
         have nB : bB ∉ bs_u13 := fun hk => by have := repSn.ex u13.r _ hk; omega
         have u13 := u13.call hb
         refine hK.out _ _ (belI_call hS hb) (fun hS => ?_)
         clear hK
         (try simp only [Act.put]); (try simp only [zPa]); (try simp only [zPb, zPc])
         refine wpAnyH_ready (rs := [3]) (by kernel_rfl) (by simp) ?_
         refine (AllReadyH.cons rfl (fun K hK => ?_) AllReadyH.nil)
         ·rw [if_pos (by kernel_rfl)]
          (try simp only [zGa]); (try simp only [zGb]); (try simp only [zGc])
          go_simp
          with_reducible refine (to_sn f1 _ _ (a1.call hS).rd Hn1.out).mono ?_
          rintro e W' ⟨uo, bs_u14, rfl, u14, hb⟩
          obtain ⟨A_u14, c_u14, he⟩ := form_sn u14.r
          subst he
          have nB : bB ∉ bs_u14 := fun hk => by have := u14.lo _ hk; have := GB.lt; omega
          replace u14 := u14.mono hS.size
          dsimp only
          have u13 := u13.call hb
          have GB := GB.call hb
          refine hK.out _ _ (belI_call hS hb) (fun hS => ?_)
          clear hK
          (try simp only [Act.put]); (try simp only [zPa]); (try simp only [zPb, zPc])
          refine wpAnyH_ready (rs := [4]) (by kernel_rfl) (by simp) ?_
          refine (AllReadyH.cons rfl (fun K hK => ?_) AllReadyH.nil)
          ·rw [if_pos (by kernel_rfl)]
           (try simp only [zGa]); (try simp only [zGb]); (try simp only [zGc])
           go_simp
           with_reducible refine (HI.out _ _ _ u13.r _ _ u14.r).mono ?_
           rintro e W' ⟨uou15, bs_u15, rfl, u15, hb⟩
           obtain ⟨A_u15, c_u15, he⟩ := form_rg u15.r
           subst he
           have nB : bB ∉ bs_u15 := fun hk => by have := u15.lo _ hk; have := GB.lt; omega
           replace u15 := u15.mono hS.size
           dsimp only
           have u13 := u13.call hb
           have GB := GB.call hb
           have u14 := u14.call hb
           refine hK.out _ _ (belI_call hS hb) (fun hS => ?_)
           clear hK
           (try simp only [Act.put]); (try simp only [zPa]); (try simp only [zPb, zPc])
           refine wpAnyH_ready (rs := [6]) (by kernel_rfl) (by simp) ?_
           refine (AllReadyH.cons rfl (fun K hK => ?_) AllReadyH.nil)
           ·rw [if_pos (by kernel_rfl)]
            (try simp only [zGa]); (try simp only [zGb]); (try simp only [zGc])
            refine wp_store_bk 85 (.tmp 13) (.tmp 79) rfl bB _ #[.slice none 0 0] #[.slice A_u15 q0.length c_u15] (by kernel_rfl) rfl (by simp [Value.oneCell']) rfl (by first | with_reducible rfl | (go_simp; done) | rfl) GB ?_
            intro W3 IB hgB
            skip
            skip
            skip
            replace u15 := Rep.Own.chg u15 (Chg.of_grown hgB) (fun k hk e => nB (by rw [← show k = bB by simpa using e]; exact hk))
            refine hK.out _ _ (hS.grown hgB hS.size (fun k hk => by injection hk with hk; omega)) (fun hS => ?_)
            clear hK
            (try simp only [Act.put]); (try simp only [zPa]); (try simp only [zPb, zPc])
            refine wpAnyH_done (by kernel_rfl) ?_ _
            go_wp2_with fail
            go_meet
            case rel => exact ⟨bB, _, _, _, _, rfl, VarB.made IB u15 kB nB, hS⟩
       ·rw [if_pos (by kernel_rfl)]
        (try simp only [zGa]); (try simp only [zGb]); (try simp only [zGc])
        refine wp_alloc_bk 85 #[.slice none 0 0] (fun _ => by kernel_rfl) rfl 13 rfl ?_
        intro bB W' hb GB lB
        have kB := Nat.le_trans hS.size lB
        refine hK.out _ _ (belI_call hS hb) (fun hS => ?_)
        clear hK
        (try simp only [Act.put]); (try simp only [zPa]); (try simp only [zPb, zPc])
        refine wpAnyH_ready (rs := [1]) (by kernel_rfl) (by simp) ?_
        refine (AllReadyH.cons rfl (fun K hK => ?_) AllReadyH.nil)
        ·rw [if_pos (by kernel_rfl)]
         (try simp only [zGa]); (try simp only [zGb]); (try simp only [zGc])
         go_simp
         with_reducible refine (to_sn f0 _ _ (a0.call hS).rd Hn0.out).mono ?_
         rintro e W' ⟨uo, bs_u13, rfl, u13, hb⟩
         obtain ⟨A_u13, c_u13, he⟩ := form_sn u13.r
         subst he
         have nB : bB ∉ bs_u13 := fun hk => by have := u13.lo _ hk; have := GB.lt; omega
         replace u13 := u13.mono hS.size
         dsimp only
         have GB := GB.call hb
         refine hK.out _ _ (belI_call hS hb) (fun hS => ?_)
         clear hK
         (try simp only [Act.put]); (try simp only [zPa]); (try simp only [zPb, zPc])
         refine wpAnyH_ready (rs := [3]) (by kernel_rfl) (by simp) ?_
         refine (AllReadyH.cons rfl (fun K hK => ?_) AllReadyH.nil)
         ·rw [if_pos (by kernel_rfl)]
          (try simp only [zGa]); (try simp only [zGb]); (try simp only [zGc])
          go_simp
          with_reducible refine (to_sn f1 _ _ (a1.call hS).rd Hn1.out).mono ?_
          rintro e W' ⟨uo, bs_u14, rfl, u14, hb⟩
          obtain ⟨A_u14, c_u14, he⟩ := form_sn u14.r
          subst he
          have nB : bB ∉ bs_u14 := fun hk => by have := u14.lo _ hk; have := GB.lt; omega
          replace u14 := u14.mono hS.size
          dsimp only
          have GB := GB.call hb
          have u13 := u13.call hb
          refine hK.out _ _ (belI_call hS hb) (fun hS => ?_)
          clear hK
          (try simp only [Act.put]); (try simp only [zPa]); (try simp only [zPb, zPc])
          refine wpAnyH_ready (rs := [4]) (by kernel_rfl) (by simp) ?_
          refine (AllReadyH.cons rfl (fun K hK => ?_) AllReadyH.nil)
          ·rw [if_pos (by kernel_rfl)]
           (try simp only [zGa]); (try simp only [zGb]); (try simp only [zGc])
           go_simp
           with_reducible refine (HI.out _ _ _ u13.r _ _ u14.r).mono ?_
           rintro e W' ⟨uou15, bs_u15, rfl, u15, hb⟩
           obtain ⟨A_u15, c_u15, he⟩ := form_rg u15.r
           subst he
           have nB : bB ∉ bs_u15 := fun hk => by have := u15.lo _ hk; have := GB.lt; omega
           replace u15 := u15.mono hS.size
           dsimp only
           have GB := GB.call hb
           have u13 := u13.call hb
           have u14 := u14.call hb
           refine hK.out _ _ (belI_call hS hb) (fun hS => ?_)
           clear hK
           (try simp only [Act.put]); (try simp only [zPa]); (try simp only [zPb, zPc])
           refine wpAnyH_ready (rs := [6]) (by kernel_rfl) (by simp) ?_
           refine (AllReadyH.cons rfl (fun K hK => ?_) AllReadyH.nil)
           ·rw [if_pos (by kernel_rfl)]
            (try simp only [zGa]); (try simp only [zGb]); (try simp only [zGc])
            refine wp_store_bk 85 (.tmp 13) (.tmp 79) rfl bB _ #[.slice none 0 0] #[.slice A_u15 q0.length c_u15] (by kernel_rfl) rfl (by simp [Value.oneCell']) rfl (by first | with_reducible rfl | (go_simp; done) | rfl) GB ?_
            intro W3 IB hgB
            skip
            skip
            skip
            replace u15 := Rep.Own.chg u15 (Chg.of_grown hgB) (fun k hk e => nB (by rw [← show k = bB by simpa using e]; exact hk))
            refine hK.out _ _ (hS.grown hgB hS.size (fun k hk => by injection hk with hk; omega)) (fun hS => ?_)
            clear hK
            (try simp only [Act.put]); (try simp only [zPa]); (try simp only [zPb, zPc])
            refine wpAnyH_done (by kernel_rfl) ?_ _
            go_wp2_with fail
            go_meet
            case rel => exact ⟨bB, _, _, _, _, rfl, VarB.made IB u15 kB nB, hS⟩
      case rest =>
       obtain ⟨b_V16, hi_V16, A_V16, c_V16, bs_V16, rfl, V16, hb⟩ := hcut
       obtain ⟨w21, hWy⟩ : ∃ w21, w21 = wc := ⟨_, rfl⟩
       subst hWy
       have hs_V4_V16 := Lib.hid V4.hs
       have hs_V6_V16 := Lib.hid V6.hs
       have hs_V8_V16 := Lib.hid V8.hs
       have hs_V10_V16 := Lib.hid V10.hs
       have hlo_V16 := Lib.hid Kw.size
       have hl_a0_V16 := Lib.hid a0.lt
       have hl_a1_V16 := Lib.hid a1.lt
       replace a0 := a0.call hb
       replace a1 := a1.call hb
       replace V4 := V4.call hb
       replace V6 := V6.call hb
       replace V8 := V8.call hb
       replace V10 := V10.call hb
       replace Kw := belI_call Kw hb
       clear hb
       have V16_0 := V16.at_.cell 0 rfl
       have V4_0 := V4.at_.cell 0 rfl
       go_wp2_with fail
       clear V16_0 V4_0
       refine (eq_rg q0 _ _ _ _ _ V16.r V4.r).mono ?_
       rintro e w22 ⟨rfl, hb⟩
       replace a0 := a0.call hb
       replace a1 := a1.call hb
       replace V4 := V4.call hb
       replace V6 := V6.call hb
       replace V8 := V8.call hb
       replace V10 := V10.call hb
       replace V16 := V16.call hb
       replace Kw := belI_call Kw hb
       clear hb
       have V10_0 := V10.at_.cell 0 rfl
       go_wp2_with fail
       clear V10_0
       refine (held_rg q0 _ _ 1 _ (by omega) V10.r).mono ?_
       rintro e w23 ⟨rfl, hb⟩
       replace a0 := a0.call hb
       replace a1 := a1.call hb
       replace V4 := V4.call hb
       replace V6 := V6.call hb
       replace V8 := V8.call hb
       replace V10 := V10.call hb
       replace V16 := V16.call hb
       replace Kw := belI_call Kw hb
       clear hb
       go_wp2_with fail
       go_ret
       exact ⟨rfl, Kw⟩
end Go.Proofs.Ytokniebejilcbaa
