/- The walk of the law FnPaintLayers: it returns true for every code. -/
import Derived.Test.YtdgagooldlnpeaaMA
import Derived.Test.YtdgagooldlnpeaaMAv0
import Derived.Test.YtdgagooldlnpeaaMBv0
import Derived.Test.YtdgagooldlnpeaaDrwIv0
import Derived.Test.YtdgagooldlnpeaaB1sav0
import Derived.Test.YtdgagooldlnpeaaMB
import Derived.Test.YtdgagooldlnpeaaSnSv0
import Derived.Test.YtdgagooldlnpeaaSnDv0
import Derived.Test.YtdgagooldlnpeaaDrSv0
import Derived.Test.YtdgagooldlnpeaaB3sav0
import Derived.Test.YtdgagooldlnpeaaB0nav0
import Derived.Test.YtdgagooldlnpeaaB0sav0
import Derived.Test.YtdgagooldlnpeaaPnIv0
import Derived.Test.YtdgagooldlnpeaaB1sbv0
import Derived.Test.YtdgagooldlnpeaaProg
import Derived.WalkKit
import Derived.ProofKit
import Derived.OpenShut
import Derived.WalkLawsBesides
import Derived.WalkSpells
import Derived.ShutString
import Derived.ChangeOld
import Derived.Below
import Derived.Lib.Hide
import Derived.BigQuiet
import Derived.Deep.QuietTactic
import Derived.Maps.AppendAt
import Derived.Deep.OwnRows
import Derived.Handy
import Derived.Deep.Draws
import Derived.OwnWalk
import Derived.Deep.AppendLies
import Derived.Deep.LoopGhost
import Derived.Deep.Onto
import Derived.Deep.MidRow
import Derived.Deep.WholeRow
import Derived.Laws.BitsAllLaws
import Derived.Lib.QuoteBits
import Derived.Test.YtdgagooldlnpeaaShelf
import Derived.Laws.CopyOwn
import Derived.Deep.RegionLaw
import Derived.Deep.RegionHeld3
import Derived.Deep.DeepCutAuto
import Derived.Great.BuildSlice
import Derived.Laws.AppendOwn
import Derived.Deep.CutBlock
import Derived.Shelf.RegionOpenPlain
import Derived.Lib.SliceRun
import Derived.Deep.RegionWith
import Derived.ChangeKeysEq
import Derived.Deep.DeepAppendRoom
namespace Go.Proofs.Ytdgagooldlnpeaa
open Go.RowKit
structure LyA (w : World) (W H : Nat) (sb : Int) (fs : List Sf) (v : Value) (bs : List Nat) (b3 : Nat) (Da : List Int) (ui : Value) (b5 : Nat) (V : World) : Prop where
 a : SnA b3 ⟨W, H, sb, fs⟩ v bs V
 i : BkAt V b5 46 #[.int .i64 W, .int .i64 H, ui]
 d : RdI V ui Da
 bw : Below w.heap.size w V
theorem LyA.call {w : World} {W H : Nat} {sb : Int} {fs : List Sf} {v : Value} {bs : List Nat} {b3 : Nat} {Da : List Int} {ui : Value} {b5 : Nat} {V V' : World} (h : LyA w W H sb fs v bs b3 Da ui b5 V) (hb : Below V.heap.size V V') : LyA w W H sb fs v bs b3 Da ui b5 V' := ⟨h.a.call hb, h.i.call hb, h.d.call hb, belI_call h.bw hb⟩
structure LyB (w : World) (W H : Nat) (sb : Int) (fs : List Sf) (v : Value) (bs : List Nat) (b3 : Nat) (Da : List Int) (ui : Value) (b5 : Nat) (Dl : List Int) (uj : Value) (b8 : Nat) (P : Im) (up : Value) (b9 : Nat) (r : Rc) (b10 : Nat) (V : World) : Prop where
 y : LyA w W H sb fs v bs b3 Da ui b5 V
 j : BkAt V b8 46 #[.int .i64 W, .int .i64 H, uj]
 e : RdI V uj Dl
 p : BkAt V b9 46 #[.int .i64 P.w, .int .i64 P.h, up]
 d : RdI V up P.d
 r : RcAt V b10 r
theorem LyB.call {w : World} {W H : Nat} {sb : Int} {fs : List Sf} {v : Value} {bs : List Nat} {b3 : Nat} {Da : List Int} {ui : Value} {b5 : Nat} {Dl : List Int} {uj : Value} {b8 : Nat} {P : Im} {up : Value} {b9 : Nat} {r : Rc} {b10 : Nat} {V V' : World} (h : LyB w W H sb fs v bs b3 Da ui b5 Dl uj b8 P up b9 r b10 V) (hb : Below V.heap.size V V') : LyB w W H sb fs v bs b3 Da ui b5 Dl uj b8 P up b9 r b10 V' := ⟨h.y.call hb, h.j.call hb, h.e.call hb, h.p.call hb, h.d.call hb, h.r.below hb h.r.lt⟩
theorem rdi_cell {V : World} {A : Option Addr} {n c k : Nat} {L : List Int} (h : RdI V (.slice A n c) L) (hk : k < L.length) : ∃ g, A = some ⟨g, 0, none⟩ ∧ V.cell? ⟨g, k, none⟩ = some (.int .i64 (L.getD k 0)) := by
 obtain ⟨g, x, e, hx, hc⟩ := h.at_ hk
 exact ⟨g, e, by rw [List.getD_eq_getElem?_getD, hx]; exact hc⟩
theorem sfs_cap {V : World} {fs : List Sf} {g n c : Nat} {bs : List Nat} (h : repSfs.R V fs [.slice (some ⟨g, 0, none⟩) n c] bs) : n ≤ c := by
 obtain ⟨v', xs, bss, e, hr, hs, ho, _⟩ := h
 obtain rfl : Value.slice (some ⟨g, 0, none⟩) n c = v' := by simpa using e
 rcases ho.2 with ⟨he, _⟩ | ⟨g', cap, cur, he, _, _, hn, _⟩
 ·cases he
 ·injection he with e1 e2 e3
  omega
set_option maxHeartbeats 8000000 in
set_option maxRecDepth 100000 in
theorem walk_FnPaintLayers (a0 : Option Addr) (len cap : Nat) (zs : List Int) (w : World) (hrow : IsRow .u8 w a0 len cap zs) :
  Calls Try.prog 8 #[.slice a0 len cap] w fun e w' => e = .returned (.bool true) ∧ Below w.heap.size w w' := by
 by_cases hbig : len ≤ 1048576
 rotate_left
 ·go_enter Try.func8, Try.ntmps8
  go_wp2_with fail
  refine (big_yes _ _ _ _ (by omega)).mono ?_
  rintro e w1 ⟨rfl, rfl⟩
  go_wp2_with fail
  go_ret
  exact ⟨rfl, Below.refl _ _⟩
 go_enter Try.func8, Try.ntmps8
 go_wp2_with fail
 refine (big_no _ _ _ _ hbig).mono ?_
 rintro e w1 ⟨rfl, rfl⟩
 go_wp2_with fail
 refine (drawScene_any _ _ _ _ zs hrow).mono ?_
 rintro e w1 ⟨⟨sx, sy, sb, fs⟩, v, bs, L, ue, cs, rfl, hs, hO, _, _, hE, _, K⟩
 obtain ⟨W, H, rfl, rfl, wl, wh, hl, hh⟩ := sz_nat (show szOk sx sy from hs.1)
 dsimp only at hO ⊢
 obtain ⟨⟨A, c, rfl⟩, _⟩ := repSfs_form hO.r
 clear hE hrow
 obtain ⟨N, hN⟩ : ∃ N, N = fs.length := ⟨_, rfl⟩
 have hN6 : N ≤ 6 := by rw [hN]; exact hs.2.2.1
 rw [← hN] at hO ⊢
 have HN := Lib.hid hN
 obtain ⟨D0, hD0⟩ : ∃ D, D = flatN (W : Int) (H : Int) sb := ⟨_, rfl⟩
 obtain ⟨Da, hDa⟩ : ∃ D, D = pnL W D0 fs := ⟨_, rfl⟩
 have hpI : pnIm ⟨W, H, sb, fs⟩ = ⟨W, H, Da⟩ := by rw [pnIm_yes hs, hDa, hD0]; rfl
 obtain ⟨m, hm⟩ : ∃ m, m = W * H := ⟨_, rfl⟩
 have hDl : Da.length = m := by rw [hDa, pnL_len, hD0, ly_flat, hm]
 have hm2 : m ≤ 256 := by rw [hm]; exact mul_256 wh hh
 have hm1 : 1 ≤ m := by rw [hm]; exact Nat.mul_pos wl hl
 have HP := fun V v' b' h => paI ⟨W, H, sb, fs⟩ v' b' V h
 unfold AnsIm ImAns at HP
 rw [hpI] at HP
 dsimp only at HP
 rw [hDl] at HP
 have HP := Lib.hid HP
 have q0 : IntKind.i64.wrap ((W : Int) * (H : Int)) = (m : Int) := by rw [hm, wrap_in _ (by have := Int.natCast_mul W H; omega) (by have := Int.natCast_mul W H; omega)]; simp
 have Hs := Lib.hid hs
 have Hm := Lib.hid hm
 have HDl := Lib.hid hDl
 have HDa := Lib.hid hDa
 have HD0 := Lib.hid hD0
 have HPT := Lib.hid (fun V (x y : Int) v' b' h => patI ⟨W, H, sb, fs⟩ x y v' b' V h)
 unfold PatAns at HPT
 have hA0 := SnA.born (s := ⟨W, H, sb, fs⟩) hO.r
 obtain ⟨w2, hw2⟩ : ∃ V, V = w1.alloc (.cells #[.int .i64 W, .int .i64 H, .int .i64 sb, .slice A N c] 32) := ⟨_, rfl⟩
 obtain ⟨b3, hb3⟩ : ∃ b, b = w1.heap.size := ⟨_, rfl⟩
 obtain ⟨d0, d1, d2, d3⟩ := hA0.cells
 dsimp only at d0 d1 d2 d3
 have hA : SnA b3 ⟨W, H, sb, fs⟩ (.slice A N c) bs w2 := by rw [hw2, hb3]; exact hA0
 have HA := Lib.hid hA
 have HK := Lib.hid (show Below w.heap.size w w2 by rw [hw2]; exact belI_call K (belI_box _ _))
 have HW2 := Lib.hid hw2
 have HB3 := Lib.hid hb3
 clear hs hO K hN hD0 hDa hpI hm hDl hA0 hA hw2 hb3
 go_wp2_with fail
 rw [← HW2.out]
 refine (HP.out w2 _ _ HA.out.r).mono ?_
 rintro e w3 ⟨u, rfl, hown, hb⟩
 obtain ⟨Ai, ci, rfl⟩ := ownI_shape hown
 clear d0 d1 d2 d3
 obtain ⟨w4, hw4⟩ : ∃ V, V = w3.alloc (.cells #[.int .i64 W, .int .i64 H, .slice Ai m ci] 46) := ⟨_, rfl⟩
 obtain ⟨b5, hb5⟩ : ∃ b, b = w3.heap.size := ⟨_, rfl⟩
 have hbx : Below w3.heap.size w3 w4 := by rw [hw4]; exact belI_box _ _
 have hY : LyA w W H sb fs (.slice A N c) bs b3 Da (.slice Ai m ci) b5 w4 := ⟨(HA.out.call hb).call hbx, by rw [hw4, hb5]; exact BkAt.new _ _ _, (RdI.of_own hown).call hbx, belI_call (belI_call HK.out hb) hbx⟩
 have HY := Lib.hid hY
 obtain ⟨d0, d1, d2, d3⟩ := hY.a.cells
 have i0 := hY.i.cell 0 rfl
 have i1 := hY.i.cell 1 rfl
 have i2 := hY.i.cell 2 rfl
 dsimp only at d0 d1 d2 d3
 rw [hw4] at d0 d1 d2 d3
 rw [hw4, hb5] at i0 i1 i2
 have HW4 := Lib.hid hw4
 have HB5 := Lib.hid hb5
 clear hown hb hbx hY hw4 hb5
 rw [HB3.out] at d0 d1 d2 d3
 rcases N with _ | n
 ·have hfs : fs = [] := List.eq_nil_of_length_eq_zero HN.out.symm
  subst hfs
  have Hat := ly_empty Hs.out
  have HPE := fun V v' b' h => HPT.out V 0 0 v' b' h
  rw [Hat] at HPE
  have HPE := Lib.hid HPE
  clear Hat
  go_upto_region 9 with fail
  rw [← HW4.out, ← HB5.out, ← HB3.out]
  refine wp_region_held_drew (S := fun V => LyA w W H sb [] (.slice A 0 c) bs b3 Da (.slice Ai m ci) b5 V) (by kernel_rfl) (HY.out.call (belI_drew _)) (fun hS => ?_)
  refine tcH (i := 0) (v := .agg #[.int .i64 W, .int .i64 H, .int .i64 sb, .slice A 0 c]) rfl (by intro w' hSw; (try dsimp only at hSw); (obtain ⟨d0, d1, d2, d3⟩ := hSw.a.cells); ((try dsimp only at d0 d1 d2 d3)); go_simp) ?_
  refine tkH (i := 2) (v := .pointer (some ⟨b3, 2, none⟩)) rfl ?_
  refine tcH (i := 3) (v := .int .i64 sb) rfl (by intro w' hSw; (try dsimp only at hSw); (obtain ⟨d0, d1, d2, d3⟩ := hSw.a.cells); ((try dsimp only at d0 d1 d2 d3)); go_simp) ?_
  (try simp only [Act.put]); (try simp only [zPa]); (try simp only [zPb, zPc])
  refine wpAnyH_ready (rs := [1]) (by kernel_rfl) (by simp) ?_
  refine (AllReadyH.cons rfl (fun K hK => ?_) AllReadyH.nil)
  ·rw [if_pos (by kernel_rfl)]
   (try simp only [zGa]); (try simp only [zGb]); (try simp only [zGc])
   go_simp
   with_reducible refine (HPE.out _ _ _ hS.a.r).mono ?_
   rintro e W' ⟨rfl, hb⟩
   dsimp only
   refine hK.out _ _ (hS.call hb) (fun hS => ?_)
   clear hK
   (try simp only [Act.put]); (try simp only [zPa]); (try simp only [zPb, zPc])
   refine tkH (i := 4) (v := .bool true) rfl ?_
   refine tkH (i := 5) (v := .bool true) rfl ?_
   refine wpAnyH_done (by kernel_rfl) ?_ _
   have HK9 := Lib.hid hS.bw
   go_wp2_with fail
   go_ret
   exact ⟨rfl, HK9.out⟩
 ·have n0 : ¬ ((n + 1 : Nat) : Int) = 0 := by omega
  have n1 : IntKind.i64.wrap (((n + 1 : Nat) : Int) - 1) = (n : Int) := by rw [wrap_in _ (by omega) (by omega)]; omega
  obtain ⟨gs, f, d, bd, rfl, hf, hC, hd, hbd⟩ := pl_d HY.out.a.r (k := n) (by dsimp only; rw [← HN.out]; omega)
  dsimp only at hf
  obtain ⟨⟨Ad, cd, rfl⟩, _⟩ := ints_form hd
  have hcap := sfs_cap HY.out.a.r
  obtain ⟨bt, hRt, _⟩ := rep_take HY.out.a.r (n := n) (by dsimp only; rw [← HN.out]; omega)
  dsimp only at hRt
  have HF := Lib.hid hf
  have hsf := (Hs.out.2.2.2 n f hf).1
  obtain ⟨Dl, hDl⟩ : ∃ D, D = pnL W D0 (fs.take n) := ⟨_, rfl⟩
  have hsT := take_ok Hs.out n
  dsimp only at hsT
  have hpJ : pnIm ⟨W, H, sb, fs.take n⟩ = ⟨W, H, Dl⟩ := by rw [pnIm_yes hsT, hDl, HD0.out]; rfl
  have hDll : Dl.length = m := by rw [hDl, pnL_len, HD0.out, ly_flat, Hm.out]
  have HPJ := fun V v' b' h => paI ⟨W, H, sb, fs.take n⟩ v' b' V h
  unfold AnsIm ImAns at HPJ
  rw [hpJ] at HPJ
  dsimp only at HPJ
  rw [hDll] at HPJ
  have HPJ := Lib.hid HPJ
  have HDll := Lib.hid hDll
  obtain ⟨r, hr⟩ : ∃ r, r = sfRect f := ⟨_, rfl⟩
  obtain ⟨P, hP⟩ : ∃ P, P = sfPic f := ⟨_, rfl⟩
  have HR := fun W0 (h : RdI W0 (.slice Ad f.data.length cd) f.data) => srI f _ W0 h
  unfold SrAns RcAns at HR
  rw [← hr] at HR
  have HR := Lib.hid HR
  have HQ := fun W0 (h : RdI W0 (.slice Ad f.data.length cd) f.data) => picI f _ W0 h
  unfold PicAns AnsIm ImAns at HQ
  rw [← hP] at HQ
  have HQ := Lib.hid HQ
  have Hr := Lib.hid hr
  have HPf := Lib.hid hP
  have hrk := sfRect_ok f
  rw [← hr] at hrk
  unfold Rc.ok at hrk
  have Hrk := Lib.hid hrk
  have HTop : Hid (∀ k, k < m → Da.getD k 0 = if hasB r (k % W : Nat) (k / W : Nat) = true then over (pnPx W f.x f.y P k) (Dl.getD k 0) else Dl.getD k 0) := Lib.hid fun k hk => by
   rw [HDa.out, hDl, HD0.out, hr, hP]
   exact ly_top HN.out.symm hf (by rw [← Hm.out]; exact hk)
  have HAt : Hid (∀ k, k < m → pnAt ⟨W, H, sb, fs⟩ ((k % W : Nat) : Int) ((k / W : Nat) : Int) = Da.getD k 0) := Lib.hid fun k hk => by
   rw [HDa.out, HD0.out]
   exact ly_at Hs.out (by rw [← Hm.out]; exact hk)
  have HPx : Hid (∀ k, hasB r (k % W : Nat) (k / W : Nat) = true → pxOf P.w P.h P.d (((k % W : Nat) : Int) - r.x) (((k / W : Nat) : Int) - r.y) = pnPx W f.x f.y P k) := Lib.hid fun k hb => by
   rw [hr] at hb ⊢
   rw [hP]
   exact (ly_px hb).1
  have HC := Lib.hid hC
  have Hd := Lib.hid (repInts_rd hd)
  have HRt := Lib.hid hRt
  clear hf hsf hDl hsT hpJ hDll hr hP hrk hC hd hbd hRt
  have hcap2 : (n : Int) ≤ (c : Int) := by omega
  have n2 : (0 : Int) ≤ (n : Int) := by omega
  have n3 : IntKind.i64.wrap (n : Int) = (n : Int) := wrap_in _ (by omega) (by omega)
  have n4 : (n : Int) < ((n + 1 : Nat) : Int) := by omega
  go_upto_region 10 with fail
  rw [← HW4.out, ← HB5.out, ← HB3.out]
  clear d0 d1 d2 d3 i0 i1 i2
  go_cut [7] (fun s7 wx => ∃ V, V = wx ∧ ∃ b7, s7 = .pointer (some ⟨b7, 0, none⟩) ∧ BkAt V b7 32 #[.int .i64 W, .int .i64 H, .int .i64 sb, .slice (some ⟨gs, 0, none⟩) n c] ∧ Below w4.heap.size w4 V)
  case first =>
   refine wp_region_held_drew (S := fun V => Below w4.heap.size w4 V) (by kernel_rfl) (Below.refl _ _).drew (fun hS => ?_)
   refine tkH (i := 0) (v := .pointer (some ⟨b3, 0, none⟩)) rfl ?_
   refine tcH (i := 1) (v := .int .i64 W) rfl (by intro w' hSw; (try dsimp only at hSw); (obtain ⟨d0, d1, d2, d3⟩ := (HY.out.call hSw).a.cells); ((try dsimp only at d0 d1 d2 d3)); go_simp) ?_
   refine tkH (i := 2) (v := .pointer (some ⟨b3, 1, none⟩)) rfl ?_
   refine tcH (i := 3) (v := .int .i64 H) rfl (by intro w' hSw; (try dsimp only at hSw); (obtain ⟨d0, d1, d2, d3⟩ := (HY.out.call hSw).a.cells); ((try dsimp only at d0 d1 d2 d3)); go_simp) ?_
   refine tkH (i := 4) (v := .pointer (some ⟨b3, 2, none⟩)) rfl ?_
   refine tcH (i := 5) (v := .int .i64 sb) rfl (by intro w' hSw; (try dsimp only at hSw); (obtain ⟨d0, d1, d2, d3⟩ := (HY.out.call hSw).a.cells); ((try dsimp only at d0 d1 d2 d3)); go_simp) ?_
   refine tkH (i := 6) (v := .pointer (some ⟨b3, 3, none⟩)) rfl ?_
   refine tcH (i := 7) (v := .slice (some ⟨gs, 0, none⟩) (n + 1) c) rfl (by intro w' hSw; (try dsimp only at hSw); (obtain ⟨d0, d1, d2, d3⟩ := (HY.out.call hSw).a.cells); ((try dsimp only at d0 d1 d2 d3)); go_simp) ?_
   refine tkH (i := 8) (v := .int .i64 ((n + 1 : Nat) : Int)) rfl ?_
   refine tkH (i := 9) (v := .int .i64 (n : Int)) rfl ?_
   refine tkH (i := 10) (v := .slice (some ⟨gs, 0, none⟩) n c) rfl ?_
   refine tkH (i := 11) (v := .agg #[.int .i64 W, .int .i64 H, .int .i64 sb, .slice (some ⟨gs, 0, none⟩) n c]) rfl ?_
   (try simp only [Act.put]); (try simp only [zPa]); (try simp only [zPb, zPc])
   refine wpAnyH_ready (rs := [12]) (by kernel_rfl) (by simp) ?_
   refine (AllReadyH.cons rfl (fun K hK => ?_) AllReadyH.nil)
   ·rw [if_pos (by kernel_rfl)]
    (try simp only [zGa]); (try simp only [zGb]); (try simp only [zGc])
    refine wp_alloc_bk 32 #[.int .i64 0, .int .i64 0, .int .i64 0, .slice none 0 0] (fun _ => by kernel_rfl) rfl 7 rfl ?_
    intro bB W' hb GB lB
    have kB : w4.heap.size ≤ bB := Nat.le_trans hS.size lB
    refine hK.out _ _ (belI_call hS hb) (fun hS => ?_)
    clear hK
    (try simp only [Act.put]); (try simp only [zPa]); (try simp only [zPb, zPc])
    refine wpAnyH_ready (rs := [13]) (by kernel_rfl) (by simp) ?_
    refine (AllReadyH.cons rfl (fun K hK => ?_) AllReadyH.nil)
    ·rw [if_pos (by kernel_rfl)]
     (try simp only [zGa]); (try simp only [zGb]); (try simp only [zGc])
     refine wp_store_bk 32 (.tmp 7) (.tmp 68) rfl bB _ #[.int .i64 0, .int .i64 0, .int .i64 0, .slice none 0 0] #[.int .i64 W, .int .i64 H, .int .i64 sb, .slice (some ⟨gs, 0, none⟩) n c] (by kernel_rfl) rfl (by simp [Value.oneCell']) rfl (by first | with_reducible rfl | (go_simp; done) | rfl) GB ?_
     intro W3 IB hgB
     skip
     refine hK.out _ _ ((Chg.of_grown hgB).below hS hS.size (fun b hb => by have h0 : b = bB := (by simpa using hb); omega)) (fun hS => ?_)
     clear hK
     (try simp only [Act.put]); (try simp only [zPa]); (try simp only [zPb, zPc])
     refine wpAnyH_done (by kernel_rfl) ?_ _
     go_wp2_with fail
     go_meet
     case rel => exact ⟨_, rfl, bB, rfl, IB, hS⟩
  case rest =>
   obtain ⟨V7, hV7, b7, rfl, hB7, hb7⟩ := hcut
   subst hV7
   have e0 := hB7.cell 0 rfl
   have e1 := hB7.cell 1 rfl
   have e2 := hB7.cell 2 rfl
   have e3 := hB7.cell 3 rfl
   go_wp2_with fail
   refine (HPJ.out V7 _ _ (Rep.call HRt.out hb7)).mono ?_
   rintro e w8 ⟨uj, rfl, hoj, hb⟩
   obtain ⟨Aj, cj, rfl⟩ := ownI_shape hoj
   clear e0 e1 e2 e3
   obtain ⟨V8, hV8⟩ : ∃ V, V = w8.alloc (.cells #[.int .i64 W, .int .i64 H, .slice Aj m cj] 46) := ⟨_, rfl⟩
   obtain ⟨b8, hb8⟩ : ∃ b, b = w8.heap.size := ⟨_, rfl⟩
   have hbx : Below w8.heap.size w8 V8 := by rw [hV8]; exact belI_box _ _
   have hj := BkAt.new w8 46 #[.int .i64 W, .int .i64 H, .slice Aj m cj]
   rw [← hV8, ← hb8] at hj
   have hJ := Lib.hid hj
   have hJd := Lib.hid ((RdI.of_own hoj).call hbx)
   have hw8 := belI_call (belI_call hb7 hb) hbx
   have HV8 := Lib.hid hV8
   have HB8 := Lib.hid hb8
   have hY8 := HY.out.call hw8
   obtain ⟨d0, d1, d2, d3⟩ := hY8.a.cells
   obtain ⟨c0, c1, c2, c3, c4, c5, c6, c7, c8, c9, c10⟩ := HC.out.call hw8
   dsimp only at d0 d1 d2 d3
   rw [hV8] at d0 d1 d2 d3 c0 c1 c2 c3 c4 c5 c6 c7 c8 c9 c10
   clear hj hoj hb hbx hV8 hb8 hB7 hb7 hY8
   go_wp2_with fail
   rw [← HV8.out, ← HB8.out]
   clear d0 d1 d2 d3 c0 c1 c2 c3 c4 c5 c6 c7 c8 c9 c10
   refine (HQ.out V8 (Hd.out.call hw8)).mono ?_
   rintro e w9 ⟨up, rfl, hop, hb⟩
   obtain ⟨Ap, cp, rfl⟩ := ownI_shape hop
   obtain ⟨V9, hV9⟩ : ∃ V, V = w9.alloc (.cells #[.int .i64 P.w, .int .i64 P.h, .slice Ap P.d.length cp] 46) := ⟨_, rfl⟩
   obtain ⟨b9, hb9⟩ : ∃ b, b = w9.heap.size := ⟨_, rfl⟩
   have hbx : Below w9.heap.size w9 V9 := by rw [hV9]; exact belI_box _ _
   have hp := BkAt.new w9 46 #[.int .i64 P.w, .int .i64 P.h, .slice Ap P.d.length cp]
   rw [← hV9, ← hb9] at hp
   have hPp := Lib.hid hp
   have hPd := Lib.hid ((RdI.of_own hop).call hbx)
   have hJ9 := Lib.hid ((hJ.out.call hb).call hbx)
   have hJd9 := Lib.hid ((hJd.out.call hb).call hbx)
   have hw9 := belI_call (belI_call hw8 hb) hbx
   have HV9 := Lib.hid hV9
   have HB9 := Lib.hid hb9
   have hY9 := HY.out.call hw9
   obtain ⟨d0, d1, d2, d3⟩ := hY9.a.cells
   obtain ⟨c0, c1, c2, c3, c4, c5, c6, c7, c8, c9, c10⟩ := HC.out.call hw9
   dsimp only at d0 d1 d2 d3
   rw [hV9] at d0 d1 d2 d3 c0 c1 c2 c3 c4 c5 c6 c7 c8 c9 c10
   clear hp hop hb hbx hV9 hb9 hw8 hY9 hJ hJd
   go_wp2_with fail
   rw [← HV9.out, ← HB9.out]
   clear d0 d1 d2 d3 c0 c1 c2 c3 c4 c5 c6 c7 c8 c9 c10
   refine (HR.out V9 (Hd.out.call hw9)).mono ?_
   rintro e w10 ⟨rfl, hb⟩
   obtain ⟨V10, hV10⟩ : ∃ V, V = w10.alloc (.cells #[.int .i64 r.x, .int .i64 r.y, .int .i64 r.w, .int .i64 r.h] 81) := ⟨_, rfl⟩
   obtain ⟨b10, hb10⟩ : ∃ b, b = w10.heap.size := ⟨_, rfl⟩
   have hbx : Below w10.heap.size w10 V10 := by rw [hV10]; exact belI_box _ _
   have hrr : RcAt V10 b10 r := by rw [hV10]; exact RcAt.newAt hb10.symm r
   have hB0 : LyB w W H sb fs (.slice (some ⟨gs, 0, none⟩) (n + 1) c) bs b3 Da (.slice Ai m ci) b5 Dl (.slice Aj m cj) b8 P (.slice Ap P.d.length cp) b9 r b10 V10 :=
    ⟨HY.out.call (belI_call (belI_call hw9 hb) hbx), (hJ9.out.call hb).call hbx, (hJd9.out.call hb).call hbx, (hPp.out.call hb).call hbx, (hPd.out.call hb).call hbx, hrr⟩
   have HB0 := Lib.hid hB0
   have HV10 := Lib.hid hV10
   have HB10 := Lib.hid hb10
   clear hb hbx hrr hV10 hb10 hw9 hJ9 hJd9 hPp hPd hB0
   go_wp2_with fail
   rw [← HV10.out, ← HB10.out]
   go_loopg [11] m (fun gk s11 wr => ∃ (k : Nat) (V : World), V = wr ∧ k ≤ m ∧ gk = m - k ∧ s11 = .int .i64 k ∧ Hid (LyB w W H sb fs (.slice (some ⟨gs, 0, none⟩) (n + 1) c) bs b3 Da (.slice Ai m ci) b5 Dl (.slice Aj m cj) b8 P (.slice Ap P.d.length cp) b9 r b10 V))
   case atStart => exact ⟨0, _, rfl, Nat.zero_le _, by omega, rfl, HB0⟩
   case round =>
    clear HB0
    obtain ⟨k, V, hV, hk, rfl, rfl, HB⟩ := hrel
    subst hV
    by_cases hlt : k < m
    ·obtain ⟨gi, hAi, ic⟩ := rdi_cell HB.out.y.d (k := k) (by rw [HDl.out]; exact hlt)
     subst hAi
     obtain ⟨gj, hAj, jc⟩ := rdi_cell HB.out.e (k := k) (by rw [HDll.out]; exact hlt)
     subst hAj
     have hTop := HTop.out k hlt
     have hAt := HAt.out k hlt
     have hPx := HPx.out k
     obtain ⟨x, hx⟩ : ∃ x, x = k % W := ⟨_, rfl⟩
     obtain ⟨y, hy⟩ : ∃ y, y = k / W := ⟨_, rfl⟩
     obtain ⟨va, hva⟩ : ∃ v, v = Da.getD k 0 := ⟨_, rfl⟩
     obtain ⟨vl, hvl⟩ : ∃ v, v = Dl.getD k 0 := ⟨_, rfl⟩
     have hxW : x < W := by rw [hx]; exact Nat.mod_lt _ (by omega)
     have hyH : y < H := by rw [hy]; exact plc_row (by rw [← Hm.out]; exact hlt)
     rw [← hx, ← hy, ← hva, ← hvl] at hTop
     rw [← hx, ← hy, ← hva] at hAt
     rw [← hx, ← hy] at hPx
     rw [← hva] at ic
     rw [← hvl] at jc
     have tx : Int.tmod (k : Int) (W : Int) = (x : Int) := by rw [hx, Int.tmod_eq_emod_of_nonneg (by omega)]; rfl
     have ty : Int.tdiv (k : Int) (W : Int) = (y : Int) := by rw [hy, Int.tdiv_eq_ediv_of_nonneg (by omega)]; rfl
     have tx2 : (k : Int) % (W : Int) = (x : Int) := by rw [hx]; rfl
     have ty2 : (k : Int) / (W : Int) = (y : Int) := by rw [hy]; rfl
     have nw : ¬ W = 0 := by omega
     have k0 : (0 : Int) ≤ (k : Int) := by omega
     have k1 : (k : Int) < (m : Int) := by omega
     have HATk := fun V v' b' h => HPT.out V (x : Int) (y : Int) v' b' h
     rw [hAt] at HATk
     have HATk := Lib.hid HATk
     have HTk := Lib.hid hTop
     have HPk := Lib.hid hPx
     have hrk := Hrk.out
     obtain ⟨px, hpx⟩ : ∃ p, p = pnPx W f.x f.y P k := ⟨_, rfl⟩
     rw [← hpx] at HTk HPk
     have HVA : Hid (Da.getD k 0 = va) := Lib.hid hva.symm
     clear hx hy hva hvl hTop hAt hPx hpx
     obtain ⟨d0, d1, d2, d3⟩ := HB.out.y.a.cells
     dsimp only at d0 d1 d2 d3
     have i2 := HB.out.y.i.cell 2 rfl
     have j2 := HB.out.j.cell 2 rfl
     obtain ⟨r0, r1, r2, r3⟩ := HB.out.r.cells
     go_wp2_with fail
     refine (hasI_any r (x : Int) (y : Int) _).mono ?_
     rintro e w12 ⟨rfl, hb⟩
     have HB := Lib.hid (HB.out.call hb)
     clear hb d0 d1 d2 d3 i2 j2 r0 r1 r2 r3 ic jc tx ty tx2 ty2 nw
     by_cases hh : hasB r (x : Int) (y : Int) = true
     ·have hT := HTk.out
      rw [if_pos hh] at hT
      have hP := HPk.out hh
      rw [hh]
      have HPX := fun (V : World) => pxS P.w P.h ((x : Int) - r.x) ((y : Int) - r.y) (.slice Ap P.d.length cp) P.d V
      unfold PxAns at HPX
      rw [hP] at HPX
      have HPX := Lib.hid HPX
      have HOV := fun (V : World) => overS_any px vl V
      rw [← hT] at HOV
      have HOV := Lib.hid HOV
      have q1 : IntKind.i64.wrap ((x : Int) - r.x) = (x : Int) - r.x := wrap_in _ (by omega) (by omega)
      have q2 : IntKind.i64.wrap ((y : Int) - r.y) = (y : Int) - r.y := wrap_in _ (by omega) (by omega)
      clear hT hP hh HTk HPk
      obtain ⟨r0, r1, r2, r3⟩ := HB.out.r.cells
      have p0 := HB.out.p.cell 0 rfl
      have p1 := HB.out.p.cell 1 rfl
      have p2 := HB.out.p.cell 2 rfl
      go_wp2_with fail
      refine (HPX.out _ HB.out.d).mono ?_
      rintro e w13 ⟨rfl, hb⟩
      have HB := Lib.hid (HB.out.call hb)
      clear hb r0 r1 r2 r3 p0 p1 p2 q1 q2
      go_wp2_with fail
      refine (HOV.out _).mono ?_
      rintro e w14 ⟨rfl, rfl⟩
      clear HPX HOV
      obtain ⟨gi', hgi, ic⟩ := rdi_cell HB.out.y.d (k := k) (by rw [HDl.out]; exact hlt)
      obtain rfl : gi = gi' := by injection hgi with h; injection h
      rw [HVA.out] at ic
      have i2 := HB.out.y.i.cell 2 rfl
      obtain ⟨d0, d1, d2, d3⟩ := HB.out.y.a.cells
      dsimp only at d0 d1 d2 d3
      by_cases h7 : k % 7 = 0
      ·have t7 : Int.tmod (k : Int) 7 = 0 := by rw [Int.tmod_eq_emod_of_nonneg (by omega)]; omega
       have u7 : (k : Int) % 7 = 0 := by omega
       go_wp2_with fail
       refine (HATk.out _ _ _ HB.out.y.a.r).mono ?_
       rintro e w15 ⟨rfl, hb⟩
       have HB := Lib.hid (HB.out.call hb)
       clear hb d0 d1 d2 d3 i2 ic
       go_wp2_with fail
       go_roundg (m - (k + 1))
       case measure => omega
       case rel => exact ⟨k + 1, _, rfl, by omega, rfl, by go_num, HB⟩
      ·have t7 : ¬ Int.tmod (k : Int) 7 = 0 := by rw [Int.tmod_eq_emod_of_nonneg (by omega)]; omega
       have u7 : ¬ (k : Int) % 7 = 0 := by omega
       go_wp2_with fail
       go_roundg (m - (k + 1))
       case measure => omega
       case rel => exact ⟨k + 1, _, rfl, by omega, rfl, by go_num, HB⟩
     ·have hT := HTk.out
      rw [if_neg hh] at hT
      subst hT
      rw [show hasB r (x : Int) (y : Int) = false by simpa using hh]
      clear hh HTk HPk
      obtain ⟨gi', hgi, ic⟩ := rdi_cell HB.out.y.d (k := k) (by rw [HDl.out]; exact hlt)
      obtain rfl : gi = gi' := by injection hgi with h; injection h
      rw [HVA.out] at ic
      have i2 := HB.out.y.i.cell 2 rfl
      obtain ⟨d0, d1, d2, d3⟩ := HB.out.y.a.cells
      dsimp only at d0 d1 d2 d3
      by_cases h7 : k % 7 = 0
      ·have t7 : Int.tmod (k : Int) 7 = 0 := by rw [Int.tmod_eq_emod_of_nonneg (by omega)]; omega
       have u7 : (k : Int) % 7 = 0 := by omega
       go_wp2_with fail
       refine (HATk.out _ _ _ HB.out.y.a.r).mono ?_
       rintro e w15 ⟨rfl, hb⟩
       have HB := Lib.hid (HB.out.call hb)
       clear hb d0 d1 d2 d3 i2 ic
       go_wp2_with fail
       go_roundg (m - (k + 1))
       case measure => omega
       case rel => exact ⟨k + 1, _, rfl, by omega, rfl, by go_num, HB⟩
      ·have t7 : ¬ Int.tmod (k : Int) 7 = 0 := by rw [Int.tmod_eq_emod_of_nonneg (by omega)]; omega
       have u7 : ¬ (k : Int) % 7 = 0 := by omega
       go_wp2_with fail
       go_roundg (m - (k + 1))
       case measure => omega
       case rel => exact ⟨k + 1, _, rfl, by omega, rfl, by go_num, HB⟩
    ·obtain rfl : k = m := by omega
     have i2 := HB.out.y.i.cell 2 rfl
     go_wp2_with fail
     go_ret
     exact ⟨rfl, HB.out.y.bw⟩
end Go.Proofs.Ytdgagooldlnpeaa
