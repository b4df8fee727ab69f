/- The walk of the law FnHidden: it returns true for every code. -/
import Derived.Test.YtdgagooldlnpeaaGreatMA
import Derived.Test.YtdgagooldlnpeaaGreatMAv01
import Derived.Test.YtdgagooldlnpeaaGreatMB
import Derived.Test.YtdgagooldlnpeaaGreatMAv012
import Derived.Test.YtdgagooldlnpeaaGreatMBv01
import Derived.Test.YtdgagooldlnpeaaGreatMAv013
import Derived.Test.YtdgagooldlnpeaaGreatDrwIv01
import Derived.Test.YtdgagooldlnpeaaGreatB1sav01
import Derived.Test.YtdgagooldlnpeaaGreatMC
import Derived.Test.YtdgagooldlnpeaaGreatSnS
import Derived.Test.YtdgagooldlnpeaaGreatCombIv013
import Derived.Test.YtdgagooldlnpeaaGreatB1nav013
import Derived.Test.YtdgagooldlnpeaaGreatSlAv01
import Derived.Test.YtdgagooldlnpeaaGreatSnDv01
import Derived.Test.YtdgagooldlnpeaaGreatB2sav01
import Derived.Test.YtdgagooldlnpeaaGreatDrSv01
import Derived.Test.YtdgagooldlnpeaaGreatB4sav01
import Derived.Test.YtdgagooldlnpeaaGreatB1sav013
import Derived.Test.YtdgagooldlnpeaaGreatSfP
import Derived.Test.YtdgagooldlnpeaaGreatB2sav012
import Derived.Test.YtdgagooldlnpeaaGreatB2sav013
import Derived.Test.YtdgagooldlnpeaaGreatB2sav13
import Derived.Test.YtdgagooldlnpeaaGreatB2sa
import Derived.Test.YtdgagooldlnpeaaGreatSeIv013
import Derived.Test.YtdgagooldlnpeaaGreatB3sav1
import Derived.Test.YtdgagooldlnpeaaGreatPnSv012
import Derived.Test.YtdgagooldlnpeaaGreatPnI
import Derived.Test.YtdgagooldlnpeaaGreatB3sa
import Derived.Test.YtdgagooldlnpeaaGreatB3sav01
import Derived.Test.YtdgagooldlnpeaaGreatB3sav12
import Derived.Test.YtdgagooldlnpeaaGreatB2sav1
import Derived.Test.YtdgagooldlnpeaaGreatProg
import Derived.WalkKit
import Derived.ProofKit
import Derived.OpenShut
import Derived.WalkLawsBesides
import Derived.WalkSpells
import Derived.ShutString
import Derived.ChangeOld
import Derived.Below
import Derived.Lib.Hide
import Derived.BigQuiet
import Derived.Deep.QuietTactic
import Derived.Maps.AppendAt
import Derived.Deep.OwnRows
import Derived.Handy
import Derived.Deep.Draws
import Derived.OwnWalk
import Derived.Deep.AppendLies
import Derived.Deep.LoopGhost
import Derived.Deep.Onto
import Derived.Deep.MidRow
import Derived.Deep.WholeRow
import Derived.Laws.BitsAllLaws
import Derived.Lib.QuoteBits
import Derived.Test.YtdgagooldlnpeaaGreatShelf
import Derived.Laws.CopyOwn
import Derived.Deep.RegionLaw
import Derived.Deep.RegionHeld3
import Derived.Deep.DeepCutAuto
import Derived.Great.BuildSlice
import Derived.Laws.AppendOwn
import Derived.Deep.CutBlock
import Derived.Shelf.RegionOpenPlain
import Derived.Lib.SliceRun
import Derived.Deep.RegionWith
import Derived.ChangeKeysEq
import Derived.Deep.DeepAppendRoom
namespace Go.Proofs.YtdgagooldlnpeaaGreat
open Go.RowKit
structure HiS (w : World) (s : Sn) (v : Value) (bs : List Nat) (b3 : Nat) (V : World) : Prop where
 a : SnA b3 s v bs V
 bw : Below w.heap.size w V
theorem HiS.call {w : World} {s : Sn} {v : Value} {bs : List Nat} {b3 : Nat} {V V' : World} (h : HiS w s v bs b3 V) (hb : Below V.heap.size V V') : HiS w s v bs b3 V' := ⟨h.a.call hb, belI_call h.bw hb⟩
theorem HiS.grown {w : World} {s : Sn} {v : Value} {bs : List Nat} {b3 b5 : Nat} {row : Option Nat} {V V' : World} (h : HiS w s v bs b3 V) (hB : (∀ b ∈ bs, b < b3) ∧ b3 < b5 ∧ w.heap.size ≤ b3) (hr : ∀ g, row = some g → b5 ≤ g) (hg : V.grownBy V' row) : HiS w s v bs b3 V' :=
 ⟨⟨h.a.at_.grown hg fun e => by have := hr b3 e.symm; omega, Rep.chg h.a.r (Chg.of_grown hg) fun q hq e => by have h1 := hB.1 q hq; have h2 := hr q (by simpa using e); omega⟩, (Chg.of_grown hg).below h.bw h.bw.size fun b hb => by have := hr b (by simpa using hb); omega⟩
theorem c11_lt {V : World} {g o : Nat} {f : Sf} {d : Value} (h : C11 V g o f d) : g < V.heap.size := World.block_lt_of_cell? V _ h.c0
theorem grown_set1 (V : World) (g o : Nat) (v : Value) : V.grownBy (V.setCell ⟨g, o, none⟩ v) (some g) := grown_setI V g o v
theorem row_in {V : World} {fs : List Sf} {g n c b3 : Nat} {bs : List Nat} (h : repSfs.R V fs [.slice (some ⟨g, 0, none⟩) n c] bs) (hl : 0 < fs.length) (hb : ∀ b ∈ bs, b < b3) : g < b3 := by
 obtain ⟨g', f, d, e, _, _, _, hg, _⟩ := repSfs_at2 h hl
 injection e with e
 injection e with e _ _
 subst e
 exact hb _ hg
set_option maxHeartbeats 4000000 in
set_option maxRecDepth 100000 in
theorem walk_FnHidden (a0 : Option Addr) (len cap : Nat) (zs : List Int) (w : World) (hrow : IsRow .u8 w a0 len cap zs) :
  Calls Tryz.prog 9 #[.slice a0 len cap] w fun e w' => e = .returned (.bool true) ∧ Below w.heap.size w w' := by
 by_cases hbig : len ≤ 1048576
 rotate_left
 ·go_enter Tryz.func9, Tryz.ntmps9
  go_wp2_with fail
  refine (big_yes _ _ _ _ (by omega)).mono ?_
  rintro e w1 ⟨rfl, rfl⟩
  go_wp2_with fail
  go_ret
  exact ⟨rfl, Below.refl _ _⟩
 go_enter Tryz.func9, Tryz.ntmps9
 go_wp2_with fail
 refine (big_no _ _ _ _ hbig).mono ?_
 rintro e w1 ⟨rfl, rfl⟩
 go_wp2_with fail
 refine (drawScene_any _ _ _ _ zs hrow).mono ?_
 rintro e w1 ⟨s, v, bs, L, ue, cs, rfl, hs, hO, _, _, hE, _, K⟩
 obtain ⟨⟨A, c, rfl⟩, _⟩ := repSfs_form hO.r
 clear hE hrow
 obtain ⟨N, hN⟩ : ∃ N, N = s.fs.length := ⟨_, rfl⟩
 have hN6 : N ≤ 6 := by rw [hN]; exact hs.2.2.1
 rw [← hN] at hO ⊢
 have HN := Lib.hid hN
 obtain ⟨w2, hw2⟩ : ∃ V, V = (w1.alloc (.cells #[.int .i64 s.w, .int .i64 s.h, .int .i64 s.back, .slice A N c] 34)).alloc (.cells #[.int .i64 s.w, .int .i64 s.h, .int .i64 s.back, .slice none 0 0] 34) := ⟨_, rfl⟩
 obtain ⟨b3, hb3⟩ : ∃ b, b = w1.heap.size := ⟨_, rfl⟩
 obtain ⟨b5, hb5⟩ : ∃ b, b = w1.heap.size + 1 := ⟨_, rfl⟩
 have hA : HiS w s (.slice A N c) bs b3 w2 := by
  rw [hw2, hb3]
  have h1 := SnA.born (s := s) hO.r
  exact ⟨h1.call (belI_box _ _), belI_call (belI_call K (belI_box _ _)) (belI_box _ _)⟩
 have hB : BkAt w2 b5 34 #[.int .i64 s.w, .int .i64 s.h, .int .i64 s.back, .slice none 0 0] := by rw [hw2, hb5]; exact BkAt.newAt (by simp) _ _
 have HB5 : Hid ((∀ b ∈ bs, b < b3) ∧ b3 < b5 ∧ w.heap.size ≤ b3) := Lib.hid ⟨fun b hb => by rw [hb3]; exact repSfs.ex hO.r b hb, by omega, by rw [hb3]; exact K.size⟩
 have Hs := Lib.hid hs
 obtain ⟨_, _, _, _, a1, a2⟩ := sn_sizes hs
 have hsz2 : b5 < w2.heap.size := hB.lt
 have HW2 := Lib.hid hw2
 have HE3 := Lib.hid hb3
 have HE5 := Lib.hid hb5
 have HT0 := Lib.hid hA
 have HBk0 : Hid (BkAt w2 b5 34 #[.int .i64 s.w, .int .i64 s.h, .int .i64 s.back, .slice none 0 0]) := Lib.hid hB
 have HU0 : Hid (HalfU (b5 + 1) w2 (hidK s.w s.h s.fs 0) (.slice none 0 0) [] ∧ (∀ b ∈ ([] : List Nat), b ∈ bs)) := Lib.hid ⟨HalfU.nil _ _, by simp⟩
 have HVI := Lib.hid (fun (W : World) (k : Int) h => visI s k (.slice A N c) bs W h)
 unfold RgQ at HVI
 obtain ⟨d0, d1, d2, d3⟩ := (SnA.born (s := s) hO.r).cells
 clear hs hO K hN hw2 hb3 hb5 hA hB
 go_wp2_with fail
 rw [← HW2.out, ← HE5.out, ← HE3.out]
 clear d0 d1 d2 d3
 go_loopg [6] N (fun gk s6 wr => ∃ (k : Nat) (u5 : Value) (bu : List Nat) (V : World), V = wr ∧ k ≤ N ∧ gk = N - k ∧ s6 = .int .i64 k ∧ Hid (HiS w s (.slice A N c) bs b3 V) ∧ Hid (BkAt V b5 34 #[.int .i64 s.w, .int .i64 s.h, .int .i64 s.back, u5]) ∧ Hid (HalfU (b5 + 1) V (hidK s.w s.h s.fs k) u5 bu ∧ (∀ b ∈ bu, b ∈ bs)))
 case atStart => exact ⟨0, _, _, _, rfl, Nat.zero_le _, by omega, rfl, HT0, HBk0, HU0⟩
 case round =>
  clear HT0 HBk0 HU0 hsz2
  obtain ⟨k, u5, bu, V, hV, hk, rfl, rfl, HT, HBk, HU⟩ := hrel
  subst hV
  obtain ⟨d0, d1, d2, d3⟩ := HT.out.a.cells
  by_cases hlt : k < N
  ·obtain ⟨gs, f, d, bd, hA1, hf, hC, hd, hbd⟩ := pl_d HT.out.a.r (k := k) (by rw [← HN.out]; exact hlt)
   subst hA1
   obtain ⟨⟨Ad, cd, rfl⟩, _⟩ := ints_form hd
   have hgsb := row_in HT.out.a.r (by rw [← HN.out]; omega) (HB5.out.1)
   have hvm := visM_yes Hs.out hf
   obtain ⟨Q, hQ⟩ : ∃ Q, Q = ocV s.w s.h f (s.fs.drop (k + 1)) := ⟨_, rfl⟩
   rw [← hQ] at hvm
   have hnx := hidK_next (W := s.w) (H := s.h) hf
   rw [← hQ] at hnx
   have HV := HVI.out V k HT.out.a.r
   rw [hvm] at HV
   have HV := Lib.hid HV
   obtain ⟨ak, hak⟩ : ∃ a, a = areaR Q := ⟨_, rfl⟩
   have HAR := fun (u : Value) (W : World) h => areaI u Q W h
   rw [← hak] at HAR hnx
   have HAR := Lib.hid HAR
   have Hnx := Lib.hid hnx
   have Hbd := Lib.hid hbd
   have Hd := Lib.hid hd
   have HC := Lib.hid hC
   have k0 : (0 : Int) ≤ (k : Int) := by omega
   have k1 : (k : Int) < (N : Int) := by omega
   clear hf hC hd hbd hvm hQ hnx hak
   by_cases hpos : 0 < ak
   ·go_wp2_with fail
    refine HV.out.mono ?_
    rintro e w3 ⟨z, rfl, hz, hb⟩
    obtain ⟨Az, cz, rfl⟩ := own_shape hz
    have hT := HT.out.call hb
    have hB := HBk.out.call hb
    have hU := HU.out.1.call hb
    have hd := Rep.call Hd.out hb
    have hC := HC.out.call hb
    have hz := RdR.of_own hz
    clear d0 d1 d2 d3 hb
    go_wp2_with fail
    refine (HAR.out _ _ hz).mono ?_
    rintro e w4 ⟨rfl, hb⟩
    replace hT := hT.call hb
    replace hB := hB.call hb
    replace hU := hU.call hb
    replace hd := Rep.call hd hb
    replace hC := hC.call hb
    have Hbu := Lib.hid HU.out.2
    have hMl : (hidK s.w s.h s.fs k).length ≤ 6 := Nat.le_trans (hidK_len _ _ _ _) (by omega)
    have HMl := Lib.hid hMl
    have Hnx2 : Hid (hidK s.w s.h s.fs (k + 1) = hidK s.w s.h s.fs k ++ [f]) := Lib.hid (by rw [Hnx.out, if_pos hpos])
    clear hz hb HT HBk HU Hd HC hMl
    go_upto_region 9 with fail
    have hgs : gs < b5 := by have h1 := HB5.out; have h2 := hgsb; omega
    refine wp_region_held_drew (S := fun V => HiS w s (.slice (some ⟨gs, 0, none⟩) N c) bs b3 V ∧ C11 V gs (k * 11) f (.slice Ad f.data.length cd)) (by kernel_rfl) ⟨hT.call (belI_drew _), hC.call (belI_drew _)⟩ (fun hS => ?_)
    replace hB := hB.call (belI_drew _)
    replace hU := hU.call (belI_drew _)
    replace hd := Rep.call hd (belI_drew _)
    refine tkH (i := 0) (v := .pointer (some ⟨b5, 3, none⟩)) rfl ?_
    refine tkH (i := 2) (v := .pointer (some ⟨b3, 3, none⟩)) rfl ?_
    refine tcH (i := 3) (v := .slice (some ⟨gs, 0, none⟩) N c) rfl (by intro w' hSw; (try dsimp only at hSw); (obtain ⟨d0, d1, d2, d3⟩ := hSw.1.a.cells); go_simp) ?_
    refine tkH (i := 4) (v := .int .i64 (k : Int)) rfl ?_
    refine tkH (i := 5) (v := .pointer (some ⟨gs, k * 11, none⟩)) rfl ?_
    refine tcH (i := 6) (v := .agg #[.int .i64 f.id, .int .i64 f.x, .int .i64 f.y, .int .i64 f.w, .int .i64 f.h, .int .i64 f.alpha, .int .i64 f.orient, .bool f.vis, .int .i64 f.bw, .int .i64 f.bh, .slice Ad f.data.length cd]) rfl (by intro w' hSw; (try dsimp only at hSw); (obtain ⟨c0, c1, c2, c3, c4, c5, c6, c7, c8, c9, c10⟩ := hSw.2); go_simp) ?_
    (try simp only [Act.put]); (try simp only [zPa]); (try simp only [zPb, zPc])
    refine wpAnyH_ready (rs := [1, 7]) (by kernel_rfl) (by simp) ?_
    refine (AllReadyH.cons rfl (fun K hK => ?_) (AllReadyH.cons rfl (fun K hK => ?_) AllReadyH.nil))
    ·rw [if_pos (by kernel_rfl)]
     (try simp only [zGa]); (try simp only [zGb]); (try simp only [zGc])
     have c3 := hB.cell 3 rfl
     go_simp
     clear c3
     skip
     skip
     skip
     refine hK.out _ _ (hS) (fun hS => ?_)
     clear hK
     (try simp only [Act.put]); (try simp only [zPa]); (try simp only [zPb, zPc])
     refine wpAnyH_ready (rs := [7]) (by kernel_rfl) (by simp) ?_
     refine (AllReadyH.cons rfl (fun K hK => ?_) AllReadyH.nil)
     ·rw [if_pos (by kernel_rfl)]
      (try simp only [zGa]); (try simp only [zGb]); (try simp only [zGc])
      refine wp_build_sf 40 (.tmp 39) f (.slice Ad f.data.length cd) rfl (by first | with_reducible rfl | (go_simp; done) | rfl) rfl ?_
      intro g1 W' hb k1' l1'
      have hgn : g1 ∉ bd := fun e => by have h1 := repInts.ex hd g1 e; omega
      have hu1 := half_one k1' (f := f) ⟨_, rfl, Rep.call hd hb⟩ hgn
      have hB := hB.call hb
      have hU := hU.call hb
      have hd := Rep.call hd hb
      refine hK.out _ _ (⟨hS.1.call hb, hS.2.call hb⟩) (fun hS => ?_)
      clear hK
      (try simp only [Act.put]); (try simp only [zPa]); (try simp only [zPb, zPc])
      refine wpAnyH_ready (rs := [8]) (by kernel_rfl) (by simp) ?_
      refine (AllReadyH.cons rfl (fun K hK => ?_) AllReadyH.nil)
      ·rw [if_pos (by kernel_rfl)]
       (try simp only [zGa]); (try simp only [zGb]); (try simp only [zGc])
       have hlo5 : ∀ q, u5.ownBlock = some q → b5 + 1 ≤ q := hU.lo
       refine wp_append_half (.tmp 34) (.tmp 40) rfl (b5 + 1) g1 u5 _ (hidK s.w s.h s.fs k) [f] bu bd (by first | with_reducible rfl | (go_simp; done) | rfl) hU (by first | with_reducible rfl | (go_simp; done) | rfl) hu1 (fun b hb e => by have h1 := HB5.out.1 b (Hbd.out b hb); have h2 := HB5.out.2.1; have h3 := hlo5 b (by simpa using e); omega) (by have := HMl.out; simp; omega) (by have h1 := hB.lt; omega) ?_
       intro v9 bs9 W' hU9 hgr hsub hblk hsh
       obtain ⟨A9, c9, rfl⟩ := hsh
       have hC9 := hS.2.kept (fun q hq hl => hgr.block q hl fun e => by have h1 := hlo5 _ e.symm; have h2 := hgs; omega)
       have hB := hB.grown hgr (fun e => by have := hlo5 _ e.symm; omega)
       have hU := hU9
       skip
       skip
       refine hK.out _ _ (⟨hS.1.grown HB5.out (fun g hg => by have := hlo5 g hg; omega) hgr, hC9⟩) (fun hS => ?_)
       clear hK
       (try simp only [Act.put]); (try simp only [zPa]); (try simp only [zPb, zPc])
       refine tkH (i := 9) (v := .pointer (some ⟨b5, 3, none⟩)) rfl ?_
       (try simp only [Act.put]); (try simp only [zPa]); (try simp only [zPb, zPc])
       refine wpAnyH_ready (rs := [10]) (by kernel_rfl) (by simp) ?_
       refine (AllReadyH.cons rfl (fun K hK => ?_) AllReadyH.nil)
       ·rw [if_pos (by kernel_rfl)]
        (try simp only [zGa]); (try simp only [zGb]); (try simp only [zGc])
        have cS := hB.cell 3 rfl
        have fS := hB.frozen 3
        go_simp
        clear cS fS
        have hB := hB.put 3 (.slice A9 ((hidK s.w s.h s.fs k).length + [f].length) c9) rfl
        have hU := HalfU.chg hU (Chg.of_grown (grown_set1 _ b5 3 (.slice A9 ((hidK s.w s.h s.fs k).length + [f].length) c9))) (fun q hq e => by have h1 := hU.lo q hq; have h2 : q = b5 := (by simpa using e); omega) (fun b hb e => by have h1 := (hsub b hb).elim (fun h => HB5.out.1 b (Hbu.out b h)) (fun h => HB5.out.1 b (Hbd.out b h)); have h2 : b = b5 := (by simpa using e); have h3 := HB5.out.2.1; omega)
        skip
        skip
        refine hK.out _ _ (⟨hS.1.grown HB5.out (fun g hg => by have := Option.some.inj hg; omega) (grown_set1 _ b5 3 _), hS.2.kept (fun q hq hl => (grown_set1 _ b5 3 _).block q hl fun e => by have h1 := Option.some.inj e; have h2 := hgs; omega)⟩) (fun hS => ?_)
        clear hK
        (try simp only [Act.put]); (try simp only [zPa]); (try simp only [zPb, zPc])
        refine wpAnyH_done (by kernel_rfl) ?_ _
        have HT2 := Lib.hid hS.1
        have HB2 := Lib.hid hB
        have HU2 : Hid (HalfU (b5 + 1) _ (hidK s.w s.h s.fs (k + 1)) (.slice A9 ((hidK s.w s.h s.fs k).length + [f].length) c9) bs9 ∧ (∀ b ∈ bs9, b ∈ bs)) := Lib.hid ⟨by rw [Hnx2.out]; exact hU, fun b hb => (hsub b hb).elim (fun h => Hbu.out b h) (fun h => Hbd.out b h)⟩
        clear hU hB
        go_wp2_with fail
        go_roundg (N - (k + 1))
        case measure => omega
        case rel => exact ⟨k + 1, _, _, _, rfl, by omega, rfl, by go_num, HT2, HB2, HU2⟩
    ·rw [if_pos (by kernel_rfl)]
     (try simp only [zGa]); (try simp only [zGb]); (try simp only [zGc])
     refine wp_build_sf 40 (.tmp 39) f (.slice Ad f.data.length cd) rfl (by first | with_reducible rfl | (go_simp; done) | rfl) rfl ?_
     intro g1 W' hb k1' l1'
     have hgn : g1 ∉ bd := fun e => by have h1 := repInts.ex hd g1 e; omega
     have hu1 := half_one k1' (f := f) ⟨_, rfl, Rep.call hd hb⟩ hgn
     have hB := hB.call hb
     have hU := hU.call hb
     have hd := Rep.call hd hb
     refine hK.out _ _ (⟨hS.1.call hb, hS.2.call hb⟩) (fun hS => ?_)
     clear hK
     (try simp only [Act.put]); (try simp only [zPa]); (try simp only [zPb, zPc])
     refine wpAnyH_ready (rs := [1]) (by kernel_rfl) (by simp) ?_
     refine (AllReadyH.cons rfl (fun K hK => ?_) AllReadyH.nil)
     ·rw [if_pos (by kernel_rfl)]
      (try simp only [zGa]); (try simp only [zGb]); (try simp only [zGc])
      have c3 := hB.cell 3 rfl
      go_simp
      clear c3
      skip
      skip
      skip
      skip
      refine hK.out _ _ (hS) (fun hS => ?_)
      clear hK
      (try simp only [Act.put]); (try simp only [zPa]); (try simp only [zPb, zPc])
      refine wpAnyH_ready (rs := [8]) (by kernel_rfl) (by simp) ?_
      refine (AllReadyH.cons rfl (fun K hK => ?_) AllReadyH.nil)
      ·rw [if_pos (by kernel_rfl)]
       (try simp only [zGa]); (try simp only [zGb]); (try simp only [zGc])
       have hlo5 : ∀ q, u5.ownBlock = some q → b5 + 1 ≤ q := hU.lo
       refine wp_append_half (.tmp 34) (.tmp 40) rfl (b5 + 1) g1 u5 _ (hidK s.w s.h s.fs k) [f] bu bd (by first | with_reducible rfl | (go_simp; done) | rfl) hU (by first | with_reducible rfl | (go_simp; done) | rfl) hu1 (fun b hb e => by have h1 := HB5.out.1 b (Hbd.out b hb); have h2 := HB5.out.2.1; have h3 := hlo5 b (by simpa using e); omega) (by have := HMl.out; simp; omega) (by have h1 := hB.lt; omega) ?_
       intro v9 bs9 W' hU9 hgr hsub hblk hsh
       obtain ⟨A9, c9, rfl⟩ := hsh
       have hC9 := hS.2.kept (fun q hq hl => hgr.block q hl fun e => by have h1 := hlo5 _ e.symm; have h2 := hgs; omega)
       have hB := hB.grown hgr (fun e => by have := hlo5 _ e.symm; omega)
       have hU := hU9
       skip
       skip
       refine hK.out _ _ (⟨hS.1.grown HB5.out (fun g hg => by have := hlo5 g hg; omega) hgr, hC9⟩) (fun hS => ?_)
       clear hK
       (try simp only [Act.put]); (try simp only [zPa]); (try simp only [zPb, zPc])
       refine tkH (i := 9) (v := .pointer (some ⟨b5, 3, none⟩)) rfl ?_
       (try simp only [Act.put]); (try simp only [zPa]); (try simp only [zPb, zPc])
       refine wpAnyH_ready (rs := [10]) (by kernel_rfl) (by simp) ?_
       refine (AllReadyH.cons rfl (fun K hK => ?_) AllReadyH.nil)
       ·rw [if_pos (by kernel_rfl)]
        (try simp only [zGa]); (try simp only [zGb]); (try simp only [zGc])
        have cS := hB.cell 3 rfl
        have fS := hB.frozen 3
        go_simp
        clear cS fS
        have hB := hB.put 3 (.slice A9 ((hidK s.w s.h s.fs k).length + [f].length) c9) rfl
        have hU := HalfU.chg hU (Chg.of_grown (grown_set1 _ b5 3 (.slice A9 ((hidK s.w s.h s.fs k).length + [f].length) c9))) (fun q hq e => by have h1 := hU.lo q hq; have h2 : q = b5 := (by simpa using e); omega) (fun b hb e => by have h1 := (hsub b hb).elim (fun h => HB5.out.1 b (Hbu.out b h)) (fun h => HB5.out.1 b (Hbd.out b h)); have h2 : b = b5 := (by simpa using e); have h3 := HB5.out.2.1; omega)
        skip
        skip
        refine hK.out _ _ (⟨hS.1.grown HB5.out (fun g hg => by have := Option.some.inj hg; omega) (grown_set1 _ b5 3 _), hS.2.kept (fun q hq hl => (grown_set1 _ b5 3 _).block q hl fun e => by have h1 := Option.some.inj e; have h2 := hgs; omega)⟩) (fun hS => ?_)
        clear hK
        (try simp only [Act.put]); (try simp only [zPa]); (try simp only [zPb, zPc])
        refine wpAnyH_done (by kernel_rfl) ?_ _
        have HT2 := Lib.hid hS.1
        have HB2 := Lib.hid hB
        have HU2 : Hid (HalfU (b5 + 1) _ (hidK s.w s.h s.fs (k + 1)) (.slice A9 ((hidK s.w s.h s.fs k).length + [f].length) c9) bs9 ∧ (∀ b ∈ bs9, b ∈ bs)) := Lib.hid ⟨by rw [Hnx2.out]; exact hU, fun b hb => (hsub b hb).elim (fun h => Hbu.out b h) (fun h => Hbd.out b h)⟩
        clear hU hB
        go_wp2_with fail
        go_roundg (N - (k + 1))
        case measure => omega
        case rel => exact ⟨k + 1, _, _, _, rfl, by omega, rfl, by go_num, HT2, HB2, HU2⟩
   ·have Hneg : Hid (¬ 0 < ak) := Lib.hid hpos
    go_wp2_with fail
    refine HV.out.mono ?_
    rintro e w3 ⟨z, rfl, hz, hb⟩
    obtain ⟨Az, cz, rfl⟩ := own_shape hz
    have hT := HT.out.call hb
    have hB := HBk.out.call hb
    have hU := HU.out.1.call hb
    have hz := RdR.of_own hz
    clear d0 d1 d2 d3 hb
    go_wp2_with fail
    refine (HAR.out _ _ hz).mono ?_
    rintro e w4 ⟨rfl, hb⟩
    have HT2 := Lib.hid (hT.call hb)
    have HB2 := Lib.hid (hB.call hb)
    have HU2 : Hid (HalfU (b5 + 1) w4 (hidK s.w s.h s.fs (k + 1)) u5 bu ∧ (∀ b ∈ bu, b ∈ bs)) := Lib.hid ⟨by rw [Hnx.out, if_neg (show ¬ 0 < ak by have := Hneg.out; omega), List.append_nil]; exact hU.call hb, HU.out.2⟩
    clear hT hB hU hz hb HT HBk HU Hd HC
    go_wp2_with fail
    go_roundg (N - (k + 1))
    case measure => omega
    case rel => exact ⟨k + 1, _, _, _, rfl, by omega, rfl, by go_num, HT2, HB2, HU2⟩
  ·obtain rfl : k = N := by omega
   have hni : ¬ (k : Int) < (k : Int) := by omega
   have hMe : hidK s.w s.h s.fs k = hidL s.w s.h s.fs := by rw [HN.out]; exact hidK_end _ _ _
   have hU := HU.out.1
   rw [hMe] at hU
   obtain ⟨A5, c5, he5⟩ := hU.form
   obtain ⟨M, hM⟩ : ∃ M, M = hidL s.w s.h s.fs := ⟨_, rfl⟩
   have hsm := hid_same Hs.out
   have hMl := (hidL_sub s.w s.h s.fs).length_le
   rw [← HN.out] at hMl
   rw [← hM] at hU he5 hsm hMl
   subst he5
   have hR5 := hU.r
   obtain ⟨I, hI⟩ : ∃ I, I = pnIm s := ⟨_, rfl⟩
   have HPT := fun W h => paI ⟨s.w, s.h, s.back, M⟩ (.slice A5 M.length c5) ((Value.slice A5 M.length c5).ownBlock.toList ++ bu) W h
   unfold AnsIm ImAns at HPT
   rw [hsm, ← hI] at HPT
   dsimp only at HPT
   have HPT := Lib.hid HPT
   have HPA := fun W h => paS s (.slice A k c) bs W h
   unfold AnsIm ImAns at HPA
   rw [← hI] at HPA
   have HPA := Lib.hid HPA
   have HSM := Lib.hid (fun (u z : Value) (W : World) (h1 : RdI W u I.d) (h2 : RdI W z I.d) => sameIL I.w I.h u I.d I.w I.h z I.d W h1 h2)
   unfold SameMAns at HSM
   have hse : sameM I.w I.h I.d I.w I.h I.d = true := sameM_yes I.w I.h I.d
   rw [hse] at HSM
   obtain ⟨m, hm⟩ : ∃ m, m = M.length := ⟨_, rfl⟩
   have hB := HBk.out
   have hT := HT.out
   rw [← hm] at HPT hB hR5 hMl
   have l1 : (m : Int) ≤ (k : Int) := by omega
   clear hsm hI hse hM hm hU hMe HU HT HBk d0 d1 d2 d3
   obtain ⟨d0, d1, d2, d3⟩ := hT.a.cells
   go_upto_region 10 with fail
   clear d0 d1 d2 d3
   refine wp_region_held_drew (S := fun V => HiS w s (.slice A k c) bs b3 V ∧ BkAt V b5 34 #[.int .i64 s.w, .int .i64 s.h, .int .i64 s.back, .slice A5 m c5] ∧ repSfs.R V M [.slice A5 m c5] ((Value.slice A5 m c5).ownBlock.toList ++ bu)) (by kernel_rfl) ⟨hT.call (belI_drew _), hB.call (belI_drew _), Rep.call hR5 (belI_drew _)⟩ (fun hS => ?_)
   refine tcH (i := 0) (v := .agg #[.int .i64 s.w, .int .i64 s.h, .int .i64 s.back, .slice A5 m c5]) rfl (by intro w' hSw; (try dsimp only at hSw); (have t0 := hSw.2.1.cell 0 rfl); (have t1 := hSw.2.1.cell 1 rfl); (have t2 := hSw.2.1.cell 2 rfl); (have t3 := hSw.2.1.cell 3 rfl); go_simp) ?_
   refine tcH (i := 2) (v := .agg #[.int .i64 s.w, .int .i64 s.h, .int .i64 s.back, .slice A k c]) rfl (by intro w' hSw; (try dsimp only at hSw); (obtain ⟨d0, d1, d2, d3⟩ := hSw.1.a.cells); go_simp) ?_
   (try simp only [Act.put]); (try simp only [zPa]); (try simp only [zPb, zPc])
   refine wpAnyH_ready (rs := [1]) (by kernel_rfl) (by simp) ?_
   refine (AllReadyH.cons rfl (fun K hK => ?_) AllReadyH.nil)
   ·rw [if_pos (by kernel_rfl)]
    (try simp only [zGa]); (try simp only [zGb]); (try simp only [zGc])
    go_simp
    with_reducible refine (HPT.out _ hS.2.2).mono ?_
    rintro e W' ⟨y, rfl, hy, hb⟩
    dsimp only
    obtain ⟨Ay, cy, rfl⟩ := ownI_shape hy
    refine hK.out _ _ (⟨hS.1.call hb, hS.2.1.call hb, Rep.call hS.2.2 hb⟩) (fun hS => ?_)
    clear hK
    (try simp only [Act.put]); (try simp only [zPa]); (try simp only [zPb, zPc])
    refine wpAnyH_ready (rs := [3]) (by kernel_rfl) (by simp) ?_
    refine (AllReadyH.cons rfl (fun K hK => ?_) AllReadyH.nil)
    ·rw [if_pos (by kernel_rfl)]
     (try simp only [zGa]); (try simp only [zGb]); (try simp only [zGc])
     go_simp
     with_reducible refine (HPA.out _ hS.1.a.r).mono ?_
     rintro e W' ⟨z, rfl, hz, hb⟩
     dsimp only
     obtain ⟨Az, cz, rfl⟩ := ownI_shape hz
     have hy := ownI_call hy hb
     refine hK.out _ _ (⟨hS.1.call hb, hS.2.1.call hb, Rep.call hS.2.2 hb⟩) (fun hS => ?_)
     clear hK
     (try simp only [Act.put]); (try simp only [zPa]); (try simp only [zPb, zPc])
     refine wpAnyH_ready (rs := [4]) (by kernel_rfl) (by simp) ?_
     refine (AllReadyH.cons rfl (fun K hK => ?_) AllReadyH.nil)
     ·rw [if_pos (by kernel_rfl)]
      (try simp only [zGa]); (try simp only [zGb]); (try simp only [zGc])
      go_simp
      with_reducible refine (HSM.out _ _ _ (RdI.of_own hy) (RdI.of_own hz)).mono ?_
      rintro e W' ⟨rfl, hb⟩
      dsimp only
      have hy := ownI_call hy hb
      have hz := ownI_call hz hb
      refine hK.out _ _ (⟨hS.1.call hb, hS.2.1.call hb, Rep.call hS.2.2 hb⟩) (fun hS => ?_)
      clear hK
      (try simp only [Act.put]); (try simp only [zPa]); (try simp only [zPb, zPc])
      refine tkH (i := 5) (v := .bool true) rfl ?_
      refine tkH (i := 6) (v := .pointer (some ⟨b5, 3, none⟩)) rfl ?_
      refine tcH (i := 7) (v := .slice A5 m c5) rfl (by intro w' hSw; (try dsimp only at hSw); (have t0 := hSw.2.1.cell 0 rfl); (have t1 := hSw.2.1.cell 1 rfl); (have t2 := hSw.2.1.cell 2 rfl); (have t3 := hSw.2.1.cell 3 rfl); go_simp) ?_
      refine tkH (i := 8) (v := .int .i64 (m : Int)) rfl ?_
      refine tkH (i := 9) (v := .pointer (some ⟨b3, 3, none⟩)) rfl ?_
      refine tcH (i := 10) (v := .slice A k c) rfl (by intro w' hSw; (try dsimp only at hSw); (obtain ⟨d0, d1, d2, d3⟩ := hSw.1.a.cells); go_simp) ?_
      refine tkH (i := 11) (v := .int .i64 (k : Int)) rfl ?_
      refine tkH (i := 12) (v := .bool true) rfl ?_
      refine tkH (i := 13) (v := .bool true) rfl ?_
      refine tkH (i := 14) (v := .bool true) rfl ?_
      go_simp
      refine wpAnyH_done (by kernel_rfl) ?_ _
      have HK9 := Lib.hid hS.1.bw
      go_wp2_with fail
      go_ret
      exact ⟨rfl, HK9.out⟩
end Go.Proofs.YtdgagooldlnpeaaGreat
