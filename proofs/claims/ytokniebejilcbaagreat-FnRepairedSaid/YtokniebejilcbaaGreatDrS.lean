/- What the laws draw: a valid scene. No statement is proved here. -/
import Derived.Test.YtokniebejilcbaaGreatMA
import Derived.Test.YtokniebejilcbaaGreatMB
import Derived.Test.YtokniebejilcbaaGreatMC
import Derived.Test.YtokniebejilcbaaGreatCpyI
import Derived.Test.YtokniebejilcbaaGreatFilB
import Derived.Test.YtokniebejilcbaaGreatDrwI
import Derived.Test.YtokniebejilcbaaGreatDrE
import Derived.Test.YtokniebejilcbaaGreatSnS
import Derived.Test.YtokniebejilcbaaGreatSnD
import Derived.Test.YtokniebejilcbaaGreatEdH
import Derived.Test.YtokniebejilcbaaGreatEdW
import Derived.Test.YtokniebejilcbaaGreatEdQ
import Derived.Test.YtokniebejilcbaaGreatEdS
import Derived.Test.YtokniebejilcbaaGreatProg
import Derived.WalkKit
import Derived.ProofKit
import Derived.OpenShut
import Derived.WalkLawsBesides
import Derived.WalkSpells
import Derived.ShutString
import Derived.ChangeOld
import Derived.Below
import Derived.Lib.Hide
import Derived.BigQuiet
import Derived.Deep.QuietTactic
import Derived.Maps.AppendAt
import Derived.Deep.OwnRows
import Derived.Handy
import Derived.Deep.Draws
import Derived.OwnWalk
import Derived.Deep.AppendLies
import Derived.Deep.LoopGhost
import Derived.Deep.Onto
import Derived.Deep.MidRow
import Derived.Deep.WholeRow
import Derived.Laws.BitsAllLaws
import Derived.Lib.QuoteBits
import Derived.Test.YtokniebejilcbaaGreatShelf
import Derived.Laws.CopyOwn
import Derived.Deep.RegionLaw
import Derived.Deep.RegionHeld3
import Derived.Deep.DeepCutAuto
import Derived.Great.BuildSlice
import Derived.Laws.AppendOwn
import Derived.Deep.CutBlock
import Derived.Shelf.RegionOpenPlain
import Derived.Lib.SliceRun
import Derived.Deep.RegionWith
namespace Go.Proofs.YtokniebejilcbaaGreat
open Go.RowKit
def DrawnSn (w : World) (g : Nat) (e' : Ending) (w' : World) : Prop :=
 ∃ (s : Sn) (v : Value) (bs : List Nat), e' = .returned (.agg #[.int .i64 s.w, .int .i64 s.h, .int .i64 s.back, v]) ∧ snOk s ∧ repSfs.Own w.heap.size w' s.fs [v] bs ∧ Cur w' g ∧ w.grownBy w' (some g)
structure DsT (w : World) (g : Nat) (V : World) : Prop where
 t : BkAt V w.heap.size 34 #[.int .i64 0, .int .i64 0, .int .i64 0, .slice none 0 0]
 gg : g < w.heap.size
 cur : Cur V g
 gr : w.grownBy V (some g)
theorem DsT.turn {w : World} {g : Nat} {V V' : World} (h : DsT w g V) (hg : V.grownBy V' (some g)) (hc : Cur V' g) : DsT w g V' := ⟨h.t.grown hg (fun e => by have := Option.some.inj e; have := h.gg; omega), h.gg, hc, h.gr.trans hg⟩
theorem DsT.call {w : World} {g : Nat} {V V' : World} (h : DsT w g V) (hb : Below V.heap.size V V') : DsT w g V' := ⟨h.t.call hb, h.gg, h.cur.below hb h.cur.lt, grown_below h.gr hb⟩
theorem DsT.set {w : World} {g b : Nat} {V V' : World} (h : DsT w g V) (hg : V.grownBy V' (some b)) (hb : w.heap.size + 1 ≤ b) : DsT w g V' :=
 ⟨h.t.grown hg (fun e => by have := Option.some.inj e; omega), h.gg, h.cur.grown hg (fun k e => by have := Option.some.inj e; have := h.gg; omega), h.gr.andThen hg (fun j e => by have := Option.some.inj e; exact .inl (by omega))⟩
structure DsV (w : World) (g b : Nat) (s : Sn) (v : Value) (bs : List Nat) (V : World) : Prop where
 bx : BkAt V b 34 #[.int .i64 s.w, .int .i64 s.h, .int .i64 s.back, v]
 own : repSfs.Own (w.heap.size + 1) V s.fs [v] bs
 nb : b ∉ bs
 bb : w.heap.size + 1 ≤ b
 gg : g < w.heap.size
 ok : snOk s
theorem DsV.turn {w : World} {g b : Nat} {s : Sn} {v : Value} {bs : List Nat} {V V' : World} (h : DsV w g b s v bs V) (hg : V.grownBy V' (some g)) : DsV w g b s v bs V' :=
 ⟨h.bx.grown hg (fun e => by have := Option.some.inj e; have := h.bb; have := h.gg; omega), h.own.chg (Chg.of_grown hg) (fun q hq e => by have h1 := h.own.lo q hq; have h2 : q = g := (by simpa using e); have := h.gg; omega), h.nb, h.bb, h.gg, h.ok⟩
theorem or_top {x : Int} (h : pixOk x) : opq (bits .or .i64 x 4278190080) := by
 obtain ⟨h0, h1⟩ := h
 obtain ⟨n, rfl⟩ := Int.eq_ofNat_of_zero_le h0
 have hn : n < 2 ^ 32 := by omega
 have hor : n ||| 4278190080 = 4278190080 + n % 16777216 := by
  rw [← nat_join 24 4278190080 (n % 16777216) (by decide) (Nat.mod_lt _ (by decide))]
  apply Nat.eq_of_testBit_eq
  intro i
  rw [Nat.testBit_or, Nat.testBit_or, show (16777216 : Nat) = 2 ^ 24 from rfl, Nat.testBit_mod_two_pow, show (4278190080 : Nat) = 255 <<< 24 from rfl, Nat.testBit_shiftLeft]
  by_cases hi : i < 24
  ·simp [hi, show ¬ 24 ≤ i by omega]
  ·by_cases hj : i < 32
   ·have h255 : Nat.testBit 255 (i - 24) = true := by
     rw [show (255 : Nat) = 2 ^ 8 - 1 from rfl, Nat.testBit_two_pow_sub_one]; simp; omega
    simp [h255, show 24 ≤ i by omega]
   ·have hb : n.testBit i = false := Nat.testBit_lt_two_pow (Nat.lt_of_lt_of_le hn (Nat.pow_le_pow_right (by decide) (by omega)))
    simp [hb]
 have he : bits .or .i64 (n : Int) 4278190080 = ((n ||| 4278190080 : Nat) : Int) := by
  show IntKind.i64.wrap ((BitVec.ofInt 64 (n : Int) ||| BitVec.ofInt 64 ((4278190080 : Nat) : Int)).toNat : Int) = _
  rw [BitVec.toNat_or, ofInt_u64 n (by omega), ofInt_u64 4278190080 (by omega)]
  exact Go.Lib.wrap_i64_small _ (by rw [hor]; omega)
 rw [he, hor]
 unfold opq pixOk
 omega
theorem sn_first {x y b : Int} (hx : 4 ≤ x ∧ x ≤ 10) (hy : 3 ≤ y ∧ y ≤ 8) (hb : opq b) : snOk ⟨x, y, b, []⟩ := ⟨by unfold szOk; dsimp only; omega, hb, by simp, fun k f h => by simp at h⟩
set_option maxHeartbeats 8000000 in
set_option maxRecDepth 100000 in
theorem l10Scene_any (w : World) (g : Nat) (hc : Cur w g) : Calls Tryz.prog 61 #[.pointer (some ⟨g, 0, none⟩)] w (DrawnSn w g) := by
 have hgl := hc.lt
 have hT : DsT w g (w.alloc (.cells #[.int .i64 0, .int .i64 0, .int .i64 0, .slice none 0 0] 34)) := ⟨BkAt.new _ _ _, hgl, hc.alloc _, px_grown_alloc w _ (some g)⟩
 clear hc
 go_enter Tryz.func61, Tryz.ntmps61
 go_wp2_with fail
 refine (below_any _ g 7 (by omega) hT.cur).mono ?_
 rintro e' w1 ⟨x, rfl, x0, x1, x2, hcq, hgq⟩
 replace hT := hT.turn hgq hcq
 have x1 := x1 (by omega)
 clear hcq hgq x2
 go_wp2_with fail
 refine (below_any _ g 6 (by omega) hT.cur).mono ?_
 rintro e' w2 ⟨y, rfl, y0, y1, y2, hcq, hgq⟩
 replace hT := hT.turn hgq hcq
 have y1 := y1 (by omega)
 clear hcq hgq y2
 go_wp2_with fail
 refine (l04Draw_any _ g hT.cur).mono ?_
 rintro e' w3 ⟨p, rfl, hp, hcq, hgq⟩
 replace hT := hT.turn hgq hcq
 have hop := or_top hp
 obtain ⟨bk, hbk⟩ : ∃ q, bits .or .i64 p 4278190080 = q := ⟨_, rfl⟩
 rw [hbk] at hop
 have hok := Lib.hid (sn_first (x := 4 + x) (y := 3 + y) ⟨by omega, by omega⟩ ⟨by omega, by omega⟩ hop)
 obtain ⟨b, hb⟩ : ∃ b, b = w3.heap.size := ⟨_, rfl⟩
 have hlt := hT.t.lt
 have hbx := belI_box w3 (.cells #[.int .i64 (4 + x), .int .i64 (3 + y), .int .i64 bk, .slice none 0 0] 34)
 have hB := BkAt.newAt (w := w3) hb.symm 34 #[.int .i64 (4 + x), .int .i64 (3 + y), .int .i64 bk, .slice none 0 0]
 obtain ⟨V0, hV0⟩ : ∃ V, V = w3.alloc (.cells #[.int .i64 (4 + x), .int .i64 (3 + y), .int .i64 bk, .slice none 0 0] 34) := ⟨_, rfl⟩
 rw [← hV0] at hbx hB
 have HT := Lib.hid (hT.call hbx)
 have HD := Lib.hid (show DsV w g b ⟨4 + x, 3 + y, bk, []⟩ (.slice none 0 0) [] V0 from ⟨hB, ⟨⟨_, [], [], rfl, trivial, by simp, World.ownsRow_nil _ _ _ _, rfl⟩, List.nodup_nil, by simp⟩, by simp, by omega, hgl, hok.out⟩)
 have HV := Lib.hid hV0
 have Hb := Lib.hid hb
 clear hcq hgq hp hop hok hlt hbx hB hV0 hb hT
 go_wp2_with fail
 rw [← HV.out]
 refine (below_any _ g 4 (by omega) HT.out.cur).mono ?_
 rintro e' w4 ⟨k0, rfl, z0, z1, _, hcq, hgq⟩
 have z1 := z1 (by omega)
 obtain ⟨k0, rfl⟩ := Int.eq_ofNat_of_zero_le z0
 have HT1 := Lib.hid (HT.out.turn hgq hcq)
 have HD1 := Lib.hid (HD.out.turn hgq)
 clear hcq hgq HT HD hbk x0 x1 y0 y1
 go_wp2_with fail
 rw [← Hb.out]
 go_loopg [4] k0 (fun gk sk wr => ∃ (k : Nat) (V : World) (s : Sn) (v : Value) (bs : List Nat), V = wr ∧ k ≤ 3 ∧ k = gk ∧ sk = .int .i64 k ∧ Hid (DsT w g V) ∧ Hid (DsV w g b s v bs V))
 case atStart => exact ⟨k0, _, _, _, _, rfl, by omega, rfl, rfl, HT1, HD1⟩
 case round =>
  clear HT1 HD1
  obtain ⟨k, V, s, v, bs, hV, hk, rfl, rfl, HT, HD⟩ := hrel
  subst hV
  by_cases hk0 : 0 < k
  ·have hki : (k : Int) > 0 := by omega
   have hki2 : (0 : Int) < (k : Int) := by omega
   obtain ⟨Av, cv, hv⟩ := (repSfs_form HD.out.own.r).1
   subst hv
   have hsz := (sn_siz HD.out.ok).1
   have Hsz := Lib.hid (show sizFs s.fs ≤ 1048576 by have := sn_small HD.out.ok; unfold sizFs; omega)
   clear hsz
   go_upto_region 5 with fail
   refine wp_region_held_drew (S := fun V => DsT w g V) (by kernel_rfl) (HT.out.call (belI_drew _)) (fun hS => ?_)
   have hV := HD.out.turn (grown_below (World.grownBy.refl _ _) (belI_drew _))
   refine tkH (i := 1) (v := .int .i64 (k : Int)) rfl ?_
   refine tkH (i := 2) (v := .pointer (some ⟨g, 0, none⟩)) rfl ?_
   refine tkH (i := 5) (v := .pointer (some ⟨g, 0, none⟩)) rfl ?_
   refine tkH (i := 8) (v := .pointer (some ⟨g, 0, none⟩)) rfl ?_
   (try simp only [Act.put]); (try simp only [zPa]); (try simp only [zPb, zPc])
   refine wpAnyH_ready (rs := [0, 3]) (by kernel_rfl) (by simp) ?_
   refine (AllReadyH.cons rfl (fun K hK => ?_) (AllReadyH.cons rfl (fun K hK => ?_) AllReadyH.nil))
   ·rw [if_pos (by kernel_rfl)]
    (try simp only [zGa]); (try simp only [zGb]); (try simp only [zGc])
    refine wp_load_bk 34 (.tmp 3) rfl b 34 #[.int .i64 s.w, .int .i64 s.h, .int .i64 s.back, .slice Av s.fs.length cv] _ Tryz.underlying34 (by kernel_rfl) (by first | with_reducible rfl | (go_simp; done) | rfl) hV.bx ?_
    skip
    refine hK.out _ _ (hS) (fun hS => ?_)
    clear hK
    (try simp only [Act.put]); (try simp only [zPa]); (try simp only [zPb, zPc])
    refine wpAnyH_ready (rs := [3]) (by kernel_rfl) (by simp) ?_
    refine (AllReadyH.cons rfl (fun K hK => ?_) AllReadyH.nil)
    ·rw [if_pos (by kernel_rfl)]
     (try simp only [zGa]); (try simp only [zGb]); (try simp only [zGc])
     go_simp
     with_reducible refine (below_any _ g 9 (by omega) hS.cur).mono ?_
     rintro e' W' ⟨y3, rfl, y30, y31, _, hcq, hg⟩
     have y31 := y31 (by omega)
     have qy3 := wrap_in (y3 - 2) (by omega) (by omega)
     dsimp only
     have hV := hV.turn hg
     refine hK.out _ _ (hS.turn hg hcq) (fun hS => ?_)
     clear hK
     (try simp only [Act.put]); (try simp only [zPa]); (try simp only [zPb, zPc])
     refine tkH (i := 4) (v := .int .i64 (y3 - 2)) rfl ?_
     (try simp only [Act.put]); (try simp only [zPa]); (try simp only [zPb, zPc])
     refine wpAnyH_ready (rs := [6]) (by kernel_rfl) (by simp) ?_
     refine (AllReadyH.cons rfl (fun K hK => ?_) AllReadyH.nil)
     ·rw [if_pos (by kernel_rfl)]
      (try simp only [zGa]); (try simp only [zGb]); (try simp only [zGc])
      go_simp
      with_reducible refine (below_any _ g 7 (by omega) hS.cur).mono ?_
      rintro e' W' ⟨y6, rfl, y60, y61, _, hcq, hg⟩
      have y61 := y61 (by omega)
      have qy6 := wrap_in (y6 - 2) (by omega) (by omega)
      dsimp only
      have hV := hV.turn hg
      refine hK.out _ _ (hS.turn hg hcq) (fun hS => ?_)
      clear hK
      (try simp only [Act.put]); (try simp only [zPa]); (try simp only [zPb, zPc])
      refine tkH (i := 7) (v := .int .i64 (y6 - 2)) rfl ?_
      (try simp only [Act.put]); (try simp only [zPa]); (try simp only [zPb, zPc])
      refine wpAnyH_ready (rs := [9]) (by kernel_rfl) (by simp) ?_
      refine (AllReadyH.cons rfl (fun K hK => ?_) AllReadyH.nil)
      ·rw [if_pos (by kernel_rfl)]
       (try simp only [zGa]); (try simp only [zGb]); (try simp only [zGc])
       go_simp
       with_reducible refine (l05Image_any _ g 6 (by omega) (by omega) hS.cur).mono ?_
       rintro e' W' ⟨X, Y, L, u, rfl, hok, _, _, hown, hcq, hg⟩
       obtain ⟨Au, cu, hu⟩ := ownI_shape hown
       subst hu
       have hL : L.length ≤ 256 := by have h1 := sz_mul hok.1; have h2 := hok.2.1; omega
       dsimp only
       have hV := hV.turn hg
       refine hK.out _ _ (hS.turn hg hcq) (fun hS => ?_)
       clear hK
       (try simp only [Act.put]); (try simp only [zPa]); (try simp only [zPb, zPc])
       refine tkH (i := 10) (v := .agg #[.int .i64 0, .int .i64 (k : Int), .int .i64 (y3 - 2), .int .i64 (y6 - 2), .int .i64 X, .int .i64 Y, .slice Au L.length cu]) rfl ?_
       (try simp only [Act.put]); (try simp only [zPa]); (try simp only [zPb, zPc])
       refine wpAnyH_ready (rs := [11]) (by kernel_rfl) (by simp) ?_
       refine (AllReadyH.cons rfl (fun K hK => ?_) AllReadyH.nil)
       ·rw [if_pos (by kernel_rfl)]
        (try simp only [zGa]); (try simp only [zGb]); (try simp only [zGc])
        go_simp
        with_reducible refine (doeS s ⟨0, (k : Int), y3 - 2, y6 - 2, X, Y, L⟩ (.slice Av s.fs.length cv) _ bs _ _ Hsz.out (Nat.le_trans hL (by omega)) hV.own.r (edNew_rep hown)).mono ?_
        rintro e' W' ⟨u2, bs2, rfl, hO2, hb⟩
        have hlo2 := hO2.lo
        obtain ⟨T, hTT⟩ : ∃ T, T = doE s ⟨0, (k : Int), y3 - 2, y6 - 2, X, Y, L⟩ := ⟨_, rfl⟩
        have hokT : snOk T.1 := by rw [hTT]; exact doE_ok _ hV.ok
        rw [← hTT] at hO2
        try rw [← hTT]
        clear hTT
        obtain ⟨A2, c2, hu2⟩ := (repSfs_form hO2.r).1
        subst hu2
        have hg : World.grownBy _ W' (some g) := grown_below (World.grownBy.refl _ _) hb
        have hsb := hV.bx.lt
        have hcur2 := hS.cur.below hb hS.cur.lt
        dsimp only
        have hV := hV.turn hg
        refine hK.out _ _ (hS.call hb) (fun hS => ?_)
        clear hK
        (try simp only [Act.put]); (try simp only [zPa]); (try simp only [zPb, zPc])
        refine tkH (i := 12) (v := .tuple #[.agg #[.int .i64 T.1.w, .int .i64 T.1.h, .int .i64 T.1.back, .slice A2 T.1.fs.length c2], .bool T.2]) rfl ?_
        refine tkH (i := 13) (v := .agg #[.int .i64 T.1.w, .int .i64 T.1.h, .int .i64 T.1.back, .slice A2 T.1.fs.length c2]) rfl ?_
        refine tkH (i := 14) (v := .bool T.2) rfl ?_
        (try simp only [Act.put]); (try simp only [zPa]); (try simp only [zPb, zPc])
        refine wpAnyH_ready (rs := [15]) (by kernel_rfl) (by simp) ?_
        refine (AllReadyH.cons rfl (fun K hK => ?_) AllReadyH.nil)
        ·rw [if_pos (by kernel_rfl)]
         (try simp only [zGa]); (try simp only [zGb]); (try simp only [zGc])
         refine wp_store_bk 34 (.tmp 3) (.tmp 35) rfl b 34 #[.int .i64 s.w, .int .i64 s.h, .int .i64 s.back, .slice Av s.fs.length cv] #[.int .i64 T.1.w, .int .i64 T.1.h, .int .i64 T.1.back, .slice A2 T.1.fs.length c2] (by kernel_rfl) rfl (by simp [Value.oneCell']) rfl (by first | with_reducible rfl | (go_simp; done) | rfl) hV.bx ?_
         intro W3 IB hgB
         skip
         refine hK.out _ _ (hS.set hgB hV.bb) (fun hS => ?_)
         clear hK
         (try simp only [Act.put]); (try simp only [zPa]); (try simp only [zPb, zPc])
         refine wpAnyH_done (by kernel_rfl) ?_ _
         go_wp2_with fail
         go_roundg (k - 1)
         case measure => omega
         case rel =>
          exact ⟨k - 1, _, T.1, _, bs2, rfl, by omega, rfl, by (have h1 : ((k - 1 : Nat) : Int) = (k : Int) - 1 := by omega); simp [h1], Lib.hid hS, Lib.hid ⟨IB, (hO2.mono (by have h1 := hV.bb; omega)).chg (Chg.of_grown hgB) (fun q hq e => by have h1 := hlo2 q hq; have h2 : q = b := (by simpa using e); omega), fun e => by have h1 := hlo2 b e; omega, hV.bb, hV.gg, hokT⟩⟩
   ·rw [if_pos (by kernel_rfl)]
    (try simp only [zGa]); (try simp only [zGb]); (try simp only [zGc])
    go_simp
    with_reducible refine (below_any _ g 9 (by omega) hS.cur).mono ?_
    rintro e' W' ⟨y3, rfl, y30, y31, _, hcq, hg⟩
    have y31 := y31 (by omega)
    have qy3 := wrap_in (y3 - 2) (by omega) (by omega)
    dsimp only
    have hV := hV.turn hg
    refine hK.out _ _ (hS.turn hg hcq) (fun hS => ?_)
    clear hK
    (try simp only [Act.put]); (try simp only [zPa]); (try simp only [zPb, zPc])
    refine tkH (i := 4) (v := .int .i64 (y3 - 2)) rfl ?_
    (try simp only [Act.put]); (try simp only [zPa]); (try simp only [zPb, zPc])
    refine wpAnyH_ready (rs := [0, 6]) (by kernel_rfl) (by simp) ?_
    refine (AllReadyH.cons rfl (fun K hK => ?_) (AllReadyH.cons rfl (fun K hK => ?_) AllReadyH.nil))
    ·rw [if_pos (by kernel_rfl)]
     (try simp only [zGa]); (try simp only [zGb]); (try simp only [zGc])
     refine wp_load_bk 34 (.tmp 3) rfl b 34 #[.int .i64 s.w, .int .i64 s.h, .int .i64 s.back, .slice Av s.fs.length cv] _ Tryz.underlying34 (by kernel_rfl) (by first | with_reducible rfl | (go_simp; done) | rfl) hV.bx ?_
     skip
     refine hK.out _ _ (hS) (fun hS => ?_)
     clear hK
     (try simp only [Act.put]); (try simp only [zPa]); (try simp only [zPb, zPc])
     refine wpAnyH_ready (rs := [6]) (by kernel_rfl) (by simp) ?_
     refine (AllReadyH.cons rfl (fun K hK => ?_) AllReadyH.nil)
     ·rw [if_pos (by kernel_rfl)]
      (try simp only [zGa]); (try simp only [zGb]); (try simp only [zGc])
      go_simp
      with_reducible refine (below_any _ g 7 (by omega) hS.cur).mono ?_
      rintro e' W' ⟨y6, rfl, y60, y61, _, hcq, hg⟩
      have y61 := y61 (by omega)
      have qy6 := wrap_in (y6 - 2) (by omega) (by omega)
      dsimp only
      have hV := hV.turn hg
      refine hK.out _ _ (hS.turn hg hcq) (fun hS => ?_)
      clear hK
      (try simp only [Act.put]); (try simp only [zPa]); (try simp only [zPb, zPc])
      refine tkH (i := 7) (v := .int .i64 (y6 - 2)) rfl ?_
      (try simp only [Act.put]); (try simp only [zPa]); (try simp only [zPb, zPc])
      refine wpAnyH_ready (rs := [9]) (by kernel_rfl) (by simp) ?_
      refine (AllReadyH.cons rfl (fun K hK => ?_) AllReadyH.nil)
      ·rw [if_pos (by kernel_rfl)]
       (try simp only [zGa]); (try simp only [zGb]); (try simp only [zGc])
       go_simp
       with_reducible refine (l05Image_any _ g 6 (by omega) (by omega) hS.cur).mono ?_
       rintro e' W' ⟨X, Y, L, u, rfl, hok, _, _, hown, hcq, hg⟩
       obtain ⟨Au, cu, hu⟩ := ownI_shape hown
       subst hu
       have hL : L.length ≤ 256 := by have h1 := sz_mul hok.1; have h2 := hok.2.1; omega
       dsimp only
       have hV := hV.turn hg
       refine hK.out _ _ (hS.turn hg hcq) (fun hS => ?_)
       clear hK
       (try simp only [Act.put]); (try simp only [zPa]); (try simp only [zPb, zPc])
       refine tkH (i := 10) (v := .agg #[.int .i64 0, .int .i64 (k : Int), .int .i64 (y3 - 2), .int .i64 (y6 - 2), .int .i64 X, .int .i64 Y, .slice Au L.length cu]) rfl ?_
       (try simp only [Act.put]); (try simp only [zPa]); (try simp only [zPb, zPc])
       refine wpAnyH_ready (rs := [11]) (by kernel_rfl) (by simp) ?_
       refine (AllReadyH.cons rfl (fun K hK => ?_) AllReadyH.nil)
       ·rw [if_pos (by kernel_rfl)]
        (try simp only [zGa]); (try simp only [zGb]); (try simp only [zGc])
        go_simp
        with_reducible refine (doeS s ⟨0, (k : Int), y3 - 2, y6 - 2, X, Y, L⟩ (.slice Av s.fs.length cv) _ bs _ _ Hsz.out (Nat.le_trans hL (by omega)) hV.own.r (edNew_rep hown)).mono ?_
        rintro e' W' ⟨u2, bs2, rfl, hO2, hb⟩
        have hlo2 := hO2.lo
        obtain ⟨T, hTT⟩ : ∃ T, T = doE s ⟨0, (k : Int), y3 - 2, y6 - 2, X, Y, L⟩ := ⟨_, rfl⟩
        have hokT : snOk T.1 := by rw [hTT]; exact doE_ok _ hV.ok
        rw [← hTT] at hO2
        try rw [← hTT]
        clear hTT
        obtain ⟨A2, c2, hu2⟩ := (repSfs_form hO2.r).1
        subst hu2
        have hg : World.grownBy _ W' (some g) := grown_below (World.grownBy.refl _ _) hb
        have hsb := hV.bx.lt
        have hcur2 := hS.cur.below hb hS.cur.lt
        dsimp only
        have hV := hV.turn hg
        refine hK.out _ _ (hS.call hb) (fun hS => ?_)
        clear hK
        (try simp only [Act.put]); (try simp only [zPa]); (try simp only [zPb, zPc])
        refine tkH (i := 12) (v := .tuple #[.agg #[.int .i64 T.1.w, .int .i64 T.1.h, .int .i64 T.1.back, .slice A2 T.1.fs.length c2], .bool T.2]) rfl ?_
        refine tkH (i := 13) (v := .agg #[.int .i64 T.1.w, .int .i64 T.1.h, .int .i64 T.1.back, .slice A2 T.1.fs.length c2]) rfl ?_
        refine tkH (i := 14) (v := .bool T.2) rfl ?_
        (try simp only [Act.put]); (try simp only [zPa]); (try simp only [zPb, zPc])
        refine wpAnyH_ready (rs := [15]) (by kernel_rfl) (by simp) ?_
        refine (AllReadyH.cons rfl (fun K hK => ?_) AllReadyH.nil)
        ·rw [if_pos (by kernel_rfl)]
         (try simp only [zGa]); (try simp only [zGb]); (try simp only [zGc])
         refine wp_store_bk 34 (.tmp 3) (.tmp 35) rfl b 34 #[.int .i64 s.w, .int .i64 s.h, .int .i64 s.back, .slice Av s.fs.length cv] #[.int .i64 T.1.w, .int .i64 T.1.h, .int .i64 T.1.back, .slice A2 T.1.fs.length c2] (by kernel_rfl) rfl (by simp [Value.oneCell']) rfl (by first | with_reducible rfl | (go_simp; done) | rfl) hV.bx ?_
         intro W3 IB hgB
         skip
         refine hK.out _ _ (hS.set hgB hV.bb) (fun hS => ?_)
         clear hK
         (try simp only [Act.put]); (try simp only [zPa]); (try simp only [zPb, zPc])
         refine wpAnyH_done (by kernel_rfl) ?_ _
         go_wp2_with fail
         go_roundg (k - 1)
         case measure => omega
         case rel =>
          exact ⟨k - 1, _, T.1, _, bs2, rfl, by omega, rfl, by (have h1 : ((k - 1 : Nat) : Int) = (k : Int) - 1 := by omega); simp [h1], Lib.hid hS, Lib.hid ⟨IB, (hO2.mono (by have h1 := hV.bb; omega)).chg (Chg.of_grown hgB) (fun q hq e => by have h1 := hlo2 q hq; have h2 : q = b := (by simpa using e); omega), fun e => by have h1 := hlo2 b e; omega, hV.bb, hV.gg, hokT⟩⟩
    ·rw [if_pos (by kernel_rfl)]
     (try simp only [zGa]); (try simp only [zGb]); (try simp only [zGc])
     go_simp
     with_reducible refine (below_any _ g 7 (by omega) hS.cur).mono ?_
     rintro e' W' ⟨y6, rfl, y60, y61, _, hcq, hg⟩
     have y61 := y61 (by omega)
     have qy6 := wrap_in (y6 - 2) (by omega) (by omega)
     dsimp only
     have hV := hV.turn hg
     refine hK.out _ _ (hS.turn hg hcq) (fun hS => ?_)
     clear hK
     (try simp only [Act.put]); (try simp only [zPa]); (try simp only [zPb, zPc])
     refine tkH (i := 7) (v := .int .i64 (y6 - 2)) rfl ?_
     (try simp only [Act.put]); (try simp only [zPa]); (try simp only [zPb, zPc])
     refine wpAnyH_ready (rs := [0, 9]) (by kernel_rfl) (by simp) ?_
     refine (AllReadyH.cons rfl (fun K hK => ?_) (AllReadyH.cons rfl (fun K hK => ?_) AllReadyH.nil))
     ·rw [if_pos (by kernel_rfl)]
      (try simp only [zGa]); (try simp only [zGb]); (try simp only [zGc])
      refine wp_load_bk 34 (.tmp 3) rfl b 34 #[.int .i64 s.w, .int .i64 s.h, .int .i64 s.back, .slice Av s.fs.length cv] _ Tryz.underlying34 (by kernel_rfl) (by first | with_reducible rfl | (go_simp; done) | rfl) hV.bx ?_
      skip
      refine hK.out _ _ (hS) (fun hS => ?_)
      clear hK
      (try simp only [Act.put]); (try simp only [zPa]); (try simp only [zPb, zPc])
      refine wpAnyH_ready (rs := [9]) (by kernel_rfl) (by simp) ?_
      refine (AllReadyH.cons rfl (fun K hK => ?_) AllReadyH.nil)
      ·rw [if_pos (by kernel_rfl)]
       (try simp only [zGa]); (try simp only [zGb]); (try simp only [zGc])
       go_simp
       with_reducible refine (l05Image_any _ g 6 (by omega) (by omega) hS.cur).mono ?_
       rintro e' W' ⟨X, Y, L, u, rfl, hok, _, _, hown, hcq, hg⟩
       obtain ⟨Au, cu, hu⟩ := ownI_shape hown
       subst hu
       have hL : L.length ≤ 256 := by have h1 := sz_mul hok.1; have h2 := hok.2.1; omega
       dsimp only
       have hV := hV.turn hg
       refine hK.out _ _ (hS.turn hg hcq) (fun hS => ?_)
       clear hK
       (try simp only [Act.put]); (try simp only [zPa]); (try simp only [zPb, zPc])
       refine tkH (i := 10) (v := .agg #[.int .i64 0, .int .i64 (k : Int), .int .i64 (y3 - 2), .int .i64 (y6 - 2), .int .i64 X, .int .i64 Y, .slice Au L.length cu]) rfl ?_
       (try simp only [Act.put]); (try simp only [zPa]); (try simp only [zPb, zPc])
       refine wpAnyH_ready (rs := [11]) (by kernel_rfl) (by simp) ?_
       refine (AllReadyH.cons rfl (fun K hK => ?_) AllReadyH.nil)
       ·rw [if_pos (by kernel_rfl)]
        (try simp only [zGa]); (try simp only [zGb]); (try simp only [zGc])
        go_simp
        with_reducible refine (doeS s ⟨0, (k : Int), y3 - 2, y6 - 2, X, Y, L⟩ (.slice Av s.fs.length cv) _ bs _ _ Hsz.out (Nat.le_trans hL (by omega)) hV.own.r (edNew_rep hown)).mono ?_
        rintro e' W' ⟨u2, bs2, rfl, hO2, hb⟩
        have hlo2 := hO2.lo
        obtain ⟨T, hTT⟩ : ∃ T, T = doE s ⟨0, (k : Int), y3 - 2, y6 - 2, X, Y, L⟩ := ⟨_, rfl⟩
        have hokT : snOk T.1 := by rw [hTT]; exact doE_ok _ hV.ok
        rw [← hTT] at hO2
        try rw [← hTT]
        clear hTT
        obtain ⟨A2, c2, hu2⟩ := (repSfs_form hO2.r).1
        subst hu2
        have hg : World.grownBy _ W' (some g) := grown_below (World.grownBy.refl _ _) hb
        have hsb := hV.bx.lt
        have hcur2 := hS.cur.below hb hS.cur.lt
        dsimp only
        have hV := hV.turn hg
        refine hK.out _ _ (hS.call hb) (fun hS => ?_)
        clear hK
        (try simp only [Act.put]); (try simp only [zPa]); (try simp only [zPb, zPc])
        refine tkH (i := 12) (v := .tuple #[.agg #[.int .i64 T.1.w, .int .i64 T.1.h, .int .i64 T.1.back, .slice A2 T.1.fs.length c2], .bool T.2]) rfl ?_
        refine tkH (i := 13) (v := .agg #[.int .i64 T.1.w, .int .i64 T.1.h, .int .i64 T.1.back, .slice A2 T.1.fs.length c2]) rfl ?_
        refine tkH (i := 14) (v := .bool T.2) rfl ?_
        (try simp only [Act.put]); (try simp only [zPa]); (try simp only [zPb, zPc])
        refine wpAnyH_ready (rs := [15]) (by kernel_rfl) (by simp) ?_
        refine (AllReadyH.cons rfl (fun K hK => ?_) AllReadyH.nil)
        ·rw [if_pos (by kernel_rfl)]
         (try simp only [zGa]); (try simp only [zGb]); (try simp only [zGc])
         refine wp_store_bk 34 (.tmp 3) (.tmp 35) rfl b 34 #[.int .i64 s.w, .int .i64 s.h, .int .i64 s.back, .slice Av s.fs.length cv] #[.int .i64 T.1.w, .int .i64 T.1.h, .int .i64 T.1.back, .slice A2 T.1.fs.length c2] (by kernel_rfl) rfl (by simp [Value.oneCell']) rfl (by first | with_reducible rfl | (go_simp; done) | rfl) hV.bx ?_
         intro W3 IB hgB
         skip
         refine hK.out _ _ (hS.set hgB hV.bb) (fun hS => ?_)
         clear hK
         (try simp only [Act.put]); (try simp only [zPa]); (try simp only [zPb, zPc])
         refine wpAnyH_done (by kernel_rfl) ?_ _
         go_wp2_with fail
         go_roundg (k - 1)
         case measure => omega
         case rel =>
          exact ⟨k - 1, _, T.1, _, bs2, rfl, by omega, rfl, by (have h1 : ((k - 1 : Nat) : Int) = (k : Int) - 1 := by omega); simp [h1], Lib.hid hS, Lib.hid ⟨IB, (hO2.mono (by have h1 := hV.bb; omega)).chg (Chg.of_grown hgB) (fun q hq e => by have h1 := hlo2 q hq; have h2 : q = b := (by simpa using e); omega), fun e => by have h1 := hlo2 b e; omega, hV.bb, hV.gg, hokT⟩⟩
     ·rw [if_pos (by kernel_rfl)]
      (try simp only [zGa]); (try simp only [zGb]); (try simp only [zGc])
      go_simp
      with_reducible refine (l05Image_any _ g 6 (by omega) (by omega) hS.cur).mono ?_
      rintro e' W' ⟨X, Y, L, u, rfl, hok, _, _, hown, hcq, hg⟩
      obtain ⟨Au, cu, hu⟩ := ownI_shape hown
      subst hu
      have hL : L.length ≤ 256 := by have h1 := sz_mul hok.1; have h2 := hok.2.1; omega
      dsimp only
      have hV := hV.turn hg
      refine hK.out _ _ (hS.turn hg hcq) (fun hS => ?_)
      clear hK
      (try simp only [Act.put]); (try simp only [zPa]); (try simp only [zPb, zPc])
      refine tkH (i := 10) (v := .agg #[.int .i64 0, .int .i64 (k : Int), .int .i64 (y3 - 2), .int .i64 (y6 - 2), .int .i64 X, .int .i64 Y, .slice Au L.length cu]) rfl ?_
      (try simp only [Act.put]); (try simp only [zPa]); (try simp only [zPb, zPc])
      refine wpAnyH_ready (rs := [0]) (by kernel_rfl) (by simp) ?_
      refine (AllReadyH.cons rfl (fun K hK => ?_) AllReadyH.nil)
      ·rw [if_pos (by kernel_rfl)]
       (try simp only [zGa]); (try simp only [zGb]); (try simp only [zGc])
       refine wp_load_bk 34 (.tmp 3) rfl b 34 #[.int .i64 s.w, .int .i64 s.h, .int .i64 s.back, .slice Av s.fs.length cv] _ Tryz.underlying34 (by kernel_rfl) (by first | with_reducible rfl | (go_simp; done) | rfl) hV.bx ?_
       skip
       refine hK.out _ _ (hS) (fun hS => ?_)
       clear hK
       (try simp only [Act.put]); (try simp only [zPa]); (try simp only [zPb, zPc])
       refine wpAnyH_ready (rs := [11]) (by kernel_rfl) (by simp) ?_
       refine (AllReadyH.cons rfl (fun K hK => ?_) AllReadyH.nil)
       ·rw [if_pos (by kernel_rfl)]
        (try simp only [zGa]); (try simp only [zGb]); (try simp only [zGc])
        go_simp
        with_reducible refine (doeS s ⟨0, (k : Int), y3 - 2, y6 - 2, X, Y, L⟩ (.slice Av s.fs.length cv) _ bs _ _ Hsz.out (Nat.le_trans hL (by omega)) hV.own.r (edNew_rep hown)).mono ?_
        rintro e' W' ⟨u2, bs2, rfl, hO2, hb⟩
        have hlo2 := hO2.lo
        obtain ⟨T, hTT⟩ : ∃ T, T = doE s ⟨0, (k : Int), y3 - 2, y6 - 2, X, Y, L⟩ := ⟨_, rfl⟩
        have hokT : snOk T.1 := by rw [hTT]; exact doE_ok _ hV.ok
        rw [← hTT] at hO2
        try rw [← hTT]
        clear hTT
        obtain ⟨A2, c2, hu2⟩ := (repSfs_form hO2.r).1
        subst hu2
        have hg : World.grownBy _ W' (some g) := grown_below (World.grownBy.refl _ _) hb
        have hsb := hV.bx.lt
        have hcur2 := hS.cur.below hb hS.cur.lt
        dsimp only
        have hV := hV.turn hg
        refine hK.out _ _ (hS.call hb) (fun hS => ?_)
        clear hK
        (try simp only [Act.put]); (try simp only [zPa]); (try simp only [zPb, zPc])
        refine tkH (i := 12) (v := .tuple #[.agg #[.int .i64 T.1.w, .int .i64 T.1.h, .int .i64 T.1.back, .slice A2 T.1.fs.length c2], .bool T.2]) rfl ?_
        refine tkH (i := 13) (v := .agg #[.int .i64 T.1.w, .int .i64 T.1.h, .int .i64 T.1.back, .slice A2 T.1.fs.length c2]) rfl ?_
        refine tkH (i := 14) (v := .bool T.2) rfl ?_
        (try simp only [Act.put]); (try simp only [zPa]); (try simp only [zPb, zPc])
        refine wpAnyH_ready (rs := [15]) (by kernel_rfl) (by simp) ?_
        refine (AllReadyH.cons rfl (fun K hK => ?_) AllReadyH.nil)
        ·rw [if_pos (by kernel_rfl)]
         (try simp only [zGa]); (try simp only [zGb]); (try simp only [zGc])
         refine wp_store_bk 34 (.tmp 3) (.tmp 35) rfl b 34 #[.int .i64 s.w, .int .i64 s.h, .int .i64 s.back, .slice Av s.fs.length cv] #[.int .i64 T.1.w, .int .i64 T.1.h, .int .i64 T.1.back, .slice A2 T.1.fs.length c2] (by kernel_rfl) rfl (by simp [Value.oneCell']) rfl (by first | with_reducible rfl | (go_simp; done) | rfl) hV.bx ?_
         intro W3 IB hgB
         skip
         refine hK.out _ _ (hS.set hgB hV.bb) (fun hS => ?_)
         clear hK
         (try simp only [Act.put]); (try simp only [zPa]); (try simp only [zPb, zPc])
         refine wpAnyH_done (by kernel_rfl) ?_ _
         go_wp2_with fail
         go_roundg (k - 1)
         case measure => omega
         case rel =>
          exact ⟨k - 1, _, T.1, _, bs2, rfl, by omega, rfl, by (have h1 : ((k - 1 : Nat) : Int) = (k : Int) - 1 := by omega); simp [h1], Lib.hid hS, Lib.hid ⟨IB, (hO2.mono (by have h1 := hV.bb; omega)).chg (Chg.of_grown hgB) (fun q hq e => by have h1 := hlo2 q hq; have h2 : q = b := (by simpa using e); omega), fun e => by have h1 := hlo2 b e; omega, hV.bb, hV.gg, hokT⟩⟩
  ·obtain rfl : k = 0 := by omega
   have hki : ¬ (0 : Int) > 0 := by omega
   go_wp2_with fail
   refine (below_any _ g 4 (by omega) HT.out.cur).mono ?_
   rintro e' w5 ⟨k1, rfl, z0, z1, _, hcq, hgq⟩
   have z1 := z1 (by omega)
   obtain ⟨k1, rfl⟩ := Int.eq_ofNat_of_zero_le z0
   have HT2 := Lib.hid (HT.out.turn hgq hcq)
   have HD2 := Lib.hid (HD.out.turn hgq)
   clear hcq hgq HT HD
   go_wp2_with fail
   go_loopg [5] k1 (fun gk sk wr => ∃ (k : Nat) (V : World) (s : Sn) (v : Value) (bs : List Nat), V = wr ∧ k ≤ 3 ∧ k = gk ∧ sk = .int .i64 k ∧ Hid (DsT w g V) ∧ Hid (DsV w g b s v bs V))
   case atStart => exact ⟨k1, _, _, _, _, rfl, by omega, rfl, rfl, HT2, HD2⟩
   case round =>
    clear HT2 HD2
    obtain ⟨k, V, s, v, bs, hV, hk, rfl, rfl, HT, HD⟩ := hrel
    subst hV
    by_cases hk0 : 0 < k
    ·have hki : (k : Int) > 0 := by omega
     have hki2 : (0 : Int) < (k : Int) := by omega
     obtain ⟨Av, cv, hv⟩ := (repSfs_form HD.out.own.r).1
     subst hv
     have hsz := (sn_siz HD.out.ok).1
     have Hsz := Lib.hid (show sizFs s.fs ≤ 1048576 by have := sn_small HD.out.ok; unfold sizFs; omega)
     clear hsz
     go_upto_region 9 with fail
     refine wp_region_held_drew (S := fun V => DsT w g V) (by kernel_rfl) (HT.out.call (belI_drew _)) (fun hS => ?_)
     have hV := HD.out.turn (grown_below (World.grownBy.refl _ _) (belI_drew _))
     refine tkH (i := 1) (v := .pointer (some ⟨g, 0, none⟩)) rfl ?_
     (try simp only [Act.put]); (try simp only [zPa]); (try simp only [zPb, zPc])
     refine wpAnyH_ready (rs := [0, 2]) (by kernel_rfl) (by simp) ?_
     refine (AllReadyH.cons rfl (fun K hK => ?_) (AllReadyH.cons rfl (fun K hK => ?_) AllReadyH.nil))
     ·rw [if_pos (by kernel_rfl)]
      (try simp only [zGa]); (try simp only [zGb]); (try simp only [zGc])
      refine wp_load_bk 34 (.tmp 3) rfl b 34 #[.int .i64 s.w, .int .i64 s.h, .int .i64 s.back, .slice Av s.fs.length cv] _ Tryz.underlying34 (by kernel_rfl) (by first | with_reducible rfl | (go_simp; done) | rfl) hV.bx ?_
      skip
      refine hK.out _ _ (hS) (fun hS => ?_)
      clear hK
      (try simp only [Act.put]); (try simp only [zPa]); (try simp only [zPb, zPc])
      refine wpAnyH_ready (rs := [2]) (by kernel_rfl) (by simp) ?_
      refine (AllReadyH.cons rfl (fun K hK => ?_) AllReadyH.nil)
      ·rw [if_pos (by kernel_rfl)]
       (try simp only [zGa]); (try simp only [zGb]); (try simp only [zGc])
       go_simp
       with_reducible refine (l10Edit_any _ g hS.cur).mono ?_
       rintro e' W' ⟨x, d, rfl, hL, hown, hcq, hg⟩
       obtain ⟨Au, cu, hu⟩ := ownI_shape hown
       subst hu
       dsimp only
       have hV := hV.turn hg
       refine hK.out _ _ (hS.turn hg hcq) (fun hS => ?_)
       clear hK
       (try simp only [Act.put]); (try simp only [zPa]); (try simp only [zPb, zPc])
       refine wpAnyH_ready (rs := [3]) (by kernel_rfl) (by simp) ?_
       refine (AllReadyH.cons rfl (fun K hK => ?_) AllReadyH.nil)
       ·rw [if_pos (by kernel_rfl)]
        (try simp only [zGa]); (try simp only [zGb]); (try simp only [zGc])
        go_simp
        with_reducible refine (doeS s x (.slice Av s.fs.length cv) _ bs _ _ Hsz.out (Nat.le_trans hL (by omega)) hV.own.r (edNew_rep hown)).mono ?_
        rintro e' W' ⟨u2, bs2, rfl, hO2, hb⟩
        have hlo2 := hO2.lo
        obtain ⟨T, hTT⟩ : ∃ T, T = doE s x := ⟨_, rfl⟩
        have hokT : snOk T.1 := by rw [hTT]; exact doE_ok _ hV.ok
        rw [← hTT] at hO2
        try rw [← hTT]
        clear hTT
        obtain ⟨A2, c2, hu2⟩ := (repSfs_form hO2.r).1
        subst hu2
        have hg : World.grownBy _ W' (some g) := grown_below (World.grownBy.refl _ _) hb
        have hsb := hV.bx.lt
        have hcur2 := hS.cur.below hb hS.cur.lt
        dsimp only
        have hV := hV.turn hg
        refine hK.out _ _ (hS.call hb) (fun hS => ?_)
        clear hK
        (try simp only [Act.put]); (try simp only [zPa]); (try simp only [zPb, zPc])
        refine tkH (i := 4) (v := .tuple #[.agg #[.int .i64 T.1.w, .int .i64 T.1.h, .int .i64 T.1.back, .slice A2 T.1.fs.length c2], .bool T.2]) rfl ?_
        refine tkH (i := 5) (v := .agg #[.int .i64 T.1.w, .int .i64 T.1.h, .int .i64 T.1.back, .slice A2 T.1.fs.length c2]) rfl ?_
        refine tkH (i := 6) (v := .bool T.2) rfl ?_
        (try simp only [Act.put]); (try simp only [zPa]); (try simp only [zPb, zPc])
        refine wpAnyH_ready (rs := [7]) (by kernel_rfl) (by simp) ?_
        refine (AllReadyH.cons rfl (fun K hK => ?_) AllReadyH.nil)
        ·rw [if_pos (by kernel_rfl)]
         (try simp only [zGa]); (try simp only [zGb]); (try simp only [zGc])
         refine wp_store_bk 34 (.tmp 3) (.tmp 48) rfl b 34 #[.int .i64 s.w, .int .i64 s.h, .int .i64 s.back, .slice Av s.fs.length cv] #[.int .i64 T.1.w, .int .i64 T.1.h, .int .i64 T.1.back, .slice A2 T.1.fs.length c2] (by kernel_rfl) rfl (by simp [Value.oneCell']) rfl (by first | with_reducible rfl | (go_simp; done) | rfl) hV.bx ?_
         intro W3 IB hgB
         skip
         refine hK.out _ _ (hS.set hgB hV.bb) (fun hS => ?_)
         clear hK
         (try simp only [Act.put]); (try simp only [zPa]); (try simp only [zPb, zPc])
         refine wpAnyH_done (by kernel_rfl) ?_ _
         go_wp2_with fail
         go_roundg (k - 1)
         case measure => omega
         case rel =>
          exact ⟨k - 1, _, T.1, _, bs2, rfl, by omega, rfl, by (have h1 : ((k - 1 : Nat) : Int) = (k : Int) - 1 := by omega); simp [h1], Lib.hid hS, Lib.hid ⟨IB, (hO2.mono (by have h1 := hV.bb; omega)).chg (Chg.of_grown hgB) (fun q hq e => by have h1 := hlo2 q hq; have h2 : q = b := (by simpa using e); omega), fun e => by have h1 := hlo2 b e; omega, hV.bb, hV.gg, hokT⟩⟩
     ·rw [if_pos (by kernel_rfl)]
      (try simp only [zGa]); (try simp only [zGb]); (try simp only [zGc])
      go_simp
      with_reducible refine (l10Edit_any _ g hS.cur).mono ?_
      rintro e' W' ⟨x, d, rfl, hL, hown, hcq, hg⟩
      obtain ⟨Au, cu, hu⟩ := ownI_shape hown
      subst hu
      dsimp only
      have hV := hV.turn hg
      refine hK.out _ _ (hS.turn hg hcq) (fun hS => ?_)
      clear hK
      (try simp only [Act.put]); (try simp only [zPa]); (try simp only [zPb, zPc])
      refine wpAnyH_ready (rs := [0]) (by kernel_rfl) (by simp) ?_
      refine (AllReadyH.cons rfl (fun K hK => ?_) AllReadyH.nil)
      ·rw [if_pos (by kernel_rfl)]
       (try simp only [zGa]); (try simp only [zGb]); (try simp only [zGc])
       refine wp_load_bk 34 (.tmp 3) rfl b 34 #[.int .i64 s.w, .int .i64 s.h, .int .i64 s.back, .slice Av s.fs.length cv] _ Tryz.underlying34 (by kernel_rfl) (by first | with_reducible rfl | (go_simp; done) | rfl) hV.bx ?_
       skip
       refine hK.out _ _ (hS) (fun hS => ?_)
       clear hK
       (try simp only [Act.put]); (try simp only [zPa]); (try simp only [zPb, zPc])
       refine wpAnyH_ready (rs := [3]) (by kernel_rfl) (by simp) ?_
       refine (AllReadyH.cons rfl (fun K hK => ?_) AllReadyH.nil)
       ·rw [if_pos (by kernel_rfl)]
        (try simp only [zGa]); (try simp only [zGb]); (try simp only [zGc])
        go_simp
        with_reducible refine (doeS s x (.slice Av s.fs.length cv) _ bs _ _ Hsz.out (Nat.le_trans hL (by omega)) hV.own.r (edNew_rep hown)).mono ?_
        rintro e' W' ⟨u2, bs2, rfl, hO2, hb⟩
        have hlo2 := hO2.lo
        obtain ⟨T, hTT⟩ : ∃ T, T = doE s x := ⟨_, rfl⟩
        have hokT : snOk T.1 := by rw [hTT]; exact doE_ok _ hV.ok
        rw [← hTT] at hO2
        try rw [← hTT]
        clear hTT
        obtain ⟨A2, c2, hu2⟩ := (repSfs_form hO2.r).1
        subst hu2
        have hg : World.grownBy _ W' (some g) := grown_below (World.grownBy.refl _ _) hb
        have hsb := hV.bx.lt
        have hcur2 := hS.cur.below hb hS.cur.lt
        dsimp only
        have hV := hV.turn hg
        refine hK.out _ _ (hS.call hb) (fun hS => ?_)
        clear hK
        (try simp only [Act.put]); (try simp only [zPa]); (try simp only [zPb, zPc])
        refine tkH (i := 4) (v := .tuple #[.agg #[.int .i64 T.1.w, .int .i64 T.1.h, .int .i64 T.1.back, .slice A2 T.1.fs.length c2], .bool T.2]) rfl ?_
        refine tkH (i := 5) (v := .agg #[.int .i64 T.1.w, .int .i64 T.1.h, .int .i64 T.1.back, .slice A2 T.1.fs.length c2]) rfl ?_
        refine tkH (i := 6) (v := .bool T.2) rfl ?_
        (try simp only [Act.put]); (try simp only [zPa]); (try simp only [zPb, zPc])
        refine wpAnyH_ready (rs := [7]) (by kernel_rfl) (by simp) ?_
        refine (AllReadyH.cons rfl (fun K hK => ?_) AllReadyH.nil)
        ·rw [if_pos (by kernel_rfl)]
         (try simp only [zGa]); (try simp only [zGb]); (try simp only [zGc])
         refine wp_store_bk 34 (.tmp 3) (.tmp 48) rfl b 34 #[.int .i64 s.w, .int .i64 s.h, .int .i64 s.back, .slice Av s.fs.length cv] #[.int .i64 T.1.w, .int .i64 T.1.h, .int .i64 T.1.back, .slice A2 T.1.fs.length c2] (by kernel_rfl) rfl (by simp [Value.oneCell']) rfl (by first | with_reducible rfl | (go_simp; done) | rfl) hV.bx ?_
         intro W3 IB hgB
         skip
         refine hK.out _ _ (hS.set hgB hV.bb) (fun hS => ?_)
         clear hK
         (try simp only [Act.put]); (try simp only [zPa]); (try simp only [zPb, zPc])
         refine wpAnyH_done (by kernel_rfl) ?_ _
         go_wp2_with fail
         go_roundg (k - 1)
         case measure => omega
         case rel =>
          exact ⟨k - 1, _, T.1, _, bs2, rfl, by omega, rfl, by (have h1 : ((k - 1 : Nat) : Int) = (k : Int) - 1 := by omega); simp [h1], Lib.hid hS, Lib.hid ⟨IB, (hO2.mono (by have h1 := hV.bb; omega)).chg (Chg.of_grown hgB) (fun q hq e => by have h1 := hlo2 q hq; have h2 : q = b := (by simpa using e); omega), fun e => by have h1 := hlo2 b e; omega, hV.bb, hV.gg, hokT⟩⟩
    ·obtain rfl : k = 0 := by omega
     have hki : ¬ (0 : Int) > 0 := by omega
     obtain ⟨Av, cv, hv⟩ := (repSfs_form HD.out.own.r).1
     subst hv
     have c0 := HD.out.bx.cell 0 rfl
     have c1 := HD.out.bx.cell 1 rfl
     have c2 := HD.out.bx.cell 2 rfl
     have c3 := HD.out.bx.cell 3 rfl
     have r0 := HT.out.t.cell 0 rfl
     have r1 := HT.out.t.cell 1 rfl
     have r2 := HT.out.t.cell 2 rfl
     have r3 := HT.out.t.cell 3 rfl
     have f0 := HT.out.t.frozen 0
     have f1 := HT.out.t.frozen 1
     have f2 := HT.out.t.frozen 2
     have f3 := HT.out.t.frozen 3
     have HJ := Lib.hid (HT.out.t.all4 (.int .i64 s.w) (.int .i64 s.h) (.int .i64 s.back) (.slice Av s.fs.length cv))
     go_wp2_with fail
     obtain ⟨s0, s1, s2, s3⟩ := HJ.out.cells4
     refine bodyPost_ret (v := .agg #[.int .i64 s.w, .int .i64 s.h, .int .i64 s.back, .slice Av s.fs.length cv]) (by simp [results, Tryz.results61, go_sem, s0, s1, s2, s3]) rfl ?_
     have hg := (((grown_setB V w.heap.size 0 (.int .i64 s.w)).trans (grown_setB _ w.heap.size 1 (.int .i64 s.h))).trans (grown_setB _ w.heap.size 2 (.int .i64 s.back))).trans (grown_setB _ w.heap.size 3 (.slice Av s.fs.length cv))
     exact ⟨s, _, bs, rfl, HD.out.ok, (HD.out.own.chg (Chg.of_grown hg) (fun q hq e => by have h1 := HD.out.own.lo q hq; have h2 : q = w.heap.size := (by simpa using e); omega)).mono (by omega), HT.out.cur.grown hg (fun k e => by have h1 := Option.some.inj e; omega), HT.out.gr.andThen hg (fun j e => by have h1 := Option.some.inj e; exact .inl (by omega))⟩
end Go.Proofs.YtokniebejilcbaaGreat
