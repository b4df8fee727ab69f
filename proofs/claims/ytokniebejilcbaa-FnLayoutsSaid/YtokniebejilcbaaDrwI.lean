/- The contracts of spec.l05Image and spec.DrawImage: a valid image in memory of its own. No statement is proved here. -/
import Derived.Test.YtokniebejilcbaaMA
import Derived.Test.YtokniebejilcbaaMB
import Derived.Test.YtokniebejilcbaaProg
import Derived.WalkKit
import Derived.ProofKit
import Derived.OpenShut
import Derived.WalkLawsBesides
import Derived.WalkSpells
import Derived.ShutString
import Derived.ChangeOld
import Derived.Below
import Derived.Lib.Hide
import Derived.BigQuiet
import Derived.Deep.QuietTactic
import Derived.Maps.AppendAt
import Derived.Handy
import Derived.Deep.OwnRows
import Derived.Laws.BitsAllLaws
import Derived.Lib.QuoteBits
import Derived.Deep.Draws
import Derived.OwnWalk
import Derived.Deep.AppendLies
import Derived.Deep.LoopGhost
import Derived.Deep.Onto
import Derived.Test.YtokniebejilcbaaShelf
import Derived.Laws.CopyOwn
import Derived.Deep.RegionLaw
import Derived.Deep.RegionHeld3
import Derived.Deep.DeepCutAuto
import Derived.Great.BuildSlice
import Derived.Deep.MidRow
import Derived.Deep.WholeRow
import Derived.Laws.AppendOwn
namespace Go.Proofs.Ytokniebejilcbaa
open Go.RowKit
def FilledIm (X Y : Int) (w : World) (e : Ending) (w' : World) : Prop :=
 ∃ (M : List Int) (v : Value), e = .returned (.agg #[.int .i64 X, .int .i64 Y, v]) ∧ imOk X Y M ∧ w'.ownsRow w.heap.size 3 1 v M.length (intCells M) ∧ Below w.heap.size w w'
theorem im_len {X Y : Int} {L : List Int} (h : imOk X Y L) : L.length ≤ 256 := by
 obtain ⟨W, H, rfl, rfl, wl, wh, hl, hh, hL⟩ := im_nat h
 rw [hL]; exact mul_256 wh hh
theorem fillD (X Y : Int) (v : Value) (L : List Int) (a b c d p : Int) (w : World) (ho : imOk X Y L) (hv : RdI w v L) :
  Calls Try.prog 118 #[.agg #[.int .i64 X, .int .i64 Y, v], .agg #[.int .i64 a, .int .i64 b, .int .i64 c, .int .i64 d], .int .i64 p] w (FilledIm X Y w) := by
 obtain ⟨M, hM, ok⟩ := fill_ok ⟨a, b, c, d⟩ p ho
 have h := fillS_any X Y v L ⟨a, b, c, d⟩ p w (by have := im_len ho; omega) hv
 rw [hM] at h
 refine h.mono ?_
 rintro e w' ⟨u, rfl, h1, h2⟩
 exact ⟨M, u, rfl, ok, h1, h2⟩
structure DrS (w : World) (g b : Nat) (v : Value) (L : List Int) (W : World) : Prop where
 t : ImAt W w.heap.size 32 0 0 (.slice none 0 0)
 own : W.ownsRow (w.heap.size + 1) 3 1 v L.length (intCells L)
 nb : ∀ k, v.ownBlock = some k → k ≠ b
 bb : w.heap.size + 1 ≤ b
 gg : g < w.heap.size
 cur : Cur W g
 gr : w.grownBy W (some g)
structure DrI (w : World) (g b : Nat) (X Y : Int) (v : Value) (L : List Int) (W : World) : Prop where
 s : DrS w g b v L W
 a : ImAt W b 32 X Y v
theorem DrS.low {w : World} {g b : Nat} {v : Value} {L : List Int} {W : World} (h : DrS w g b v L W) : w.heap.size + 1 ≤ W.heap.size := h.t.lt
theorem DrS.turn {w : World} {g b : Nat} {v : Value} {L : List Int} {W W' : World} (h : DrS w g b v L W) (hg : W.grownBy W' (some g)) (hc : Cur W' g) : DrS w g b v L W' :=
 ⟨h.t.grown hg (fun e => by injection e with e; have := h.gg; omega), h.own.kept hg (ownA_ne fun k hk => by have := (h.own.lt k hk).1; have := h.gg; omega), h.nb, h.bb, h.gg, hc, h.gr.trans hg⟩
theorem grown_belowD {w W W' : World} {g : Nat} (h : w.grownBy W (some g)) (hb : Below W.heap.size W W') : w.grownBy W' (some g) :=
 ⟨hb.os.trans h.os, hb.tape.trans h.tape, hb.output.trans h.output, Nat.le_trans h.size hb.size, fun k hk hne => (hb.block k (Nat.lt_of_lt_of_le hk h.size)).trans (h.block k hk hne)⟩
theorem DrS.call {w : World} {g b : Nat} {v : Value} {L : List Int} {W W' : World} (h : DrS w g b v L W) (hb : Below W.heap.size W W') : DrS w g b v L W' :=
 ⟨h.t.call hb, ownI_call h.own hb, h.nb, h.bb, h.gg, h.cur.below hb h.cur.lt, grown_belowD h.gr hb⟩
theorem DrS.set {w : World} {g b : Nat} {v : Value} {L : List Int} {W W' : World} (h : DrS w g b v L W) (hg : W.grownBy W' (some b)) : DrS w g b v L W' :=
 ⟨h.t.grown hg (fun e => by injection e with e; have := h.bb; omega), h.own.kept hg (ownA_ne h.nb), h.nb, h.bb, h.gg, h.cur.grown hg (fun k hk => by injection hk with hk; have := h.bb; have := h.gg; omega), h.gr.andThen hg (fun j hj => by injection hj with hj; have := h.bb; exact .inl (by omega))⟩
theorem DrS.next {w : World} {g b : Nat} {v v' : Value} {L L' : List Int} {W : World} (h : DrS w g b v L W) (ho : W.ownsRow (w.heap.size + 1) 3 1 v' L'.length (intCells L')) (hn : ∀ k, v'.ownBlock = some k → k ≠ b) : DrS w g b v' L' W :=
 ⟨h.t, ho, hn, h.bb, h.gg, h.cur, h.gr⟩
theorem DrI.turn {w : World} {g b : Nat} {X Y : Int} {v : Value} {L : List Int} {W W' : World} (h : DrI w g b X Y v L W) (hg : W.grownBy W' (some g)) (hc : Cur W' g) : DrI w g b X Y v L W' :=
 ⟨h.s.turn hg hc, h.a.grown hg (fun e => by injection e with e; have := h.s.gg; have := h.s.bb; omega)⟩
def DrawnIm (most : Int) (w : World) (g : Nat) (e : Ending) (w' : World) : Prop :=
 ∃ (X Y : Int) (L : List Int) (v : Value), e = .returned (.agg #[.int .i64 X, .int .i64 Y, v]) ∧ imOk X Y L ∧ X ≤ most ∧ Y ≤ most ∧ w'.ownsRow w.heap.size 3 1 v L.length (intCells L) ∧ Cur w' g ∧ w.grownBy w' (some g)
theorem dr_end {w : World} {g b n : Nat} {X Y most : Int} {A : Option Addr} {c : Nat} {L : List Int} {W : World} (h : DrS w g b (.slice A n c) L W) (ho : imOk X Y L) (hX : X ≤ most) (hY : Y ≤ most) :
  DrawnIm most w g (.returned (.agg #[.int .i64 X, .int .i64 Y, .slice A n c])) (((W.setCell ⟨w.heap.size, 0, none⟩ (.int .i64 X)).setCell ⟨w.heap.size, 1, none⟩ (.int .i64 Y)).setCell ⟨w.heap.size, 2, none⟩ (.slice A n c)) := by
 have hg := ((grown_setI W w.heap.size 0 (.int .i64 X)).trans (grown_setI _ w.heap.size 1 (.int .i64 Y))).trans (grown_setI _ w.heap.size 2 (.slice A n c))
 exact ⟨X, Y, L, _, rfl, ho, hX, hY, (h.own.kept hg (ownA_ne fun k hk => by have := (h.own.lt k hk).1; omega)).mono (by omega), h.cur.grown hg (fun k hk => by injection hk with hk; have := h.gg; omega), h.gr.andThen hg (fun j hj => by injection hj with hj; exact .inl (by omega))⟩
theorem wp_load_im {op : Oper} {a : Act} {w : World} {K : Act → World → Prop} {Q : Exit → Act → World → Prop} (x : Operand) (ho : op.op = .load 32 x)
  (b : Nat) (X Y : Int) (v : Value) (hx : a.eval x = .pointer (some ⟨b, 0, none⟩)) (hI : ImAt w b 32 X Y v)
  (h : K (a.put op.dst (.agg #[.int .i64 X, .int .i64 Y, v])) w) : op.wp Try.prog a w K Q :=
 wp_load_row 32 x ho b hx _ #[.int .i64 X, .int .i64 Y, v] _ _ hI Try.underlying32 rfl size26 h
set_option maxHeartbeats 1500000 in
set_option maxRecDepth 10000 in
theorem l05Image_any (w : World) (g : Nat) (most : Int) (m1 : 1 ≤ most) (m2 : most ≤ 16) (hc : Cur w g) :
  Calls Try.prog 74 #[.pointer (some ⟨g, 0, none⟩), .int .i64 most] w (DrawnIm most w g) := by
 have hgl := hc.lt
 have hT := ImAt.new w 32 0 0 (.slice none 0 0)
 have hC := hc.alloc (.cells #[.int .i64 0, .int .i64 0, .slice none 0 0] 32)
 have hG := px_grown_alloc w (.cells #[.int .i64 0, .int .i64 0, .slice none 0 0] 32) (some g)
 clear hc
 go_enter Try.func74, Try.ntmps74
 go_wp2_with fail
 refine (below_any _ _ _ (by omega) hC).mono ?_
 rintro e w1 ⟨x, rfl, hx0, hx1, _, hC1, hg1⟩
 replace hx1 := hx1 (by omega)
 replace hT := hT.grown hg1 (fun e => by injection e with e; omega)
 replace hG := hG.trans hg1
 clear hg1 hC
 go_wp2_with fail
 refine (below_any _ _ _ (by omega) hC1).mono ?_
 rintro e w2 ⟨y, rfl, hy0, hy1, _, hC2, hg2⟩
 replace hy1 := hy1 (by omega)
 replace hT := hT.grown hg2 (fun e => by injection e with e; omega)
 replace hG := hG.trans hg2
 clear hg2 hC1
 go_wp2_with fail
 refine (l04Draw_any _ _ hC2).mono ?_
 rintro e w3 ⟨p, rfl, hp, hC3, hg3⟩
 replace hT := hT.grown hg3 (fun e => by injection e with e; omega)
 replace hG := hG.trans hg3
 clear hg3 hC2
 go_wp2_with fail
 generalize hX : (1 : Int) + x = X
 generalize hY : (1 : Int) + y = Y
 have hsz : szOk X Y := by unfold szOk; omega
 have x1 : 1 ≤ X := by omega
 have x2 : X ≤ most := by omega
 have y1 : 1 ≤ Y := by omega
 have y2 : Y ≤ most := by omega
 obtain ⟨F, hF⟩ : ∃ F, F = flatN X Y p := ⟨_, rfl⟩
 have oF : imOk X Y F := by rw [hF]; exact flat_ok hsz hp
 have N := newS X Y p w3
 rw [new_yes hsz hp, ← hF] at N
 unfold AnsIm at N
 dsimp only at N
 have OF := Lib.hid oF
 clear hX hY hx0 hx1 hy0 hy1 hF hsz oF hp
 refine N.mono ?_
 rintro e w4 ⟨vF, rfl, hown, hb⟩
 obtain ⟨A, c, he⟩ := ownI_shape hown
 subst he
 have hD : DrI w g w4.heap.size X Y (.slice A F.length c) F (w4.alloc (.cells #[.int .i64 X, .int .i64 Y, .slice A F.length c] 32)) :=
  ⟨⟨(hT.call hb).alloc _, (hown.alloc _).mono hT.lt, fun k hk => by have := (hown.lt k hk).2; omega, Nat.le_trans hT.lt hb.size, hgl, (hC3.below hb hC3.lt).alloc _, (grown_belowD hG hb).trans (px_grown_alloc _ _ _)⟩, ImAt.new _ _ _ _ _⟩
 obtain ⟨b, hbe⟩ : ∃ b, b = w4.heap.size := ⟨_, rfl⟩
 rw [← hbe] at hD
 have hC4 := hD.s.cur
 clear hT hown hb hG hC3 N
 go_wp2_with fail
 refine (below_any _ _ _ (by omega) hC4).mono ?_
 rintro e w5 ⟨k, rfl, k0, k1, _, hC5, hg5⟩
 replace k1 := k1 (by omega)
 replace hD := hD.turn hg5 hC5
 clear hg5 hC4 hC5
 have HD := Lib.hid hD
 clear hD
 go_wp2_with fail
 rw [← hbe]
 clear hbe
 go_loopw [8] (fun i wr => ∃ (k : Int) (A : Option Addr) (c : Nat) (L : List Int), i = .int .i64 k ∧ 0 ≤ k ∧ k ≤ 3 ∧ Hid (imOk X Y L) ∧ Hid (DrI w g b X Y (.slice A L.length c) L wr)) (fun i _ => (intOf i).toNat)
 case atStart => exact ⟨k, A, c, F, rfl, k0, by omega, OF, HD⟩
 case round =>
  clear HD OF k0 k1
  obtain ⟨k, A, c, L, rfl, k0, k3, Ho, HD⟩ := hrel
  have hS := HD.out.s
  have ha := HD.out.a
  clear HD
  have hnb : b ≠ g := by have := hS.bb; omega
  by_cases hk : 0 < k
  ·have Hx := Lib.hid x1
   go_upto_region 7 with fail
   refine wp_region_held_drew (S := fun V => DrS w g b (.slice A L.length c) L V) (by kernel_rfl) (hS.call (Below.refl _ _).drew) (fun hS => ?_)
   replace ha := ha.drew
   refine tkH (i := 1) (v := .pointer (some ⟨g, 0, none⟩)) rfl ?_
   refine tkH (i := 2) (v := .int .i64 X) rfl ?_
   refine tkH (i := 4) (v := .pointer (some ⟨g, 0, none⟩)) rfl ?_
   refine tkH (i := 5) (v := .int .i64 Y) rfl ?_
   refine tkH (i := 7) (v := .pointer (some ⟨g, 0, none⟩)) rfl ?_
   refine tkH (i := 10) (v := .pointer (some ⟨g, 0, none⟩)) rfl ?_
   refine tkH (i := 14) (v := .pointer (some ⟨g, 0, none⟩)) rfl ?_
   (try simp only [Act.put]); (try simp only [zPa]); (try simp only [zPb, zPc])
   refine wpAnyH_ready (rs := [0, 3]) (by kernel_rfl) (by simp) ?_
   refine (AllReadyH.cons rfl (fun K hK => ?_) (AllReadyH.cons rfl (fun K hK => ?_) AllReadyH.nil))
   ·rw [if_pos (by kernel_rfl)]
    (try simp only [zGa]); (try simp only [zGb]); (try simp only [zGc])
    with_reducible refine wp_load_im (.tmp 7) (by kernel_rfl) b X Y (.slice A L.length c) (by kernel_rfl) ha ?_
    skip
    refine hK.out _ _ (hS) (fun hS => ?_)
    clear hK
    (try simp only [Act.put]); (try simp only [zPa]); (try simp only [zPb, zPc])
    refine wpAnyH_ready (rs := [3]) (by kernel_rfl) (by simp) ?_
    refine (AllReadyH.cons rfl (fun K hK => ?_) AllReadyH.nil)
    ·rw [if_pos (by kernel_rfl)]
     (try simp only [zGa]); (try simp only [zGb]); (try simp only [zGc])
     go_simp
     with_reducible refine (below_any _ _ X (by omega) hS.cur).mono ?_
     rintro e W' ⟨q1, rfl, a3, b3, _, hC3, hg3⟩
     replace b3 := b3 (by omega)
     dsimp only
     have ha := ha.grown hg3 (fun e => hnb (by injection e))
     refine hK.out _ _ (hS.turn hg3 hC3) (fun hS => ?_)
     clear hK
     (try simp only [Act.put]); (try simp only [zPa]); (try simp only [zPb, zPc])
     refine wpAnyH_ready (rs := [6]) (by kernel_rfl) (by simp) ?_
     refine (AllReadyH.cons rfl (fun K hK => ?_) AllReadyH.nil)
     ·rw [if_pos (by kernel_rfl)]
      (try simp only [zGa]); (try simp only [zGb]); (try simp only [zGc])
      go_simp
      with_reducible refine (below_any _ _ Y (by omega) hS.cur).mono ?_
      rintro e W' ⟨q2, rfl, a6, b6, _, hC6, hg6⟩
      replace b6 := b6 (by omega)
      dsimp only
      have ha := ha.grown hg6 (fun e => hnb (by injection e))
      refine hK.out _ _ (hS.turn hg6 hC6) (fun hS => ?_)
      clear hK
      (try simp only [Act.put]); (try simp only [zPa]); (try simp only [zPb, zPc])
      refine wpAnyH_ready (rs := [8]) (by kernel_rfl) (by simp) ?_
      refine (AllReadyH.cons rfl (fun K hK => ?_) AllReadyH.nil)
      ·rw [if_pos (by kernel_rfl)]
       (try simp only [zGa]); (try simp only [zGb]); (try simp only [zGc])
       go_simp
       with_reducible refine (below_any _ _ 4 (by omega) hS.cur).mono ?_
       rintro e W' ⟨q3, rfl, a8, b8, _, hC8, hg8⟩
       replace b8 := b8 (by omega)
       dsimp only
       have r3 := wrap_in (1 + q3) (by omega) (by omega)
       have ha := ha.grown hg8 (fun e => hnb (by injection e))
       refine hK.out _ _ (hS.turn hg8 hC8) (fun hS => ?_)
       clear hK
       (try simp only [Act.put]); (try simp only [zPa]); (try simp only [zPb, zPc])
       refine tkH (i := 9) (v := .int .i64 (1 + q3)) rfl ?_
       (try simp only [Act.put]); (try simp only [zPa]); (try simp only [zPb, zPc])
       refine wpAnyH_ready (rs := [11]) (by kernel_rfl) (by simp) ?_
       refine (AllReadyH.cons rfl (fun K hK => ?_) AllReadyH.nil)
       ·rw [if_pos (by kernel_rfl)]
        (try simp only [zGa]); (try simp only [zGb]); (try simp only [zGc])
        go_simp
        with_reducible refine (below_any _ _ 4 (by omega) hS.cur).mono ?_
        rintro e W' ⟨q4, rfl, a11, b11, _, hC11, hg11⟩
        replace b11 := b11 (by omega)
        dsimp only
        have r4 := wrap_in (1 + q4) (by omega) (by omega)
        have ha := ha.grown hg11 (fun e => hnb (by injection e))
        refine hK.out _ _ (hS.turn hg11 hC11) (fun hS => ?_)
        clear hK
        (try simp only [Act.put]); (try simp only [zPa]); (try simp only [zPb, zPc])
        refine tkH (i := 12) (v := .int .i64 (1 + q4)) rfl ?_
        refine tkH (i := 13) (v := .agg #[.int .i64 q1, .int .i64 q2, .int .i64 (1 + q3), .int .i64 (1 + q4)]) rfl ?_
        (try simp only [Act.put]); (try simp only [zPa]); (try simp only [zPb, zPc])
        refine wpAnyH_ready (rs := [15]) (by kernel_rfl) (by simp) ?_
        refine (AllReadyH.cons rfl (fun K hK => ?_) AllReadyH.nil)
        ·rw [if_pos (by kernel_rfl)]
         (try simp only [zGa]); (try simp only [zGb]); (try simp only [zGc])
         go_simp
         with_reducible refine (l04Draw_any _ _ hS.cur).mono ?_
         rintro e W' ⟨p, rfl, _, hC15, hg15⟩
         dsimp only
         have ha := ha.grown hg15 (fun e => hnb (by injection e))
         refine hK.out _ _ (hS.turn hg15 hC15) (fun hS => ?_)
         clear hK
         (try simp only [Act.put]); (try simp only [zPa]); (try simp only [zPb, zPc])
         refine wpAnyH_ready (rs := [16]) (by kernel_rfl) (by simp) ?_
         refine (AllReadyH.cons rfl (fun K hK => ?_) AllReadyH.nil)
         ·rw [if_pos (by kernel_rfl)]
          (try simp only [zGa]); (try simp only [zGb]); (try simp only [zGc])
          go_simp
          with_reducible refine (fillD X Y _ L q1 q2 (1 + q3) (1 + q4) p _ Ho.out (RdI.of_own hS.own)).mono ?_
          rintro e W' ⟨M, v', rfl, oM, own', hb16⟩
          dsimp only
          obtain ⟨A', c', he⟩ := ownI_shape own'
          subst he
          have lb := hS.low
          have la := ha.lt
          have nb' : ∀ k, (Value.slice A' M.length c').ownBlock = some k → k ≠ b := fun k hk => by have := (own'.lt k hk).1; omega
          replace own' := own'.mono (base' := w.heap.size + 1) (by omega)
          have ha := ha.call hb16
          refine hK.out _ _ (hS.call hb16) (fun hS => ?_)
          clear hK
          (try simp only [Act.put]); (try simp only [zPa]); (try simp only [zPb, zPc])
          refine wpAnyH_ready (rs := [17]) (by kernel_rfl) (by simp) ?_
          refine (AllReadyH.cons rfl (fun K hK => ?_) AllReadyH.nil)
          ·rw [if_pos (by kernel_rfl)]
           (try simp only [zGa]); (try simp only [zGb]); (try simp only [zGc])
           refine wp_store_im 32 size26 (.tmp 7) (.tmp 44) rfl b X Y _ X Y A' M.length c' rfl (by first | with_reducible rfl | (go_simp; done) | rfl) ha ?_
           intro W3 I3 hg17
           skip
           refine hK.out _ _ (hS.set hg17) (fun hS => ?_)
           clear hK
           (try simp only [Act.put]); (try simp only [zPa]); (try simp only [zPb, zPc])
           refine wpAnyH_done (by kernel_rfl) ?_ _
           have hN := (DrI.mk (hS.next (own'.kept hg17 (ownA_ne nb')) nb') I3)
           have HN := Lib.hid hN
           have OM := Lib.hid oM
           clear hS hN own' ha hg17 I3 nb' oM
           go_wp2_with fail
           go_roundw
           case rel => exact ⟨k - 1, A', c', M, by go_num, by omega, by omega, OM, HN⟩
           case measure => simp [intOf]; omega
   ·rw [if_pos (by kernel_rfl)]
    (try simp only [zGa]); (try simp only [zGb]); (try simp only [zGc])
    go_simp
    with_reducible refine (below_any _ _ X (by omega) hS.cur).mono ?_
    rintro e W' ⟨q1, rfl, a3, b3, _, hC3, hg3⟩
    replace b3 := b3 (by omega)
    dsimp only
    have ha := ha.grown hg3 (fun e => hnb (by injection e))
    refine hK.out _ _ (hS.turn hg3 hC3) (fun hS => ?_)
    clear hK
    (try simp only [Act.put]); (try simp only [zPa]); (try simp only [zPb, zPc])
    refine wpAnyH_ready (rs := [0, 6]) (by kernel_rfl) (by simp) ?_
    refine (AllReadyH.cons rfl (fun K hK => ?_) (AllReadyH.cons rfl (fun K hK => ?_) AllReadyH.nil))
    ·rw [if_pos (by kernel_rfl)]
     (try simp only [zGa]); (try simp only [zGb]); (try simp only [zGc])
     with_reducible refine wp_load_im (.tmp 7) (by kernel_rfl) b X Y (.slice A L.length c) (by kernel_rfl) ha ?_
     skip
     refine hK.out _ _ (hS) (fun hS => ?_)
     clear hK
     (try simp only [Act.put]); (try simp only [zPa]); (try simp only [zPb, zPc])
     refine wpAnyH_ready (rs := [6]) (by kernel_rfl) (by simp) ?_
     refine (AllReadyH.cons rfl (fun K hK => ?_) AllReadyH.nil)
     ·rw [if_pos (by kernel_rfl)]
      (try simp only [zGa]); (try simp only [zGb]); (try simp only [zGc])
      go_simp
      with_reducible refine (below_any _ _ Y (by omega) hS.cur).mono ?_
      rintro e W' ⟨q2, rfl, a6, b6, _, hC6, hg6⟩
      replace b6 := b6 (by omega)
      dsimp only
      have ha := ha.grown hg6 (fun e => hnb (by injection e))
      refine hK.out _ _ (hS.turn hg6 hC6) (fun hS => ?_)
      clear hK
      (try simp only [Act.put]); (try simp only [zPa]); (try simp only [zPb, zPc])
      refine wpAnyH_ready (rs := [8]) (by kernel_rfl) (by simp) ?_
      refine (AllReadyH.cons rfl (fun K hK => ?_) AllReadyH.nil)
      ·rw [if_pos (by kernel_rfl)]
       (try simp only [zGa]); (try simp only [zGb]); (try simp only [zGc])
       go_simp
       with_reducible refine (below_any _ _ 4 (by omega) hS.cur).mono ?_
       rintro e W' ⟨q3, rfl, a8, b8, _, hC8, hg8⟩
       replace b8 := b8 (by omega)
       dsimp only
       have r3 := wrap_in (1 + q3) (by omega) (by omega)
       have ha := ha.grown hg8 (fun e => hnb (by injection e))
       refine hK.out _ _ (hS.turn hg8 hC8) (fun hS => ?_)
       clear hK
       (try simp only [Act.put]); (try simp only [zPa]); (try simp only [zPb, zPc])
       refine tkH (i := 9) (v := .int .i64 (1 + q3)) rfl ?_
       (try simp only [Act.put]); (try simp only [zPa]); (try simp only [zPb, zPc])
       refine wpAnyH_ready (rs := [11]) (by kernel_rfl) (by simp) ?_
       refine (AllReadyH.cons rfl (fun K hK => ?_) AllReadyH.nil)
       ·rw [if_pos (by kernel_rfl)]
        (try simp only [zGa]); (try simp only [zGb]); (try simp only [zGc])
        go_simp
        with_reducible refine (below_any _ _ 4 (by omega) hS.cur).mono ?_
        rintro e W' ⟨q4, rfl, a11, b11, _, hC11, hg11⟩
        replace b11 := b11 (by omega)
        dsimp only
        have r4 := wrap_in (1 + q4) (by omega) (by omega)
        have ha := ha.grown hg11 (fun e => hnb (by injection e))
        refine hK.out _ _ (hS.turn hg11 hC11) (fun hS => ?_)
        clear hK
        (try simp only [Act.put]); (try simp only [zPa]); (try simp only [zPb, zPc])
        refine tkH (i := 12) (v := .int .i64 (1 + q4)) rfl ?_
        refine tkH (i := 13) (v := .agg #[.int .i64 q1, .int .i64 q2, .int .i64 (1 + q3), .int .i64 (1 + q4)]) rfl ?_
        (try simp only [Act.put]); (try simp only [zPa]); (try simp only [zPb, zPc])
        refine wpAnyH_ready (rs := [15]) (by kernel_rfl) (by simp) ?_
        refine (AllReadyH.cons rfl (fun K hK => ?_) AllReadyH.nil)
        ·rw [if_pos (by kernel_rfl)]
         (try simp only [zGa]); (try simp only [zGb]); (try simp only [zGc])
         go_simp
         with_reducible refine (l04Draw_any _ _ hS.cur).mono ?_
         rintro e W' ⟨p, rfl, _, hC15, hg15⟩
         dsimp only
         have ha := ha.grown hg15 (fun e => hnb (by injection e))
         refine hK.out _ _ (hS.turn hg15 hC15) (fun hS => ?_)
         clear hK
         (try simp only [Act.put]); (try simp only [zPa]); (try simp only [zPb, zPc])
         refine wpAnyH_ready (rs := [16]) (by kernel_rfl) (by simp) ?_
         refine (AllReadyH.cons rfl (fun K hK => ?_) AllReadyH.nil)
         ·rw [if_pos (by kernel_rfl)]
          (try simp only [zGa]); (try simp only [zGb]); (try simp only [zGc])
          go_simp
          with_reducible refine (fillD X Y _ L q1 q2 (1 + q3) (1 + q4) p _ Ho.out (RdI.of_own hS.own)).mono ?_
          rintro e W' ⟨M, v', rfl, oM, own', hb16⟩
          dsimp only
          obtain ⟨A', c', he⟩ := ownI_shape own'
          subst he
          have lb := hS.low
          have la := ha.lt
          have nb' : ∀ k, (Value.slice A' M.length c').ownBlock = some k → k ≠ b := fun k hk => by have := (own'.lt k hk).1; omega
          replace own' := own'.mono (base' := w.heap.size + 1) (by omega)
          have ha := ha.call hb16
          refine hK.out _ _ (hS.call hb16) (fun hS => ?_)
          clear hK
          (try simp only [Act.put]); (try simp only [zPa]); (try simp only [zPb, zPc])
          refine wpAnyH_ready (rs := [17]) (by kernel_rfl) (by simp) ?_
          refine (AllReadyH.cons rfl (fun K hK => ?_) AllReadyH.nil)
          ·rw [if_pos (by kernel_rfl)]
           (try simp only [zGa]); (try simp only [zGb]); (try simp only [zGc])
           refine wp_store_im 32 size26 (.tmp 7) (.tmp 44) rfl b X Y _ X Y A' M.length c' rfl (by first | with_reducible rfl | (go_simp; done) | rfl) ha ?_
           intro W3 I3 hg17
           skip
           refine hK.out _ _ (hS.set hg17) (fun hS => ?_)
           clear hK
           (try simp only [Act.put]); (try simp only [zPa]); (try simp only [zPb, zPc])
           refine wpAnyH_done (by kernel_rfl) ?_ _
           have hN := (DrI.mk (hS.next (own'.kept hg17 (ownA_ne nb')) nb') I3)
           have HN := Lib.hid hN
           have OM := Lib.hid oM
           clear hS hN own' ha hg17 I3 nb' oM
           go_wp2_with fail
           go_roundw
           case rel => exact ⟨k - 1, A', c', M, by go_num, by omega, by omega, OM, HN⟩
           case measure => simp [intOf]; omega
    ·rw [if_pos (by kernel_rfl)]
     (try simp only [zGa]); (try simp only [zGb]); (try simp only [zGc])
     go_simp
     with_reducible refine (below_any _ _ Y (by omega) hS.cur).mono ?_
     rintro e W' ⟨q2, rfl, a6, b6, _, hC6, hg6⟩
     replace b6 := b6 (by omega)
     dsimp only
     have ha := ha.grown hg6 (fun e => hnb (by injection e))
     refine hK.out _ _ (hS.turn hg6 hC6) (fun hS => ?_)
     clear hK
     (try simp only [Act.put]); (try simp only [zPa]); (try simp only [zPb, zPc])
     refine wpAnyH_ready (rs := [0, 8]) (by kernel_rfl) (by simp) ?_
     refine (AllReadyH.cons rfl (fun K hK => ?_) (AllReadyH.cons rfl (fun K hK => ?_) AllReadyH.nil))
     ·rw [if_pos (by kernel_rfl)]
      (try simp only [zGa]); (try simp only [zGb]); (try simp only [zGc])
      with_reducible refine wp_load_im (.tmp 7) (by kernel_rfl) b X Y (.slice A L.length c) (by kernel_rfl) ha ?_
      skip
      refine hK.out _ _ (hS) (fun hS => ?_)
      clear hK
      (try simp only [Act.put]); (try simp only [zPa]); (try simp only [zPb, zPc])
      refine wpAnyH_ready (rs := [8]) (by kernel_rfl) (by simp) ?_
      refine (AllReadyH.cons rfl (fun K hK => ?_) AllReadyH.nil)
      ·rw [if_pos (by kernel_rfl)]
       (try simp only [zGa]); (try simp only [zGb]); (try simp only [zGc])
       go_simp
       with_reducible refine (below_any _ _ 4 (by omega) hS.cur).mono ?_
       rintro e W' ⟨q3, rfl, a8, b8, _, hC8, hg8⟩
       replace b8 := b8 (by omega)
       dsimp only
       have r3 := wrap_in (1 + q3) (by omega) (by omega)
       have ha := ha.grown hg8 (fun e => hnb (by injection e))
       refine hK.out _ _ (hS.turn hg8 hC8) (fun hS => ?_)
       clear hK
       (try simp only [Act.put]); (try simp only [zPa]); (try simp only [zPb, zPc])
       refine tkH (i := 9) (v := .int .i64 (1 + q3)) rfl ?_
       (try simp only [Act.put]); (try simp only [zPa]); (try simp only [zPb, zPc])
       refine wpAnyH_ready (rs := [11]) (by kernel_rfl) (by simp) ?_
       refine (AllReadyH.cons rfl (fun K hK => ?_) AllReadyH.nil)
       ·rw [if_pos (by kernel_rfl)]
        (try simp only [zGa]); (try simp only [zGb]); (try simp only [zGc])
        go_simp
        with_reducible refine (below_any _ _ 4 (by omega) hS.cur).mono ?_
        rintro e W' ⟨q4, rfl, a11, b11, _, hC11, hg11⟩
        replace b11 := b11 (by omega)
        dsimp only
        have r4 := wrap_in (1 + q4) (by omega) (by omega)
        have ha := ha.grown hg11 (fun e => hnb (by injection e))
        refine hK.out _ _ (hS.turn hg11 hC11) (fun hS => ?_)
        clear hK
        (try simp only [Act.put]); (try simp only [zPa]); (try simp only [zPb, zPc])
        refine tkH (i := 12) (v := .int .i64 (1 + q4)) rfl ?_
        refine tkH (i := 13) (v := .agg #[.int .i64 q1, .int .i64 q2, .int .i64 (1 + q3), .int .i64 (1 + q4)]) rfl ?_
        (try simp only [Act.put]); (try simp only [zPa]); (try simp only [zPb, zPc])
        refine wpAnyH_ready (rs := [15]) (by kernel_rfl) (by simp) ?_
        refine (AllReadyH.cons rfl (fun K hK => ?_) AllReadyH.nil)
        ·rw [if_pos (by kernel_rfl)]
         (try simp only [zGa]); (try simp only [zGb]); (try simp only [zGc])
         go_simp
         with_reducible refine (l04Draw_any _ _ hS.cur).mono ?_
         rintro e W' ⟨p, rfl, _, hC15, hg15⟩
         dsimp only
         have ha := ha.grown hg15 (fun e => hnb (by injection e))
         refine hK.out _ _ (hS.turn hg15 hC15) (fun hS => ?_)
         clear hK
         (try simp only [Act.put]); (try simp only [zPa]); (try simp only [zPb, zPc])
         refine wpAnyH_ready (rs := [16]) (by kernel_rfl) (by simp) ?_
         refine (AllReadyH.cons rfl (fun K hK => ?_) AllReadyH.nil)
         ·rw [if_pos (by kernel_rfl)]
          (try simp only [zGa]); (try simp only [zGb]); (try simp only [zGc])
          go_simp
          with_reducible refine (fillD X Y _ L q1 q2 (1 + q3) (1 + q4) p _ Ho.out (RdI.of_own hS.own)).mono ?_
          rintro e W' ⟨M, v', rfl, oM, own', hb16⟩
          dsimp only
          obtain ⟨A', c', he⟩ := ownI_shape own'
          subst he
          have lb := hS.low
          have la := ha.lt
          have nb' : ∀ k, (Value.slice A' M.length c').ownBlock = some k → k ≠ b := fun k hk => by have := (own'.lt k hk).1; omega
          replace own' := own'.mono (base' := w.heap.size + 1) (by omega)
          have ha := ha.call hb16
          refine hK.out _ _ (hS.call hb16) (fun hS => ?_)
          clear hK
          (try simp only [Act.put]); (try simp only [zPa]); (try simp only [zPb, zPc])
          refine wpAnyH_ready (rs := [17]) (by kernel_rfl) (by simp) ?_
          refine (AllReadyH.cons rfl (fun K hK => ?_) AllReadyH.nil)
          ·rw [if_pos (by kernel_rfl)]
           (try simp only [zGa]); (try simp only [zGb]); (try simp only [zGc])
           refine wp_store_im 32 size26 (.tmp 7) (.tmp 44) rfl b X Y _ X Y A' M.length c' rfl (by first | with_reducible rfl | (go_simp; done) | rfl) ha ?_
           intro W3 I3 hg17
           skip
           refine hK.out _ _ (hS.set hg17) (fun hS => ?_)
           clear hK
           (try simp only [Act.put]); (try simp only [zPa]); (try simp only [zPb, zPc])
           refine wpAnyH_done (by kernel_rfl) ?_ _
           have hN := (DrI.mk (hS.next (own'.kept hg17 (ownA_ne nb')) nb') I3)
           have HN := Lib.hid hN
           have OM := Lib.hid oM
           clear hS hN own' ha hg17 I3 nb' oM
           go_wp2_with fail
           go_roundw
           case rel => exact ⟨k - 1, A', c', M, by go_num, by omega, by omega, OM, HN⟩
           case measure => simp [intOf]; omega
     ·rw [if_pos (by kernel_rfl)]
      (try simp only [zGa]); (try simp only [zGb]); (try simp only [zGc])
      go_simp
      with_reducible refine (below_any _ _ 4 (by omega) hS.cur).mono ?_
      rintro e W' ⟨q3, rfl, a8, b8, _, hC8, hg8⟩
      replace b8 := b8 (by omega)
      dsimp only
      have r3 := wrap_in (1 + q3) (by omega) (by omega)
      have ha := ha.grown hg8 (fun e => hnb (by injection e))
      refine hK.out _ _ (hS.turn hg8 hC8) (fun hS => ?_)
      clear hK
      (try simp only [Act.put]); (try simp only [zPa]); (try simp only [zPb, zPc])
      refine tkH (i := 9) (v := .int .i64 (1 + q3)) rfl ?_
      (try simp only [Act.put]); (try simp only [zPa]); (try simp only [zPb, zPc])
      refine wpAnyH_ready (rs := [0, 11]) (by kernel_rfl) (by simp) ?_
      refine (AllReadyH.cons rfl (fun K hK => ?_) (AllReadyH.cons rfl (fun K hK => ?_) AllReadyH.nil))
      ·rw [if_pos (by kernel_rfl)]
       (try simp only [zGa]); (try simp only [zGb]); (try simp only [zGc])
       with_reducible refine wp_load_im (.tmp 7) (by kernel_rfl) b X Y (.slice A L.length c) (by kernel_rfl) ha ?_
       skip
       refine hK.out _ _ (hS) (fun hS => ?_)
       clear hK
       (try simp only [Act.put]); (try simp only [zPa]); (try simp only [zPb, zPc])
       refine wpAnyH_ready (rs := [11]) (by kernel_rfl) (by simp) ?_
       refine (AllReadyH.cons rfl (fun K hK => ?_) AllReadyH.nil)
       ·rw [if_pos (by kernel_rfl)]
        (try simp only [zGa]); (try simp only [zGb]); (try simp only [zGc])
        go_simp
        with_reducible refine (below_any _ _ 4 (by omega) hS.cur).mono ?_
        rintro e W' ⟨q4, rfl, a11, b11, _, hC11, hg11⟩
        replace b11 := b11 (by omega)
        dsimp only
        have r4 := wrap_in (1 + q4) (by omega) (by omega)
        have ha := ha.grown hg11 (fun e => hnb (by injection e))
        refine hK.out _ _ (hS.turn hg11 hC11) (fun hS => ?_)
        clear hK
        (try simp only [Act.put]); (try simp only [zPa]); (try simp only [zPb, zPc])
        refine tkH (i := 12) (v := .int .i64 (1 + q4)) rfl ?_
        refine tkH (i := 13) (v := .agg #[.int .i64 q1, .int .i64 q2, .int .i64 (1 + q3), .int .i64 (1 + q4)]) rfl ?_
        (try simp only [Act.put]); (try simp only [zPa]); (try simp only [zPb, zPc])
        refine wpAnyH_ready (rs := [15]) (by kernel_rfl) (by simp) ?_
        refine (AllReadyH.cons rfl (fun K hK => ?_) AllReadyH.nil)
        ·rw [if_pos (by kernel_rfl)]
         (try simp only [zGa]); (try simp only [zGb]); (try simp only [zGc])
         go_simp
         with_reducible refine (l04Draw_any _ _ hS.cur).mono ?_
         rintro e W' ⟨p, rfl, _, hC15, hg15⟩
         dsimp only
         have ha := ha.grown hg15 (fun e => hnb (by injection e))
         refine hK.out _ _ (hS.turn hg15 hC15) (fun hS => ?_)
         clear hK
         (try simp only [Act.put]); (try simp only [zPa]); (try simp only [zPb, zPc])
         refine wpAnyH_ready (rs := [16]) (by kernel_rfl) (by simp) ?_
         refine (AllReadyH.cons rfl (fun K hK => ?_) AllReadyH.nil)
         ·rw [if_pos (by kernel_rfl)]
          (try simp only [zGa]); (try simp only [zGb]); (try simp only [zGc])
          go_simp
          with_reducible refine (fillD X Y _ L q1 q2 (1 + q3) (1 + q4) p _ Ho.out (RdI.of_own hS.own)).mono ?_
          rintro e W' ⟨M, v', rfl, oM, own', hb16⟩
          dsimp only
          obtain ⟨A', c', he⟩ := ownI_shape own'
          subst he
          have lb := hS.low
          have la := ha.lt
          have nb' : ∀ k, (Value.slice A' M.length c').ownBlock = some k → k ≠ b := fun k hk => by have := (own'.lt k hk).1; omega
          replace own' := own'.mono (base' := w.heap.size + 1) (by omega)
          have ha := ha.call hb16
          refine hK.out _ _ (hS.call hb16) (fun hS => ?_)
          clear hK
          (try simp only [Act.put]); (try simp only [zPa]); (try simp only [zPb, zPc])
          refine wpAnyH_ready (rs := [17]) (by kernel_rfl) (by simp) ?_
          refine (AllReadyH.cons rfl (fun K hK => ?_) AllReadyH.nil)
          ·rw [if_pos (by kernel_rfl)]
           (try simp only [zGa]); (try simp only [zGb]); (try simp only [zGc])
           refine wp_store_im 32 size26 (.tmp 7) (.tmp 44) rfl b X Y _ X Y A' M.length c' rfl (by first | with_reducible rfl | (go_simp; done) | rfl) ha ?_
           intro W3 I3 hg17
           skip
           refine hK.out _ _ (hS.set hg17) (fun hS => ?_)
           clear hK
           (try simp only [Act.put]); (try simp only [zPa]); (try simp only [zPb, zPc])
           refine wpAnyH_done (by kernel_rfl) ?_ _
           have hN := (DrI.mk (hS.next (own'.kept hg17 (ownA_ne nb')) nb') I3)
           have HN := Lib.hid hN
           have OM := Lib.hid oM
           clear hS hN own' ha hg17 I3 nb' oM
           go_wp2_with fail
           go_roundw
           case rel => exact ⟨k - 1, A', c', M, by go_num, by omega, by omega, OM, HN⟩
           case measure => simp [intOf]; omega
      ·rw [if_pos (by kernel_rfl)]
       (try simp only [zGa]); (try simp only [zGb]); (try simp only [zGc])
       go_simp
       with_reducible refine (below_any _ _ 4 (by omega) hS.cur).mono ?_
       rintro e W' ⟨q4, rfl, a11, b11, _, hC11, hg11⟩
       replace b11 := b11 (by omega)
       dsimp only
       have r4 := wrap_in (1 + q4) (by omega) (by omega)
       have ha := ha.grown hg11 (fun e => hnb (by injection e))
       refine hK.out _ _ (hS.turn hg11 hC11) (fun hS => ?_)
       clear hK
       (try simp only [Act.put]); (try simp only [zPa]); (try simp only [zPb, zPc])
       refine tkH (i := 12) (v := .int .i64 (1 + q4)) rfl ?_
       refine tkH (i := 13) (v := .agg #[.int .i64 q1, .int .i64 q2, .int .i64 (1 + q3), .int .i64 (1 + q4)]) rfl ?_
       (try simp only [Act.put]); (try simp only [zPa]); (try simp only [zPb, zPc])
       refine wpAnyH_ready (rs := [0, 15]) (by kernel_rfl) (by simp) ?_
       refine (AllReadyH.cons rfl (fun K hK => ?_) (AllReadyH.cons rfl (fun K hK => ?_) AllReadyH.nil))
       ·rw [if_pos (by kernel_rfl)]
        (try simp only [zGa]); (try simp only [zGb]); (try simp only [zGc])
        with_reducible refine wp_load_im (.tmp 7) (by kernel_rfl) b X Y (.slice A L.length c) (by kernel_rfl) ha ?_
        skip
        refine hK.out _ _ (hS) (fun hS => ?_)
        clear hK
        (try simp only [Act.put]); (try simp only [zPa]); (try simp only [zPb, zPc])
        refine wpAnyH_ready (rs := [15]) (by kernel_rfl) (by simp) ?_
        refine (AllReadyH.cons rfl (fun K hK => ?_) AllReadyH.nil)
        ·rw [if_pos (by kernel_rfl)]
         (try simp only [zGa]); (try simp only [zGb]); (try simp only [zGc])
         go_simp
         with_reducible refine (l04Draw_any _ _ hS.cur).mono ?_
         rintro e W' ⟨p, rfl, _, hC15, hg15⟩
         dsimp only
         have ha := ha.grown hg15 (fun e => hnb (by injection e))
         refine hK.out _ _ (hS.turn hg15 hC15) (fun hS => ?_)
         clear hK
         (try simp only [Act.put]); (try simp only [zPa]); (try simp only [zPb, zPc])
         refine wpAnyH_ready (rs := [16]) (by kernel_rfl) (by simp) ?_
         refine (AllReadyH.cons rfl (fun K hK => ?_) AllReadyH.nil)
         ·rw [if_pos (by kernel_rfl)]
          (try simp only [zGa]); (try simp only [zGb]); (try simp only [zGc])
          go_simp
          with_reducible refine (fillD X Y _ L q1 q2 (1 + q3) (1 + q4) p _ Ho.out (RdI.of_own hS.own)).mono ?_
          rintro e W' ⟨M, v', rfl, oM, own', hb16⟩
          dsimp only
          obtain ⟨A', c', he⟩ := ownI_shape own'
          subst he
          have lb := hS.low
          have la := ha.lt
          have nb' : ∀ k, (Value.slice A' M.length c').ownBlock = some k → k ≠ b := fun k hk => by have := (own'.lt k hk).1; omega
          replace own' := own'.mono (base' := w.heap.size + 1) (by omega)
          have ha := ha.call hb16
          refine hK.out _ _ (hS.call hb16) (fun hS => ?_)
          clear hK
          (try simp only [Act.put]); (try simp only [zPa]); (try simp only [zPb, zPc])
          refine wpAnyH_ready (rs := [17]) (by kernel_rfl) (by simp) ?_
          refine (AllReadyH.cons rfl (fun K hK => ?_) AllReadyH.nil)
          ·rw [if_pos (by kernel_rfl)]
           (try simp only [zGa]); (try simp only [zGb]); (try simp only [zGc])
           refine wp_store_im 32 size26 (.tmp 7) (.tmp 44) rfl b X Y _ X Y A' M.length c' rfl (by first | with_reducible rfl | (go_simp; done) | rfl) ha ?_
           intro W3 I3 hg17
           skip
           refine hK.out _ _ (hS.set hg17) (fun hS => ?_)
           clear hK
           (try simp only [Act.put]); (try simp only [zPa]); (try simp only [zPb, zPc])
           refine wpAnyH_done (by kernel_rfl) ?_ _
           have hN := (DrI.mk (hS.next (own'.kept hg17 (ownA_ne nb')) nb') I3)
           have HN := Lib.hid hN
           have OM := Lib.hid oM
           clear hS hN own' ha hg17 I3 nb' oM
           go_wp2_with fail
           go_roundw
           case rel => exact ⟨k - 1, A', c', M, by go_num, by omega, by omega, OM, HN⟩
           case measure => simp [intOf]; omega
       ·rw [if_pos (by kernel_rfl)]
        (try simp only [zGa]); (try simp only [zGb]); (try simp only [zGc])
        go_simp
        with_reducible refine (l04Draw_any _ _ hS.cur).mono ?_
        rintro e W' ⟨p, rfl, _, hC15, hg15⟩
        dsimp only
        have ha := ha.grown hg15 (fun e => hnb (by injection e))
        refine hK.out _ _ (hS.turn hg15 hC15) (fun hS => ?_)
        clear hK
        (try simp only [Act.put]); (try simp only [zPa]); (try simp only [zPb, zPc])
        refine wpAnyH_ready (rs := [0]) (by kernel_rfl) (by simp) ?_
        refine (AllReadyH.cons rfl (fun K hK => ?_) AllReadyH.nil)
        ·rw [if_pos (by kernel_rfl)]
         (try simp only [zGa]); (try simp only [zGb]); (try simp only [zGc])
         with_reducible refine wp_load_im (.tmp 7) (by kernel_rfl) b X Y (.slice A L.length c) (by kernel_rfl) ha ?_
         skip
         refine hK.out _ _ (hS) (fun hS => ?_)
         clear hK
         (try simp only [Act.put]); (try simp only [zPa]); (try simp only [zPb, zPc])
         refine wpAnyH_ready (rs := [16]) (by kernel_rfl) (by simp) ?_
         refine (AllReadyH.cons rfl (fun K hK => ?_) AllReadyH.nil)
         ·rw [if_pos (by kernel_rfl)]
          (try simp only [zGa]); (try simp only [zGb]); (try simp only [zGc])
          go_simp
          with_reducible refine (fillD X Y _ L q1 q2 (1 + q3) (1 + q4) p _ Ho.out (RdI.of_own hS.own)).mono ?_
          rintro e W' ⟨M, v', rfl, oM, own', hb16⟩
          dsimp only
          obtain ⟨A', c', he⟩ := ownI_shape own'
          subst he
          have lb := hS.low
          have la := ha.lt
          have nb' : ∀ k, (Value.slice A' M.length c').ownBlock = some k → k ≠ b := fun k hk => by have := (own'.lt k hk).1; omega
          replace own' := own'.mono (base' := w.heap.size + 1) (by omega)
          have ha := ha.call hb16
          refine hK.out _ _ (hS.call hb16) (fun hS => ?_)
          clear hK
          (try simp only [Act.put]); (try simp only [zPa]); (try simp only [zPb, zPc])
          refine wpAnyH_ready (rs := [17]) (by kernel_rfl) (by simp) ?_
          refine (AllReadyH.cons rfl (fun K hK => ?_) AllReadyH.nil)
          ·rw [if_pos (by kernel_rfl)]
           (try simp only [zGa]); (try simp only [zGb]); (try simp only [zGc])
           refine wp_store_im 32 size26 (.tmp 7) (.tmp 44) rfl b X Y _ X Y A' M.length c' rfl (by first | with_reducible rfl | (go_simp; done) | rfl) ha ?_
           intro W3 I3 hg17
           skip
           refine hK.out _ _ (hS.set hg17) (fun hS => ?_)
           clear hK
           (try simp only [Act.put]); (try simp only [zPa]); (try simp only [zPb, zPc])
           refine wpAnyH_done (by kernel_rfl) ?_ _
           have hN := (DrI.mk (hS.next (own'.kept hg17 (ownA_ne nb')) nb') I3)
           have HN := Lib.hid hN
           have OM := Lib.hid oM
           clear hS hN own' ha hg17 I3 nb' oM
           go_wp2_with fail
           go_roundw
           case rel => exact ⟨k - 1, A', c', M, by go_num, by omega, by omega, OM, HN⟩
           case measure => simp [intOf]; omega
  ·obtain rfl : k = 0 := by omega
   obtain ⟨a0, a1, a2⟩ := ha.cells
   obtain ⟨t0, t1, t2⟩ := hS.t.cells
   have f0 := hS.t.frozen 0
   have f1 := hS.t.frozen 1
   have f2 := hS.t.frozen 2
   have j := hS.t.set3 X Y (.slice A L.length c)
   have HS := Lib.hid hS
   have J := Lib.hid j
   clear hS ha j
   go_wp2_with fail
   obtain ⟨z0, z1, z2⟩ := J.out.cells
   exact bodyPost_ret (v := .agg #[.int .i64 X, .int .i64 Y, .slice A L.length c]) (by simp [results, Try.results74, go_sem, z0, z1, z2]) rfl (dr_end HS.out Ho.out x2 y2)
def DrawnImage (w : World) (e : Ending) (w' : World) : Prop :=
 ∃ (X Y : Int) (L : List Int) (v : Value), e = .returned (.agg #[.int .i64 X, .int .i64 Y, v]) ∧ imOk X Y L ∧ X ≤ 8 ∧ Y ≤ 8 ∧ w'.ownsRow w.heap.size 3 1 v L.length (intCells L) ∧ Below w.heap.size w w'
theorem drawImage_any (w : World) (a : Option Addr) (len cap : Nat) (zs : List Int) (hrow : IsRow .u8 w a len cap zs) :
  Calls Try.prog 30 #[.slice a len cap] w (DrawnImage w) := by
 have hT := ImAt.new w 32 0 0 (.slice none 0 0)
 have hK := belI_box w (.cells #[.int .i64 0, .int .i64 0, .slice none 0 0] 32)
 have hR : IsRow .u8 (w.alloc (.cells #[.int .i64 0, .int .i64 0, .slice none 0 0] 32)) a len cap zs := hrow.of_same (fun x hx hp => Below.heap_alloc _ _ _ (hrow.lt x hx hp))
 clear hrow
 go_enter Try.func30, Try.ntmps30
 go_wp2_with fail
 refine (new_any _ _ _ _ zs hR).mono ?_
 rintro e w1 ⟨g, rfl, hg, hc, hb⟩
 replace hT := hT.call hb
 replace hK := belI_call hK hb
 have hgw : w.heap.size + 1 ≤ g := by simpa using hg
 clear hR hb hg
 go_wp2_with fail
 refine (l05Image_any _ _ 8 (by omega) (by omega) hc).mono ?_
 rintro e w2 ⟨X, Y, L, v, rfl, ho, hX, hY, hown, hc2, hg2⟩
 have hlt := hT.lt
 replace hT := hT.grown hg2 (fun e => by injection e with e; omega)
 replace hK := hK.grown hg2 hK.size (fun k hk => by injection hk with hk; omega)
 obtain ⟨A, c, he⟩ := ownI_shape hown
 subst he
 clear hc hc2 hg2
 obtain ⟨t0, t1, t2⟩ := hT.cells
 have f0 := hT.frozen 0
 have f1 := hT.frozen 1
 have f2 := hT.frozen 2
 have j := hT.set3 X Y (.slice A L.length c)
 have HO := Lib.hid hown
 have HK := Lib.hid hK
 have Ho := Lib.hid ho
 have HT := Lib.hid hlt
 have J := Lib.hid j
 clear hown hK hT j ho hlt
 go_wp2_with fail
 obtain ⟨z0, z1, z2⟩ := J.out.cells
 refine bodyPost_ret (v := .agg #[.int .i64 X, .int .i64 Y, .slice A L.length c]) (by simp [results, Try.results30, go_sem, z0, z1, z2]) rfl ?_
 obtain ⟨v, he, h1, h2⟩ := ans_set (X := X) (Y := Y) HO.out rfl (Nat.le_refl _) HT.out HK.out
 exact ⟨X, Y, L, v, he, Ho.out, hX, hY, h1, h2⟩
end Go.Proofs.Ytokniebejilcbaa
