/- The walk of the law FnOrientGroup: it returns true for every code. -/
import Derived.Test.YtmjndoedchiggaaMA
import Derived.Test.YtmjndoedchiggaaImR
import Derived.Test.YtmjndoedchiggaaImO
import Derived.Test.YtmjndoedchiggaaImL
import Derived.Test.YtmjndoedchiggaaImM
import Derived.Test.YtmjndoedchiggaaImD
import Derived.Test.YtmjndoedchiggaaImV
import Derived.Test.YtmjndoedchiggaaCpyB
import Derived.Test.YtmjndoedchiggaaCpyI
import Derived.Test.YtmjndoedchiggaaImP
import Derived.Test.YtmjndoedchiggaaFilB
import Derived.Test.YtmjndoedchiggaaDifB
import Derived.Test.YtmjndoedchiggaaCrpB
import Derived.Test.YtmjndoedchiggaaSameIm
import Derived.Test.YtmjndoedchiggaaLaw
import Derived.Test.YtmjndoedchiggaaDrwI
import Derived.Test.YtmjndoedchiggaaOriC
import Derived.Test.YtmjndoedchiggaaOriQ
import Derived.Test.YtmjndoedchiggaaOriP
import Derived.Test.YtmjndoedchiggaaOrdB
import Derived.Test.YtmjndoedchiggaaOrdS
import Derived.Test.YtmjndoedchiggaaOrdI
import Derived.Test.YtmjndoedchiggaaOrdA
import Derived.Test.YtmjndoedchiggaaOrgM
import Derived.Test.YtmjndoedchiggaaProg
import Derived.WalkKit
import Derived.ProofKit
import Derived.OpenShut
import Derived.WalkLawsBesides
import Derived.WalkSpells
import Derived.ShutString
import Derived.ChangeOld
import Derived.Below
import Derived.Lib.Hide
import Derived.BigQuiet
import Derived.Deep.QuietTactic
import Derived.Maps.AppendAt
import Derived.Handy
import Derived.Deep.OwnRows
import Derived.Laws.BitsAllLaws
import Derived.Lib.QuoteBits
import Derived.Deep.Draws
import Derived.OwnWalk
import Derived.Deep.AppendLies
import Derived.Deep.LoopGhost
import Derived.Deep.Onto
import Derived.Test.YtmjndoedchiggaaShelf
import Derived.Laws.CopyOwn
import Derived.Deep.RegionLaw
import Derived.Deep.RegionHeld3
import Derived.Deep.DeepCutAuto
import Derived.Great.BuildSlice
import Derived.Deep.MidRow
import Derived.Deep.WholeRow
import Derived.Laws.AppendOwn
namespace Go.Proofs.Ytmjndoedchiggaa
open Go.RowKit
set_option maxHeartbeats 4000000 in
set_option maxRecDepth 10000 in
theorem walk_FnOrientGroup (a0 : Option Addr) (len cap : Nat) (zs : List Int) (w : World) (hrow : IsRow .u8 w a0 len cap zs) :
    Calls Try.prog 7 #[.slice a0 len cap] w fun e w' => e = .returned (.bool true) ∧ Below w.heap.size w w' := by
  by_cases hbig : len ≤ 1048576
  rotate_left
  · go_enter Try.func7, Try.ntmps7
    go_wp2_with fail
    refine (big_yes _ _ _ _ (by omega)).mono ?_
    rintro e w1 ⟨rfl, rfl⟩
    go_wp2_with fail
    go_ret
    exact ⟨rfl, Below.refl _ _⟩
  go_enter Try.func7, Try.ntmps7
  go_wp2_with fail
  refine (big_no _ _ _ _ hbig).mono ?_
  rintro e w1 ⟨rfl, rfl⟩
  go_wp2_with fail
  refine (drawImage_any _ _ _ _ zs hrow).mono ?_
  rintro e w1 ⟨X, Y, L, v, rfl, ho, hX, hY, hown, K⟩
  obtain ⟨W, H, rfl, rfl, wl, wh, hl, hh, hL⟩ := im_nat ho
  clear hL
  obtain ⟨A, c, he⟩ := ownI_shape hown
  subst he
  have hR := row_call hrow K
  have Vi := ImV.born (X := (W : Int)) (Y := (H : Int)) K hown
  replace K := belI_call K (belI_box w1 (.cells #[.int .i64 (W : Int), .int .i64 (H : Int), .slice A L.length c] 26))
  replace hR := row_call hR (belI_box w1 (.cells #[.int .i64 (W : Int), .int .i64 (H : Int), .slice A L.length c] 26))
  obtain ⟨bi, hbi⟩ : ∃ b, b = w1.heap.size := ⟨_, rfl⟩
  obtain ⟨wi, hwi⟩ : ∃ V, V = w1.alloc (.cells #[.int .i64 (W : Int), .int .i64 (H : Int), .slice A L.length c] 26) := ⟨_, rfl⟩
  rw [← hbi, ← hwi] at Vi
  rw [← hwi] at K hR
  have HWi := Lib.hid hwi
  have HBi := Lib.hid hbi
  clear hrow hbig hown hwi hbi
  obtain ⟨Vi_0, Vi_1, Vi_2⟩ := Vi.cells
  go_wp2_with fail
  rw [← HWi.out]
  clear Vi_0 Vi_1 Vi_2
  rw [← HBi.out]
  clear HWi HBi
  refine (at_val _ a0 len cap zs hR 0 (by omega) (by omega)).mono ?_
  rintro e w' ⟨rfl, rfl⟩
  obtain ⟨Vi_0, Vi_1, Vi_2⟩ := Vi.cells
  have hd0 := atV_bd rfl hR 0
  have hd1 := atV_bd rfl hR 1
  have hd2 := atV_bd rfl hR 2
  have hd3 := atV_bd rfl hR 3
  obtain ⟨v0, hv0⟩ : ∃ v, atV len zs 0 = v := ⟨_, rfl⟩
  obtain ⟨v1, hv1⟩ : ∃ v, atV len zs 1 = v := ⟨_, rfl⟩
  obtain ⟨v2, hv2⟩ : ∃ v, atV len zs 2 = v := ⟨_, rfl⟩
  obtain ⟨v3, hv3⟩ : ∃ v, atV len zs 3 = v := ⟨_, rfl⟩
  rw [hv0] at hd0 ⊢
  rw [hv1] at hd1
  rw [hv2] at hd2
  rw [hv3] at hd3
  have Hv1 := Lib.hid hv1
  have Hv2 := Lib.hid hv2
  have Hv3 := Lib.hid hv3
  clear hv0 hv1 hv2 hv3
  obtain ⟨c0, c1⟩ := hd0
  obtain ⟨d0, d1⟩ := hd1
  have Hd2 := Lib.hid hd2
  have Hd3 := Lib.hid hd3
  clear hd2 hd3
  go_wp2_with fail
  clear Vi_0 Vi_1 Vi_2
  refine (at_val _ a0 len cap zs hR 1 (by omega) (by omega)).mono ?_
  rintro e w' ⟨rfl, rfl⟩
  rw [Hv1.out]
  obtain ⟨Vi_0, Vi_1, Vi_2⟩ := Vi.cells
  go_upto_region 6 with fail
  clear Vi_0 Vi_1 Vi_2
  have ha : orOk (v0 % 8) := by unfold orOk; omega
  have hb8 : orOk (v1 % 8) := by unfold orOk; omega
  clear c0 c1 d0 d1
  generalize v0 % 8 = a at ha ⊢
  generalize v1 % 8 = b at hb8 ⊢
  -- the orientations
  obtain ⟨P, hP⟩ : ∃ P, P = orWn W H a := ⟨_, rfl⟩
  obtain ⟨Q, hQ⟩ : ∃ Q, Q = orHn W H a := ⟨_, rfl⟩
  obtain ⟨La, hLa⟩ : ∃ M, M = orL W H L a := ⟨_, rfl⟩
  obtain ⟨D, hD⟩ : ∃ P, P = orWn W H (thenO a b) := ⟨_, rfl⟩
  obtain ⟨E, hE⟩ : ∃ P, P = orHn W H (thenO a b) := ⟨_, rfl⟩
  obtain ⟨Lab, hLab⟩ : ∃ M, M = orL W H L (thenO a b) := ⟨_, rfl⟩
  have oa : imOk (P : Int) (Q : Int) La := by rw [hP, hQ, hLa]; exact orL_ok ho ha
  have oab := thenO_ok ha hb8
  have oua := undoO_ok ha
  have m1 : orIm (W : Int) (H : Int) L a = ⟨P, Q, La⟩ := by rw [orIm_yes ho ha, hP, hQ, hLa]
  have m2 : orIm (P : Int) (Q : Int) La b = ⟨D, E, Lab⟩ := by
    rw [orIm_yes oa hb8, hP, hQ, hLa, or_or ho ha hb8, (orW_then ha hb8 W H).1, (orW_then ha hb8 W H).2, hD, hE, hLab]
  have m3 : orIm (W : Int) (H : Int) L (thenO a b) = ⟨D, E, Lab⟩ := by rw [orIm_yes ho oab, hD, hE, hLab]
  have m4 : orIm (P : Int) (Q : Int) La (undoO a) = ⟨W, H, L⟩ := by
    rw [orIm_yes oa oua, hP, hQ, hLa, or_back ho ha, (orW_undo ha W H).1, (orW_undo ha W H).2]
  obtain ⟨ab, hab⟩ : ∃ t, t = thenO a b := ⟨_, rfl⟩
  obtain ⟨ua, hua⟩ : ∃ t, t = undoO a := ⟨_, rfl⟩
  have HT : Hid (∀ V : World, Calls Try.prog 37 #[.int .i64 a, .int .i64 b] V fun e w' => e = .returned (.int .i64 ab) ∧ V = w') := Lib.hid (fun V => by have h := thI a b V; unfold OneAns at h; rw [th_yes ha hb8, ← hab] at h; exact h)
  have HU : Hid (∀ V : World, Calls Try.prog 38 #[.int .i64 a] V fun e w' => e = .returned (.int .i64 ua) ∧ V = w') := Lib.hid (fun V => by have h := unI a V; unfold OneAns at h; rw [un_yes ha, ← hua] at h; exact h)
  rw [← hab] at m3
  rw [← hua] at m4
  have HO1 : Hid (∀ (V : World) (u : Value), RdI V u L → Calls Try.prog 36 #[.agg #[.int .i64 (W : Int), .int .i64 (H : Int), u], .int .i64 a] V (ImAns (P : Int) (Q : Int) La V)) := Lib.hid (fun V u h => by have h2 := ordI_any (W : Int) (H : Int) u L a V h; rw [m1] at h2; exact h2)
  have HO2 : Hid (∀ (V : World) (u : Value), RdI V u La → Calls Try.prog 36 #[.agg #[.int .i64 (P : Int), .int .i64 (Q : Int), u], .int .i64 b] V (ImAns (D : Int) (E : Int) Lab V)) := Lib.hid (fun V u h => by have h2 := ordI_any (P : Int) (Q : Int) u La b V h; rw [m2] at h2; exact h2)
  have HO3 : Hid (∀ (V : World) (u : Value), RdI V u L → Calls Try.prog 36 #[.agg #[.int .i64 (W : Int), .int .i64 (H : Int), u], .int .i64 ab] V (ImAns (D : Int) (E : Int) Lab V)) := Lib.hid (fun V u h => by have h2 := ordI_any (W : Int) (H : Int) u L ab V h; rw [m3] at h2; exact h2)
  have HO4 : Hid (∀ (V : World) (u : Value), RdI V u La → Calls Try.prog 36 #[.agg #[.int .i64 (P : Int), .int .i64 (Q : Int), u], .int .i64 ua] V (ImAns (W : Int) (H : Int) L V)) := Lib.hid (fun V u h => by have h2 := ordI_any (P : Int) (Q : Int) u La ua V h; rw [m4] at h2; exact h2)
  have HZ : Hid (∀ V : World, Calls Try.prog 39 #[.int .i64 (W : Int), .int .i64 (H : Int), .int .i64 a] V fun e w' => e = .returned (.tuple #[.int .i64 (P : Int), .int .i64 (Q : Int)]) ∧ Below V.heap.size V w') := Lib.hid (fun V => by
    have h := osI W H a V
    unfold TwoAns at h
    rw [os_yes ho.1 ha, orW_nat, orH_nat, ← hP, ← hQ] at h
    exact h)
  have hw0 : 0 ≤ v2 % (W : Int) ∧ v2 % (W : Int) < (W : Int) := ⟨Int.emod_nonneg _ (by omega), Int.emod_lt_of_pos _ (by omega)⟩
  have hh0 : 0 ≤ v3 % (H : Int) ∧ v3 % (H : Int) < (H : Int) := ⟨Int.emod_nonneg _ (by omega), Int.emod_lt_of_pos _ (by omega)⟩
  obtain ⟨x0, hx0⟩ : ∃ x : Nat, v2 % (W : Int) = (x : Int) := ⟨(v2 % (W : Int)).toNat, by omega⟩
  obtain ⟨y0, hy0⟩ : ∃ x : Nat, v3 % (H : Int) = (x : Int) := ⟨(v3 % (H : Int)).toNat, by omega⟩
  have hx1 : x0 < W := by omega
  have hy1 : y0 < H := by omega
  have tx0 : Int.tmod v2 (W : Int) = (x0 : Int) := by rw [Int.tmod_eq_emod_of_nonneg Hd2.out.1, hx0]
  have ty0 : Int.tmod v3 (H : Int) = (y0 : Int) := by rw [Int.tmod_eq_emod_of_nonneg Hd3.out.1, hy0]
  obtain ⟨p0, q0, hpq, hp, hq⟩ := or_pt (x := x0) (y := y0) ⟨wl, wh, hl, hh⟩ ha hx1 hy1
  have hpx := or_px ho ha hx1 hy1 hpq hp hq
  rw [← hP, ← hQ, ← hLa] at hpx
  obtain ⟨r, hr⟩ : ∃ r, pxOf (W : Int) (H : Int) L (x0 : Int) (y0 : Int) = r := ⟨_, rfl⟩
  rw [hr] at hpx
  have HPt : Hid (∀ V : World, Calls Try.prog 40 #[.int .i64 (W : Int), .int .i64 (H : Int), .int .i64 a, .int .i64 (x0 : Int), .int .i64 (y0 : Int)] V fun e w' => e = .returned (.tuple #[.int .i64 (p0 : Int), .int .i64 (q0 : Int)]) ∧ Below V.heap.size V w') := Lib.hid (fun V => by
    have h := opI W H a x0 y0 V
    unfold TwoAns at h
    rw [op_yes ha (ptN_ok ⟨wl, wh, hl, hh⟩ hx1 hy1), show Pp.ori a ⟨W, H, x0, y0⟩ = _ from hpq] at h
    exact h)
  have HX1 : Hid (∀ (V : World) (u : Value), RdI V u La → Calls Try.prog 41 #[.agg #[.int .i64 (P : Int), .int .i64 (Q : Int), u], .int .i64 (p0 : Int), .int .i64 (q0 : Int)] V fun e w' => e = .returned (.int .i64 r) ∧ Below V.heap.size V w') := Lib.hid (fun V u h => by have h2 := pxI (P : Int) (Q : Int) (p0 : Int) (q0 : Int) u La V h; unfold PxAns at h2; rw [hpx] at h2; exact h2)
  have HX2 : Hid (∀ (V : World) (u : Value), RdI V u L → Calls Try.prog 42 #[.agg #[.int .i64 (W : Int), .int .i64 (H : Int), u], .int .i64 (x0 : Int), .int .i64 (y0 : Int)] V fun e w' => e = .returned (.int .i64 r) ∧ Below V.heap.size V w') := Lib.hid (fun V u h => by have h2 := pxS (W : Int) (H : Int) (x0 : Int) (y0 : Int) u L V h; unfold PxAns at h2; rw [hr] at h2; exact h2)
  have HSX : Hid (∀ (V : World) (u z : Value), RdI V u Lab → RdI V z Lab → Calls Try.prog 20 #[.agg #[.int .i64 (D : Int), .int .i64 (E : Int), u], .agg #[.int .i64 (D : Int), .int .i64 (E : Int), z]] V (fun e w' => e = .returned (.bool true) ∧ Below V.heap.size V w')) := Lib.hid (fun V u z h1 h2 => by have h := sameIL (D : Int) (E : Int) u Lab (D : Int) (E : Int) z Lab V h1 h2; unfold SameMAns at h; rw [sameM_yes] at h; exact h)
  have HSZ : Hid (∀ (V : World) (u z : Value), RdI V u L → RdI V z L → Calls Try.prog 20 #[.agg #[.int .i64 (W : Int), .int .i64 (H : Int), u], .agg #[.int .i64 (W : Int), .int .i64 (H : Int), z]] V (fun e w' => e = .returned (.bool true) ∧ Below V.heap.size V w')) := Lib.hid (fun V u z h1 h2 => by have h := sameIL (W : Int) (H : Int) u L (W : Int) (H : Int) z L V h1 h2; unfold SameMAns at h; rw [sameM_yes] at h; exact h)
  unfold ImAns at HO1 HO2 HO3 HO4
  have nw : ¬ W = 0 := by omega
  have nh : ¬ H = 0 := by omega
  have NW := Lib.hid nw
  have NH := Lib.hid nh
  have TX := Lib.hid tx0
  have TY := Lib.hid ty0
  have EX := Lib.hid hx0
  have EY := Lib.hid hy0
  clear hP hQ hLa hD hE hLab oa oab oua m1 m2 m3 m4 hab hua hw0 hh0 hx0 hy0 hx1 hy1 tx0 ty0 hpq hp hq hpx hr ho ha hb8 nw nh hX hY
  obtain ⟨Vi_0, Vi_1, Vi_2⟩ := Vi.cells
  go_wp2_with fail
  clear Vi_0 Vi_1 Vi_2
  refine (HO1.out _ _ Vi.rd).mono ?_
  rintro e wm ⟨vm, rfl, um, hb⟩
  obtain ⟨Am, cm, he⟩ := ownI_shape um
  subst he
  replace Vi := Vi.call hb
  replace hR := row_call hR hb
  replace K := belI_call K hb
  clear hb
  obtain ⟨Vi_0, Vi_1, Vi_2⟩ := Vi.cells
  go_wp2_with fail
  clear Vi_0 Vi_1 Vi_2
  refine (HO2.out _ _ (RdI.of_own um)).mono ?_
  rintro e wn ⟨vn, rfl, un, hb⟩
  obtain ⟨Ax, cx, he⟩ := ownI_shape un
  subst he
  have Vx := ImV.born (X := (D : Int)) (Y := (E : Int)) hb un
  replace hb := belI_call hb (belI_box wn (.cells #[.int .i64 (D : Int), .int .i64 (E : Int), .slice Ax Lab.length cx] 26))
  replace Vi := Vi.call hb
  replace hR := row_call hR hb
  replace K := belI_call K hb
  clear hb un um
  obtain ⟨bVx, hbVx⟩ : ∃ b, b = wn.heap.size := ⟨_, rfl⟩
  obtain ⟨WVx, hWVx⟩ : ∃ V, V = wn.alloc (.cells #[.int .i64 (D : Int), .int .i64 (E : Int), .slice Ax Lab.length cx] 26) := ⟨_, rfl⟩
  rw [← hbVx, ← hWVx] at Vx
  rw [← hWVx] at hR K Vi
  have HWVx := Lib.hid hWVx
  have HBVx := Lib.hid hbVx
  clear hWVx hbVx
  obtain ⟨Vi_0, Vi_1, Vi_2⟩ := Vi.cells
  obtain ⟨Vx_0, Vx_1, Vx_2⟩ := Vx.cells
  go_upto_region 7 with fail
  rw [← HWVx.out, ← HBVx.out]
  clear HWVx HBVx
  clear Vi_0 Vi_1 Vi_2 Vx_0 Vx_1 Vx_2
  obtain ⟨w7, hw7⟩ : ∃ V, V = WVx := ⟨_, rfl⟩
  rw [← hw7] at Vi Vx hR K ⊢
  clear hw7
  go_cut [7] (fun s7 wx => ∃ (b hi : Nat) (A : Option Addr) (c : Nat), s7 = .pointer (some ⟨b, 0, none⟩) ∧ ImV w7.heap.size hi b (D : Int) (E : Int) (.slice A Lab.length c) Lab wx ∧ Below w7.heap.size w7 wx)
  case first =>
    refine wp_region_held_drew (S := fun W' => Below w7.heap.size w7 W') (by kernel_rfl) (Below.refl _ _).drew (fun hS => ?_)
    refine wpAnyH_take (i := 0) (v := .agg #[.int .i64 (W : Int), .int .i64 (H : Int), .slice A L.length c]) rfl (by kernel_rfl) (by kernel_rfl) (by kernel_rfl) (fun _ _ _ h => h) (Or.inl ⟨by kernel_rfl, by intro w' hSw; (try dsimp only at hSw); (obtain ⟨i0, i1, i2⟩ := (Vi.call hSw).cells); go_simp⟩) (by assumption) ?_
    refine wpAnyH_take (i := 1) (v := .int .i64 a) rfl (by kernel_rfl) (by kernel_rfl) (by kernel_rfl) (fun _ _ _ h => h) (Or.inl ⟨by kernel_rfl, by intro w' hSw; (try dsimp only at hSw); (obtain ⟨i0, i1, i2⟩ := (Vi.call hSw).cells); go_simp⟩) (by assumption) ?_
    refine wpAnyH_take (i := 2) (v := .int .i64 b) rfl (by kernel_rfl) (by kernel_rfl) (by kernel_rfl) (fun _ _ _ h => h) (Or.inl ⟨by kernel_rfl, by intro w' hSw; (try dsimp only at hSw); (obtain ⟨i0, i1, i2⟩ := (Vi.call hSw).cells); go_simp⟩) (by assumption) ?_
    (try simp only [Act.put]); (try simp only [List.setIfInBounds_toArray]); (try simp only [List.set_cons_zero, List.set_cons_succ])
    refine wpAnyH_ready (rs := [3, 5]) (by kernel_rfl) (by simp) ?_
    refine (AllReadyH.cons rfl (fun K hK => ?_) (AllReadyH.cons rfl (fun K hK => ?_) AllReadyH.nil))
    · rw [if_pos (by kernel_rfl)]
      (try simp only [List.getElem_toArray]); (try simp only [List.getElem_cons_succ]); (try simp only [List.getElem_cons_zero])
      go_simp
      with_reducible refine (HT.out _).mono ?_
      rintro e W' ⟨rfl, rfl⟩
      dsimp only
      refine hK.out _ _ (hS) (fun hS => ?_)
      clear hK
      (try simp only [Act.put]); (try simp only [List.setIfInBounds_toArray]); (try simp only [List.set_cons_zero, List.set_cons_succ])
      refine wpAnyH_ready (rs := [4, 5]) (by kernel_rfl) (by simp) ?_
      refine (AllReadyH.cons rfl (fun K hK => ?_) (AllReadyH.cons rfl (fun K hK => ?_) AllReadyH.nil))
      · rw [if_pos (by kernel_rfl)]
        (try simp only [List.getElem_toArray]); (try simp only [List.getElem_cons_succ]); (try simp only [List.getElem_cons_zero])
        go_simp
        with_reducible refine (HO3.out _ _ (Vi.call hS).rd).mono ?_
        rintro e W' ⟨v', rfl, own', hb⟩
        obtain ⟨A', c', he⟩ := ownI_shape own'
        subst he
        replace own' := own'.mono hS.size
        dsimp only
        refine hK.out _ _ (belI_call hS hb) (fun hS => ?_)
        clear hK
        (try simp only [Act.put]); (try simp only [List.setIfInBounds_toArray]); (try simp only [List.set_cons_zero, List.set_cons_succ])
        refine wpAnyH_ready (rs := [5]) (by kernel_rfl) (by simp) ?_
        refine (AllReadyH.cons rfl (fun K hK => ?_) AllReadyH.nil)
        · rw [if_pos (by kernel_rfl)]
          (try simp only [List.getElem_toArray]); (try simp only [List.getElem_cons_succ]); (try simp only [List.getElem_cons_zero])
          refine wp_alloc_im 26 zero26 7 rfl rfl ?_
          intro bB W' hb GB lB
          have kB := Nat.le_trans hS.size lB
          have nB : ∀ k, (Value.slice A' Lab.length c').ownBlock = some k → k ≠ bB := fun k hk => by have := (own'.lt k hk).2; omega
          have own' := ownI_call own' hb
          refine hK.out _ _ (belI_call hS hb) (fun hS => ?_)
          clear hK
          (try simp only [Act.put]); (try simp only [List.setIfInBounds_toArray]); (try simp only [List.set_cons_zero, List.set_cons_succ])
          refine wpAnyH_ready (rs := [6]) (by kernel_rfl) (by simp) ?_
          refine (AllReadyH.cons rfl (fun K hK => ?_) AllReadyH.nil)
          · rw [if_pos (by kernel_rfl)]
            (try simp only [List.getElem_toArray]); (try simp only [List.getElem_cons_succ]); (try simp only [List.getElem_cons_zero])
            refine wp_store_im 26 size26 (.tmp 7) (.tmp 33) rfl bB 0 0 (.slice none 0 0) D E A' Lab.length c' rfl (by first | with_reducible rfl | (go_simp; done) | rfl) GB ?_
            intro W3 IB hgB
            replace own' := own'.kept hgB (ownA_ne nB)
            skip
            refine hK.out _ _ (hS.grown hgB hS.size (fun k hk => by injection hk with hk; omega)) (fun hS => ?_)
            clear hK
            (try simp only [Act.put]); (try simp only [List.setIfInBounds_toArray]); (try simp only [List.set_cons_zero, List.set_cons_succ])
            refine wpAnyH_done (by kernel_rfl) ?_ _
            go_wp2_with fail
            go_meet
            case rel => exact ⟨bB, _, _, _, rfl, ImV.made IB own' kB nB, hS⟩
      · rw [if_pos (by kernel_rfl)]
        (try simp only [List.getElem_toArray]); (try simp only [List.getElem_cons_succ]); (try simp only [List.getElem_cons_zero])
        refine wp_alloc_im 26 zero26 7 rfl rfl ?_
        intro bB W' hb GB lB
        have kB := Nat.le_trans hS.size lB
        refine hK.out _ _ (belI_call hS hb) (fun hS => ?_)
        clear hK
        (try simp only [Act.put]); (try simp only [List.setIfInBounds_toArray]); (try simp only [List.set_cons_zero, List.set_cons_succ])
        refine wpAnyH_ready (rs := [4]) (by kernel_rfl) (by simp) ?_
        refine (AllReadyH.cons rfl (fun K hK => ?_) AllReadyH.nil)
        · rw [if_pos (by kernel_rfl)]
          (try simp only [List.getElem_toArray]); (try simp only [List.getElem_cons_succ]); (try simp only [List.getElem_cons_zero])
          go_simp
          with_reducible refine (HO3.out _ _ (Vi.call hS).rd).mono ?_
          rintro e W' ⟨v', rfl, own', hb⟩
          obtain ⟨A', c', he⟩ := ownI_shape own'
          subst he
          have nB : ∀ k, (Value.slice A' Lab.length c').ownBlock = some k → k ≠ bB := fun k hk => by have := (own'.lt k hk).1; have := (Array.getElem?_eq_some_iff.1 GB).1; omega
          replace own' := own'.mono hS.size
          dsimp only
          have GB := blk_call GB hb
          refine hK.out _ _ (belI_call hS hb) (fun hS => ?_)
          clear hK
          (try simp only [Act.put]); (try simp only [List.setIfInBounds_toArray]); (try simp only [List.set_cons_zero, List.set_cons_succ])
          refine wpAnyH_ready (rs := [6]) (by kernel_rfl) (by simp) ?_
          refine (AllReadyH.cons rfl (fun K hK => ?_) AllReadyH.nil)
          · rw [if_pos (by kernel_rfl)]
            (try simp only [List.getElem_toArray]); (try simp only [List.getElem_cons_succ]); (try simp only [List.getElem_cons_zero])
            refine wp_store_im 26 size26 (.tmp 7) (.tmp 33) rfl bB 0 0 (.slice none 0 0) D E A' Lab.length c' rfl (by first | with_reducible rfl | (go_simp; done) | rfl) GB ?_
            intro W3 IB hgB
            skip
            replace own' := own'.kept hgB (ownA_ne nB)
            refine hK.out _ _ (hS.grown hgB hS.size (fun k hk => by injection hk with hk; omega)) (fun hS => ?_)
            clear hK
            (try simp only [Act.put]); (try simp only [List.setIfInBounds_toArray]); (try simp only [List.set_cons_zero, List.set_cons_succ])
            refine wpAnyH_done (by kernel_rfl) ?_ _
            go_wp2_with fail
            go_meet
            case rel => exact ⟨bB, _, _, _, rfl, ImV.made IB own' kB nB, hS⟩
    · rw [if_pos (by kernel_rfl)]
      (try simp only [List.getElem_toArray]); (try simp only [List.getElem_cons_succ]); (try simp only [List.getElem_cons_zero])
      refine wp_alloc_im 26 zero26 7 rfl rfl ?_
      intro bB W' hb GB lB
      have kB := Nat.le_trans hS.size lB
      refine hK.out _ _ (belI_call hS hb) (fun hS => ?_)
      clear hK
      (try simp only [Act.put]); (try simp only [List.setIfInBounds_toArray]); (try simp only [List.set_cons_zero, List.set_cons_succ])
      refine wpAnyH_ready (rs := [3]) (by kernel_rfl) (by simp) ?_
      refine (AllReadyH.cons rfl (fun K hK => ?_) AllReadyH.nil)
      · rw [if_pos (by kernel_rfl)]
        (try simp only [List.getElem_toArray]); (try simp only [List.getElem_cons_succ]); (try simp only [List.getElem_cons_zero])
        go_simp
        with_reducible refine (HT.out _).mono ?_
        rintro e W' ⟨rfl, rfl⟩
        dsimp only
        skip
        refine hK.out _ _ (hS) (fun hS => ?_)
        clear hK
        (try simp only [Act.put]); (try simp only [List.setIfInBounds_toArray]); (try simp only [List.set_cons_zero, List.set_cons_succ])
        refine wpAnyH_ready (rs := [4]) (by kernel_rfl) (by simp) ?_
        refine (AllReadyH.cons rfl (fun K hK => ?_) AllReadyH.nil)
        · rw [if_pos (by kernel_rfl)]
          (try simp only [List.getElem_toArray]); (try simp only [List.getElem_cons_succ]); (try simp only [List.getElem_cons_zero])
          go_simp
          with_reducible refine (HO3.out _ _ (Vi.call hS).rd).mono ?_
          rintro e W' ⟨v', rfl, own', hb⟩
          obtain ⟨A', c', he⟩ := ownI_shape own'
          subst he
          have nB : ∀ k, (Value.slice A' Lab.length c').ownBlock = some k → k ≠ bB := fun k hk => by have := (own'.lt k hk).1; have := (Array.getElem?_eq_some_iff.1 GB).1; omega
          replace own' := own'.mono hS.size
          dsimp only
          have GB := blk_call GB hb
          refine hK.out _ _ (belI_call hS hb) (fun hS => ?_)
          clear hK
          (try simp only [Act.put]); (try simp only [List.setIfInBounds_toArray]); (try simp only [List.set_cons_zero, List.set_cons_succ])
          refine wpAnyH_ready (rs := [6]) (by kernel_rfl) (by simp) ?_
          refine (AllReadyH.cons rfl (fun K hK => ?_) AllReadyH.nil)
          · rw [if_pos (by kernel_rfl)]
            (try simp only [List.getElem_toArray]); (try simp only [List.getElem_cons_succ]); (try simp only [List.getElem_cons_zero])
            refine wp_store_im 26 size26 (.tmp 7) (.tmp 33) rfl bB 0 0 (.slice none 0 0) D E A' Lab.length c' rfl (by first | with_reducible rfl | (go_simp; done) | rfl) GB ?_
            intro W3 IB hgB
            skip
            replace own' := own'.kept hgB (ownA_ne nB)
            refine hK.out _ _ (hS.grown hgB hS.size (fun k hk => by injection hk with hk; omega)) (fun hS => ?_)
            clear hK
            (try simp only [Act.put]); (try simp only [List.setIfInBounds_toArray]); (try simp only [List.set_cons_zero, List.set_cons_succ])
            refine wpAnyH_done (by kernel_rfl) ?_ _
            go_wp2_with fail
            go_meet
            case rel => exact ⟨bB, _, _, _, rfl, ImV.made IB own' kB nB, hS⟩
  case rest =>
    obtain ⟨bVy, hiy, Ay, cy, rfl, Vy, hb⟩ := hcut
    obtain ⟨w8, hw8⟩ : ∃ V, V = wc := ⟨_, rfl⟩
    subst hw8
    replace Vi := Vi.call hb
    replace Vx := Vx.call hb
    replace hR := row_call hR hb
    replace K := belI_call K hb
    clear hb
    obtain ⟨Vi_0, Vi_1, Vi_2⟩ := Vi.cells
    obtain ⟨Vx_0, Vx_1, Vx_2⟩ := Vx.cells
    obtain ⟨Vy_0, Vy_1, Vy_2⟩ := Vy.cells
    go_wp2_with fail
    clear Vi_0 Vi_1 Vi_2 Vx_0 Vx_1 Vx_2 Vy_0 Vy_1 Vy_2
    refine (HO1.out _ _ Vi.rd).mono ?_
    rintro e wm ⟨vm, rfl, um, hb⟩
    obtain ⟨Am, cm, he⟩ := ownI_shape um
    subst he
    replace Vi := Vi.call hb
    replace Vx := Vx.call hb
    replace Vy := Vy.call hb
    replace hR := row_call hR hb
    replace K := belI_call K hb
    clear hb
    obtain ⟨Vi_0, Vi_1, Vi_2⟩ := Vi.cells
    obtain ⟨Vx_0, Vx_1, Vx_2⟩ := Vx.cells
    obtain ⟨Vy_0, Vy_1, Vy_2⟩ := Vy.cells
    go_wp2_with fail
    clear Vi_0 Vi_1 Vi_2 Vx_0 Vx_1 Vx_2 Vy_0 Vy_1 Vy_2
    refine (HU.out _).mono ?_
    rintro e w' ⟨rfl, rfl⟩
    obtain ⟨Vi_0, Vi_1, Vi_2⟩ := Vi.cells
    obtain ⟨Vx_0, Vx_1, Vx_2⟩ := Vx.cells
    obtain ⟨Vy_0, Vy_1, Vy_2⟩ := Vy.cells
    go_wp2_with fail
    clear Vi_0 Vi_1 Vi_2 Vx_0 Vx_1 Vx_2 Vy_0 Vy_1 Vy_2
    refine (HO4.out _ _ (RdI.of_own um)).mono ?_
    rintro e wn ⟨vn, rfl, un, hb⟩
    obtain ⟨Az, cz, he⟩ := ownI_shape un
    subst he
    have Vz := ImV.born (X := (W : Int)) (Y := (H : Int)) hb un
    replace hb := belI_call hb (belI_box wn (.cells #[.int .i64 (W : Int), .int .i64 (H : Int), .slice Az L.length cz] 26))
    replace Vi := Vi.call hb
    replace Vx := Vx.call hb
    replace Vy := Vy.call hb
    replace hR := row_call hR hb
    replace K := belI_call K hb
    clear hb un um
    obtain ⟨bVz, hbVz⟩ : ∃ b, b = wn.heap.size := ⟨_, rfl⟩
    obtain ⟨WVz, hWVz⟩ : ∃ V, V = wn.alloc (.cells #[.int .i64 (W : Int), .int .i64 (H : Int), .slice Az L.length cz] 26) := ⟨_, rfl⟩
    rw [← hbVz, ← hWVz] at Vz
    rw [← hWVz] at hR K Vi Vx Vy
    have HWVz := Lib.hid hWVz
    have HBVz := Lib.hid hbVz
    clear hWVz hbVz
    go_upto_region 9 with fail
    rw [← HWVz.out, ← HBVz.out]
    clear HWVz HBVz
    obtain ⟨Vi_0, Vi_1, Vi_2⟩ := Vi.cells
    obtain ⟨Vx_0, Vx_1, Vx_2⟩ := Vx.cells
    obtain ⟨Vy_0, Vy_1, Vy_2⟩ := Vy.cells
    obtain ⟨Vz_0, Vz_1, Vz_2⟩ := Vz.cells
    go_wp2_with fail
    clear Vi_0 Vi_1 Vi_2 Vx_0 Vx_1 Vx_2 Vy_0 Vy_1 Vy_2 Vz_0 Vz_1 Vz_2
    refine (HZ.out _).mono ?_
    rintro e w9 ⟨rfl, hb⟩
    replace Vi := Vi.call hb
    replace Vx := Vx.call hb
    replace Vy := Vy.call hb
    replace Vz := Vz.call hb
    replace hR := row_call hR hb
    replace K := belI_call K hb
    clear hb
    obtain ⟨Vi_0, Vi_1, Vi_2⟩ := Vi.cells
    obtain ⟨Vx_0, Vx_1, Vx_2⟩ := Vx.cells
    obtain ⟨Vy_0, Vy_1, Vy_2⟩ := Vy.cells
    obtain ⟨Vz_0, Vz_1, Vz_2⟩ := Vz.cells
    go_upto_region 10 with fail
    clear Vi_0 Vi_1 Vi_2 Vx_0 Vx_1 Vx_2 Vy_0 Vy_1 Vy_2 Vz_0 Vz_1 Vz_2
    obtain ⟨w10, hw10⟩ : ∃ V, V = w9 := ⟨_, rfl⟩
    rw [← hw10] at Vi Vx Vy Vz hR K ⊢
    clear hw10
    have nw := NW.out
    have nh := NH.out
    have tx0 := TX.out
    have ty0 := TY.out
    have ex0 := EX.out
    have ey0 := EY.out
    go_cut [11, 12] (fun s11 s12 wx => s11 = .int .i64 (p0 : Int) ∧ s12 = .int .i64 (q0 : Int) ∧ Below w10.heap.size w10 wx)
    case first =>
      refine wp_region_held_drew (S := fun W' => Below w10.heap.size w10 W') (by kernel_rfl) (Below.refl _ _).drew (fun hS => ?_)
      refine wpAnyH_take (i := 0) (v := .pointer (some ⟨bi, 0, none⟩)) rfl (by kernel_rfl) (by kernel_rfl) (by kernel_rfl) (fun _ _ _ h => h) (Or.inl ⟨by kernel_rfl, by intro w' hSw; (try dsimp only at hSw); (obtain ⟨i0, i1, i2⟩ := (Vi.call hSw).cells); go_simp⟩) (by assumption) ?_
      refine wpAnyH_take (i := 1) (v := .int .i64 (W : Int)) rfl (by kernel_rfl) (by kernel_rfl) (by kernel_rfl) (fun _ _ _ h => h) (Or.inl ⟨by kernel_rfl, by intro w' hSw; (try dsimp only at hSw); (obtain ⟨i0, i1, i2⟩ := (Vi.call hSw).cells); go_simp⟩) (by assumption) ?_
      refine wpAnyH_take (i := 2) (v := .pointer (some ⟨bi, 1, none⟩)) rfl (by kernel_rfl) (by kernel_rfl) (by kernel_rfl) (fun _ _ _ h => h) (Or.inl ⟨by kernel_rfl, by intro w' hSw; (try dsimp only at hSw); (obtain ⟨i0, i1, i2⟩ := (Vi.call hSw).cells); go_simp⟩) (by assumption) ?_
      refine wpAnyH_take (i := 3) (v := .int .i64 (H : Int)) rfl (by kernel_rfl) (by kernel_rfl) (by kernel_rfl) (fun _ _ _ h => h) (Or.inl ⟨by kernel_rfl, by intro w' hSw; (try dsimp only at hSw); (obtain ⟨i0, i1, i2⟩ := (Vi.call hSw).cells); go_simp⟩) (by assumption) ?_
      refine wpAnyH_take (i := 4) (v := .int .i64 a) rfl (by kernel_rfl) (by kernel_rfl) (by kernel_rfl) (fun _ _ _ h => h) (Or.inl ⟨by kernel_rfl, by intro w' hSw; (try dsimp only at hSw); (obtain ⟨i0, i1, i2⟩ := (Vi.call hSw).cells); go_simp⟩) (by assumption) ?_
      refine wpAnyH_take (i := 5) (v := .slice a0 len cap) rfl (by kernel_rfl) (by kernel_rfl) (by kernel_rfl) (fun _ _ _ h => h) (Or.inl ⟨by kernel_rfl, by intro w' hSw; (try dsimp only at hSw); (obtain ⟨i0, i1, i2⟩ := (Vi.call hSw).cells); go_simp⟩) (by assumption) ?_
      refine wpAnyH_take (i := 7) (v := .pointer (some ⟨bi, 0, none⟩)) rfl (by kernel_rfl) (by kernel_rfl) (by kernel_rfl) (fun _ _ _ h => h) (Or.inl ⟨by kernel_rfl, by intro w' hSw; (try dsimp only at hSw); (obtain ⟨i0, i1, i2⟩ := (Vi.call hSw).cells); go_simp⟩) (by assumption) ?_
      refine wpAnyH_take (i := 8) (v := .int .i64 (W : Int)) rfl (by kernel_rfl) (by kernel_rfl) (by kernel_rfl) (fun _ _ _ h => h) (Or.inl ⟨by kernel_rfl, by intro w' hSw; (try dsimp only at hSw); (obtain ⟨i0, i1, i2⟩ := (Vi.call hSw).cells); go_simp⟩) (by assumption) ?_
      refine wpAnyH_take (i := 10) (v := .slice a0 len cap) rfl (by kernel_rfl) (by kernel_rfl) (by kernel_rfl) (fun _ _ _ h => h) (Or.inl ⟨by kernel_rfl, by intro w' hSw; (try dsimp only at hSw); (obtain ⟨i0, i1, i2⟩ := (Vi.call hSw).cells); go_simp⟩) (by assumption) ?_
      refine wpAnyH_take (i := 12) (v := .pointer (some ⟨bi, 1, none⟩)) rfl (by kernel_rfl) (by kernel_rfl) (by kernel_rfl) (fun _ _ _ h => h) (Or.inl ⟨by kernel_rfl, by intro w' hSw; (try dsimp only at hSw); (obtain ⟨i0, i1, i2⟩ := (Vi.call hSw).cells); go_simp⟩) (by assumption) ?_
      refine wpAnyH_take (i := 13) (v := .int .i64 (H : Int)) rfl (by kernel_rfl) (by kernel_rfl) (by kernel_rfl) (fun _ _ _ h => h) (Or.inl ⟨by kernel_rfl, by intro w' hSw; (try dsimp only at hSw); (obtain ⟨i0, i1, i2⟩ := (Vi.call hSw).cells); go_simp⟩) (by assumption) ?_
      (try simp only [Act.put]); (try simp only [List.setIfInBounds_toArray]); (try simp only [List.set_cons_zero, List.set_cons_succ])
      refine wpAnyH_ready (rs := [6]) (by kernel_rfl) (by simp) ?_
      refine (AllReadyH.cons rfl (fun K hK => ?_) AllReadyH.nil)
      · rw [if_pos (by kernel_rfl)]
        (try simp only [List.getElem_toArray]); (try simp only [List.getElem_cons_succ]); (try simp only [List.getElem_cons_zero])
        go_simp
        with_reducible refine (at_val _ a0 len cap zs (row_call hR hS) 2 (by omega) (by omega)).mono ?_
        rintro e W' ⟨rfl, rfl⟩
        rw [Hv2.out]
        dsimp only
        refine hK.out _ _ (hS) (fun hS => ?_)
        clear hK
        (try simp only [Act.put]); (try simp only [List.setIfInBounds_toArray]); (try simp only [List.set_cons_zero, List.set_cons_succ])
        refine wpAnyH_take (i := 9) (v := .int .i64 (x0 : Int)) rfl (by kernel_rfl) (by kernel_rfl) (by kernel_rfl) (fun _ _ _ h => h) (Or.inl ⟨by kernel_rfl, by intro w' hSw; (try dsimp only at hSw); (obtain ⟨i0, i1, i2⟩ := (Vi.call hSw).cells); go_simp⟩) (by assumption) ?_
        (try simp only [Act.put]); (try simp only [List.setIfInBounds_toArray]); (try simp only [List.set_cons_zero, List.set_cons_succ])
        refine wpAnyH_ready (rs := [11]) (by kernel_rfl) (by simp) ?_
        refine (AllReadyH.cons rfl (fun K hK => ?_) AllReadyH.nil)
        · rw [if_pos (by kernel_rfl)]
          (try simp only [List.getElem_toArray]); (try simp only [List.getElem_cons_succ]); (try simp only [List.getElem_cons_zero])
          go_simp
          with_reducible refine (at_val _ a0 len cap zs (row_call hR hS) 3 (by omega) (by omega)).mono ?_
          rintro e W' ⟨rfl, rfl⟩
          rw [Hv3.out]
          dsimp only
          refine hK.out _ _ (hS) (fun hS => ?_)
          clear hK
          (try simp only [Act.put]); (try simp only [List.setIfInBounds_toArray]); (try simp only [List.set_cons_zero, List.set_cons_succ])
          refine wpAnyH_take (i := 14) (v := .int .i64 (y0 : Int)) rfl (by kernel_rfl) (by kernel_rfl) (by kernel_rfl) (fun _ _ _ h => h) (Or.inl ⟨by kernel_rfl, by intro w' hSw; (try dsimp only at hSw); (obtain ⟨i0, i1, i2⟩ := (Vi.call hSw).cells); go_simp⟩) (by assumption) ?_
          (try simp only [Act.put]); (try simp only [List.setIfInBounds_toArray]); (try simp only [List.set_cons_zero, List.set_cons_succ])
          refine wpAnyH_ready (rs := [15]) (by kernel_rfl) (by simp) ?_
          refine (AllReadyH.cons rfl (fun K hK => ?_) AllReadyH.nil)
          · rw [if_pos (by kernel_rfl)]
            (try simp only [List.getElem_toArray]); (try simp only [List.getElem_cons_succ]); (try simp only [List.getElem_cons_zero])
            go_simp
            with_reducible refine (HPt.out _).mono ?_
            rintro e W' ⟨rfl, hb⟩
            dsimp only
            refine hK.out _ _ (belI_call hS hb) (fun hS => ?_)
            clear hK
            (try simp only [Act.put]); (try simp only [List.setIfInBounds_toArray]); (try simp only [List.set_cons_zero, List.set_cons_succ])
            refine wpAnyH_take (i := 16) (v := .tuple #[.int .i64 (p0 : Int), .int .i64 (q0 : Int)]) rfl (by kernel_rfl) (by kernel_rfl) (by kernel_rfl) (fun _ _ _ h => h) (Or.inl ⟨by kernel_rfl, by intro w' hSw; (try dsimp only at hSw); (obtain ⟨i0, i1, i2⟩ := (Vi.call hSw).cells); go_simp⟩) (by assumption) ?_
            refine wpAnyH_take (i := 17) (v := .int .i64 (p0 : Int)) rfl (by kernel_rfl) (by kernel_rfl) (by kernel_rfl) (fun _ _ _ h => h) (Or.inl ⟨by kernel_rfl, by intro w' hSw; (try dsimp only at hSw); (obtain ⟨i0, i1, i2⟩ := (Vi.call hSw).cells); go_simp⟩) (by assumption) ?_
            refine wpAnyH_take (i := 18) (v := .int .i64 (q0 : Int)) rfl (by kernel_rfl) (by kernel_rfl) (by kernel_rfl) (fun _ _ _ h => h) (Or.inl ⟨by kernel_rfl, by intro w' hSw; (try dsimp only at hSw); (obtain ⟨i0, i1, i2⟩ := (Vi.call hSw).cells); go_simp⟩) (by assumption) ?_
            refine wpAnyH_take (i := 19) (v := .int .i64 (p0 : Int)) rfl (by kernel_rfl) (by kernel_rfl) (by kernel_rfl) (fun _ _ _ h => h) (Or.inl ⟨by kernel_rfl, by intro w' hSw; (try dsimp only at hSw); (obtain ⟨i0, i1, i2⟩ := (Vi.call hSw).cells); go_simp⟩) (by assumption) ?_
            refine wpAnyH_take (i := 20) (v := .int .i64 (q0 : Int)) rfl (by kernel_rfl) (by kernel_rfl) (by kernel_rfl) (fun _ _ _ h => h) (Or.inl ⟨by kernel_rfl, by intro w' hSw; (try dsimp only at hSw); (obtain ⟨i0, i1, i2⟩ := (Vi.call hSw).cells); go_simp⟩) (by assumption) ?_
            refine wpAnyH_done (by kernel_rfl) ?_ _
            go_wp2_with fail
            go_meet
            case rel => exact ⟨rfl, rfl, hS⟩
    case rest =>
      obtain ⟨rfl, rfl, hb⟩ := hcut
      obtain ⟨w11, hw11⟩ : ∃ V, V = wc := ⟨_, rfl⟩
      subst hw11
      clear nw nh tx0 ty0 ex0 ey0
      replace Vi := Vi.call hb
      replace Vx := Vx.call hb
      replace Vy := Vy.call hb
      replace Vz := Vz.call hb
      replace hR := row_call hR hb
      replace K := belI_call K hb
      clear hb
      obtain ⟨Vi_0, Vi_1, Vi_2⟩ := Vi.cells
      obtain ⟨Vx_0, Vx_1, Vx_2⟩ := Vx.cells
      obtain ⟨Vy_0, Vy_1, Vy_2⟩ := Vy.cells
      obtain ⟨Vz_0, Vz_1, Vz_2⟩ := Vz.cells
      go_wp2_with fail
      clear Vi_0 Vi_1 Vi_2 Vx_0 Vx_1 Vx_2 Vy_0 Vy_1 Vy_2 Vz_0 Vz_1 Vz_2
      refine (HO1.out _ _ Vi.rd).mono ?_
      rintro e wn ⟨vn, rfl, un, hb⟩
      obtain ⟨Ao, co, he⟩ := ownI_shape un
      subst he
      have Vo := ImV.born (X := (P : Int)) (Y := (Q : Int)) hb un
      replace hb := belI_call hb (belI_box wn (.cells #[.int .i64 (P : Int), .int .i64 (Q : Int), .slice Ao La.length co] 26))
      replace Vi := Vi.call hb
      replace Vx := Vx.call hb
      replace Vy := Vy.call hb
      replace Vz := Vz.call hb
      replace hR := row_call hR hb
      replace K := belI_call K hb
      clear hb un
      obtain ⟨bVo, hbVo⟩ : ∃ b, b = wn.heap.size := ⟨_, rfl⟩
      obtain ⟨WVo, hWVo⟩ : ∃ V, V = wn.alloc (.cells #[.int .i64 (P : Int), .int .i64 (Q : Int), .slice Ao La.length co] 26) := ⟨_, rfl⟩
      rw [← hbVo, ← hWVo] at Vo
      rw [← hWVo] at hR K Vi Vx Vy Vz
      have HWVo := Lib.hid hWVo
      have HBVo := Lib.hid hbVo
      clear hWVo hbVo
      obtain ⟨Vi_0, Vi_1, Vi_2⟩ := Vi.cells
      obtain ⟨Vx_0, Vx_1, Vx_2⟩ := Vx.cells
      obtain ⟨Vy_0, Vy_1, Vy_2⟩ := Vy.cells
      obtain ⟨Vz_0, Vz_1, Vz_2⟩ := Vz.cells
      obtain ⟨Vo_0, Vo_1, Vo_2⟩ := Vo.cells
      go_upto_region 12 with fail
      rw [← HWVo.out, ← HBVo.out]
      clear HWVo HBVo
      clear Vi_0 Vi_1 Vi_2 Vx_0 Vx_1 Vx_2 Vy_0 Vy_1 Vy_2 Vz_0 Vz_1 Vz_2 Vo_0 Vo_1 Vo_2
      obtain ⟨w12, hw12⟩ : ∃ V, V = WVo := ⟨_, rfl⟩
      obtain ⟨bo, hbo⟩ : ∃ b, b = bVo := ⟨_, rfl⟩
      rw [← hw12] at Vi Vx Vy Vz Vo hR K ⊢
      rw [← hbo] at Vo ⊢
      clear hw12 hbo
      have Kw := K
      clear K
      have nw := NW.out
      have nh := NH.out
      have tx0 := TX.out
      have ty0 := TY.out
      have ex0 := EX.out
      have ey0 := EY.out
      refine wp_region_held_drew (S := fun W' => Below w12.heap.size w12 W') (by kernel_rfl) (Below.refl _ _).drew (fun hS => ?_)
      refine wpAnyH_take (i := 0) (v := .agg #[.int .i64 (D : Int), .int .i64 (E : Int), .slice Ax Lab.length cx]) rfl (by kernel_rfl) (by kernel_rfl) (by kernel_rfl) (fun _ _ _ h => h) (Or.inl ⟨by kernel_rfl, by intro w' hSw; (try dsimp only at hSw); (obtain ⟨i0, i1, i2⟩ := (Vi.call hSw).cells); (obtain ⟨x0', x1', x2'⟩ := (Vx.call hSw).cells); (obtain ⟨y0', y1', y2'⟩ := (Vy.call hSw).cells); (obtain ⟨z0', z1', z2'⟩ := (Vz.call hSw).cells); (obtain ⟨o0', o1', o2'⟩ := (Vo.call hSw).cells); go_simp⟩) (by assumption) ?_
      refine wpAnyH_take (i := 1) (v := .agg #[.int .i64 (D : Int), .int .i64 (E : Int), .slice Ay Lab.length cy]) rfl (by kernel_rfl) (by kernel_rfl) (by kernel_rfl) (fun _ _ _ h => h) (Or.inl ⟨by kernel_rfl, by intro w' hSw; (try dsimp only at hSw); (obtain ⟨i0, i1, i2⟩ := (Vi.call hSw).cells); (obtain ⟨x0', x1', x2'⟩ := (Vx.call hSw).cells); (obtain ⟨y0', y1', y2'⟩ := (Vy.call hSw).cells); (obtain ⟨z0', z1', z2'⟩ := (Vz.call hSw).cells); (obtain ⟨o0', o1', o2'⟩ := (Vo.call hSw).cells); go_simp⟩) (by assumption) ?_
      (try simp only [Act.put]); (try simp only [List.setIfInBounds_toArray]); (try simp only [List.set_cons_zero, List.set_cons_succ])
      refine wpAnyH_ready (rs := [2]) (by kernel_rfl) (by simp) ?_
      refine (AllReadyH.cons rfl (fun K hK => ?_) AllReadyH.nil)
      · rw [if_pos (by kernel_rfl)]
        (try simp only [List.getElem_toArray]); (try simp only [List.getElem_cons_succ]); (try simp only [List.getElem_cons_zero])
        go_simp
        with_reducible refine (HSX.out _ _ _ (Vx.call hS).rd (Vy.call hS).rd).mono ?_
        rintro e W' ⟨rfl, hb⟩
        dsimp only
        refine hK.out _ _ (belI_call hS hb) (fun hS => ?_)
        clear hK
        (try simp only [Act.put]); (try simp only [List.setIfInBounds_toArray]); (try simp only [List.set_cons_zero, List.set_cons_succ])
        refine wpAnyH_take (i := 3) (v := .bool true) rfl (by kernel_rfl) (by kernel_rfl) (by kernel_rfl) (fun _ _ _ h => h) (Or.inl ⟨by kernel_rfl, by intro w' hSw; (try dsimp only at hSw); (obtain ⟨i0, i1, i2⟩ := (Vi.call hSw).cells); (obtain ⟨x0', x1', x2'⟩ := (Vx.call hSw).cells); (obtain ⟨y0', y1', y2'⟩ := (Vy.call hSw).cells); (obtain ⟨z0', z1', z2'⟩ := (Vz.call hSw).cells); (obtain ⟨o0', o1', o2'⟩ := (Vo.call hSw).cells); go_simp⟩) (by assumption) ?_
        refine wpAnyH_take (i := 4) (v := .agg #[.int .i64 (W : Int), .int .i64 (H : Int), .slice Az L.length cz]) rfl (by kernel_rfl) (by kernel_rfl) (by kernel_rfl) (fun _ _ _ h => h) (Or.inl ⟨by kernel_rfl, by intro w' hSw; (try dsimp only at hSw); (obtain ⟨i0, i1, i2⟩ := (Vi.call hSw).cells); (obtain ⟨x0', x1', x2'⟩ := (Vx.call hSw).cells); (obtain ⟨y0', y1', y2'⟩ := (Vy.call hSw).cells); (obtain ⟨z0', z1', z2'⟩ := (Vz.call hSw).cells); (obtain ⟨o0', o1', o2'⟩ := (Vo.call hSw).cells); go_simp⟩) (by assumption) ?_
        refine wpAnyH_take (i := 5) (v := .agg #[.int .i64 (W : Int), .int .i64 (H : Int), .slice A L.length c]) rfl (by kernel_rfl) (by kernel_rfl) (by kernel_rfl) (fun _ _ _ h => h) (Or.inl ⟨by kernel_rfl, by intro w' hSw; (try dsimp only at hSw); (obtain ⟨i0, i1, i2⟩ := (Vi.call hSw).cells); (obtain ⟨x0', x1', x2'⟩ := (Vx.call hSw).cells); (obtain ⟨y0', y1', y2'⟩ := (Vy.call hSw).cells); (obtain ⟨z0', z1', z2'⟩ := (Vz.call hSw).cells); (obtain ⟨o0', o1', o2'⟩ := (Vo.call hSw).cells); go_simp⟩) (by assumption) ?_
        (try simp only [Act.put]); (try simp only [List.setIfInBounds_toArray]); (try simp only [List.set_cons_zero, List.set_cons_succ])
        refine wpAnyH_ready (rs := [6]) (by kernel_rfl) (by simp) ?_
        refine (AllReadyH.cons rfl (fun K hK => ?_) AllReadyH.nil)
        · rw [if_pos (by kernel_rfl)]
          (try simp only [List.getElem_toArray]); (try simp only [List.getElem_cons_succ]); (try simp only [List.getElem_cons_zero])
          go_simp
          with_reducible refine (HSZ.out _ _ _ (Vz.call hS).rd (Vi.call hS).rd).mono ?_
          rintro e W' ⟨rfl, hb⟩
          dsimp only
          refine hK.out _ _ (belI_call hS hb) (fun hS => ?_)
          clear hK
          (try simp only [Act.put]); (try simp only [List.setIfInBounds_toArray]); (try simp only [List.set_cons_zero, List.set_cons_succ])
          refine wpAnyH_take (i := 7) (v := .bool true) rfl (by kernel_rfl) (by kernel_rfl) (by kernel_rfl) (fun _ _ _ h => h) (Or.inl ⟨by kernel_rfl, by intro w' hSw; (try dsimp only at hSw); (obtain ⟨i0, i1, i2⟩ := (Vi.call hSw).cells); (obtain ⟨x0', x1', x2'⟩ := (Vx.call hSw).cells); (obtain ⟨y0', y1', y2'⟩ := (Vy.call hSw).cells); (obtain ⟨z0', z1', z2'⟩ := (Vz.call hSw).cells); (obtain ⟨o0', o1', o2'⟩ := (Vo.call hSw).cells); go_simp⟩) (by assumption) ?_
          refine wpAnyH_take (i := 8) (v := .bool true) rfl (by kernel_rfl) (by kernel_rfl) (by kernel_rfl) (fun _ _ _ h => h) (Or.inl ⟨by kernel_rfl, by intro w' hSw; (try dsimp only at hSw); (obtain ⟨i0, i1, i2⟩ := (Vi.call hSw).cells); (obtain ⟨x0', x1', x2'⟩ := (Vx.call hSw).cells); (obtain ⟨y0', y1', y2'⟩ := (Vy.call hSw).cells); (obtain ⟨z0', z1', z2'⟩ := (Vz.call hSw).cells); (obtain ⟨o0', o1', o2'⟩ := (Vo.call hSw).cells); go_simp⟩) (by assumption) ?_
          refine wpAnyH_take (i := 9) (v := .pointer (some ⟨bo, 0, none⟩)) rfl (by kernel_rfl) (by kernel_rfl) (by kernel_rfl) (fun _ _ _ h => h) (Or.inl ⟨by kernel_rfl, by intro w' hSw; (try dsimp only at hSw); (obtain ⟨i0, i1, i2⟩ := (Vi.call hSw).cells); (obtain ⟨x0', x1', x2'⟩ := (Vx.call hSw).cells); (obtain ⟨y0', y1', y2'⟩ := (Vy.call hSw).cells); (obtain ⟨z0', z1', z2'⟩ := (Vz.call hSw).cells); (obtain ⟨o0', o1', o2'⟩ := (Vo.call hSw).cells); go_simp⟩) (by assumption) ?_
          refine wpAnyH_take (i := 10) (v := .int .i64 (P : Int)) rfl (by kernel_rfl) (by kernel_rfl) (by kernel_rfl) (fun _ _ _ h => h) (Or.inl ⟨by kernel_rfl, by intro w' hSw; (try dsimp only at hSw); (obtain ⟨i0, i1, i2⟩ := (Vi.call hSw).cells); (obtain ⟨x0', x1', x2'⟩ := (Vx.call hSw).cells); (obtain ⟨y0', y1', y2'⟩ := (Vy.call hSw).cells); (obtain ⟨z0', z1', z2'⟩ := (Vz.call hSw).cells); (obtain ⟨o0', o1', o2'⟩ := (Vo.call hSw).cells); go_simp⟩) (by assumption) ?_
          refine wpAnyH_take (i := 11) (v := .int .i64 (P : Int)) rfl (by kernel_rfl) (by kernel_rfl) (by kernel_rfl) (fun _ _ _ h => h) (Or.inl ⟨by kernel_rfl, by intro w' hSw; (try dsimp only at hSw); (obtain ⟨i0, i1, i2⟩ := (Vi.call hSw).cells); (obtain ⟨x0', x1', x2'⟩ := (Vx.call hSw).cells); (obtain ⟨y0', y1', y2'⟩ := (Vy.call hSw).cells); (obtain ⟨z0', z1', z2'⟩ := (Vz.call hSw).cells); (obtain ⟨o0', o1', o2'⟩ := (Vo.call hSw).cells); go_simp⟩) (by assumption) ?_
          refine wpAnyH_take (i := 12) (v := .bool true) rfl (by kernel_rfl) (by kernel_rfl) (by kernel_rfl) (fun _ _ _ h => h) (Or.inl ⟨by kernel_rfl, by intro w' hSw; (try dsimp only at hSw); (obtain ⟨i0, i1, i2⟩ := (Vi.call hSw).cells); (obtain ⟨x0', x1', x2'⟩ := (Vx.call hSw).cells); (obtain ⟨y0', y1', y2'⟩ := (Vy.call hSw).cells); (obtain ⟨z0', z1', z2'⟩ := (Vz.call hSw).cells); (obtain ⟨o0', o1', o2'⟩ := (Vo.call hSw).cells); go_simp⟩) (by assumption) ?_
          refine wpAnyH_take (i := 13) (v := .bool true) rfl (by kernel_rfl) (by kernel_rfl) (by kernel_rfl) (fun _ _ _ h => h) (Or.inl ⟨by kernel_rfl, by intro w' hSw; (try dsimp only at hSw); (obtain ⟨i0, i1, i2⟩ := (Vi.call hSw).cells); (obtain ⟨x0', x1', x2'⟩ := (Vx.call hSw).cells); (obtain ⟨y0', y1', y2'⟩ := (Vy.call hSw).cells); (obtain ⟨z0', z1', z2'⟩ := (Vz.call hSw).cells); (obtain ⟨o0', o1', o2'⟩ := (Vo.call hSw).cells); go_simp⟩) (by assumption) ?_
          refine wpAnyH_take (i := 14) (v := .bool true) rfl (by kernel_rfl) (by kernel_rfl) (by kernel_rfl) (fun _ _ _ h => h) (Or.inl ⟨by kernel_rfl, by intro w' hSw; (try dsimp only at hSw); (obtain ⟨i0, i1, i2⟩ := (Vi.call hSw).cells); (obtain ⟨x0', x1', x2'⟩ := (Vx.call hSw).cells); (obtain ⟨y0', y1', y2'⟩ := (Vy.call hSw).cells); (obtain ⟨z0', z1', z2'⟩ := (Vz.call hSw).cells); (obtain ⟨o0', o1', o2'⟩ := (Vo.call hSw).cells); go_simp⟩) (by assumption) ?_
          refine wpAnyH_take (i := 15) (v := .pointer (some ⟨bo, 1, none⟩)) rfl (by kernel_rfl) (by kernel_rfl) (by kernel_rfl) (fun _ _ _ h => h) (Or.inl ⟨by kernel_rfl, by intro w' hSw; (try dsimp only at hSw); (obtain ⟨i0, i1, i2⟩ := (Vi.call hSw).cells); (obtain ⟨x0', x1', x2'⟩ := (Vx.call hSw).cells); (obtain ⟨y0', y1', y2'⟩ := (Vy.call hSw).cells); (obtain ⟨z0', z1', z2'⟩ := (Vz.call hSw).cells); (obtain ⟨o0', o1', o2'⟩ := (Vo.call hSw).cells); go_simp⟩) (by assumption) ?_
          refine wpAnyH_take (i := 16) (v := .int .i64 (Q : Int)) rfl (by kernel_rfl) (by kernel_rfl) (by kernel_rfl) (fun _ _ _ h => h) (Or.inl ⟨by kernel_rfl, by intro w' hSw; (try dsimp only at hSw); (obtain ⟨i0, i1, i2⟩ := (Vi.call hSw).cells); (obtain ⟨x0', x1', x2'⟩ := (Vx.call hSw).cells); (obtain ⟨y0', y1', y2'⟩ := (Vy.call hSw).cells); (obtain ⟨z0', z1', z2'⟩ := (Vz.call hSw).cells); (obtain ⟨o0', o1', o2'⟩ := (Vo.call hSw).cells); go_simp⟩) (by assumption) ?_
          refine wpAnyH_take (i := 17) (v := .int .i64 (Q : Int)) rfl (by kernel_rfl) (by kernel_rfl) (by kernel_rfl) (fun _ _ _ h => h) (Or.inl ⟨by kernel_rfl, by intro w' hSw; (try dsimp only at hSw); (obtain ⟨i0, i1, i2⟩ := (Vi.call hSw).cells); (obtain ⟨x0', x1', x2'⟩ := (Vx.call hSw).cells); (obtain ⟨y0', y1', y2'⟩ := (Vy.call hSw).cells); (obtain ⟨z0', z1', z2'⟩ := (Vz.call hSw).cells); (obtain ⟨o0', o1', o2'⟩ := (Vo.call hSw).cells); go_simp⟩) (by assumption) ?_
          refine wpAnyH_take (i := 18) (v := .bool true) rfl (by kernel_rfl) (by kernel_rfl) (by kernel_rfl) (fun _ _ _ h => h) (Or.inl ⟨by kernel_rfl, by intro w' hSw; (try dsimp only at hSw); (obtain ⟨i0, i1, i2⟩ := (Vi.call hSw).cells); (obtain ⟨x0', x1', x2'⟩ := (Vx.call hSw).cells); (obtain ⟨y0', y1', y2'⟩ := (Vy.call hSw).cells); (obtain ⟨z0', z1', z2'⟩ := (Vz.call hSw).cells); (obtain ⟨o0', o1', o2'⟩ := (Vo.call hSw).cells); go_simp⟩) (by assumption) ?_
          refine wpAnyH_take (i := 19) (v := .bool true) rfl (by kernel_rfl) (by kernel_rfl) (by kernel_rfl) (fun _ _ _ h => h) (Or.inl ⟨by kernel_rfl, by intro w' hSw; (try dsimp only at hSw); (obtain ⟨i0, i1, i2⟩ := (Vi.call hSw).cells); (obtain ⟨x0', x1', x2'⟩ := (Vx.call hSw).cells); (obtain ⟨y0', y1', y2'⟩ := (Vy.call hSw).cells); (obtain ⟨z0', z1', z2'⟩ := (Vz.call hSw).cells); (obtain ⟨o0', o1', o2'⟩ := (Vo.call hSw).cells); go_simp⟩) (by assumption) ?_
          refine wpAnyH_take (i := 20) (v := .bool true) rfl (by kernel_rfl) (by kernel_rfl) (by kernel_rfl) (fun _ _ _ h => h) (Or.inl ⟨by kernel_rfl, by intro w' hSw; (try dsimp only at hSw); (obtain ⟨i0, i1, i2⟩ := (Vi.call hSw).cells); (obtain ⟨x0', x1', x2'⟩ := (Vx.call hSw).cells); (obtain ⟨y0', y1', y2'⟩ := (Vy.call hSw).cells); (obtain ⟨z0', z1', z2'⟩ := (Vz.call hSw).cells); (obtain ⟨o0', o1', o2'⟩ := (Vo.call hSw).cells); go_simp⟩) (by assumption) ?_
          refine wpAnyH_take (i := 21) (v := .agg #[.int .i64 (P : Int), .int .i64 (Q : Int), .slice Ao La.length co]) rfl (by kernel_rfl) (by kernel_rfl) (by kernel_rfl) (fun _ _ _ h => h) (Or.inl ⟨by kernel_rfl, by intro w' hSw; (try dsimp only at hSw); (obtain ⟨i0, i1, i2⟩ := (Vi.call hSw).cells); (obtain ⟨x0', x1', x2'⟩ := (Vx.call hSw).cells); (obtain ⟨y0', y1', y2'⟩ := (Vy.call hSw).cells); (obtain ⟨z0', z1', z2'⟩ := (Vz.call hSw).cells); (obtain ⟨o0', o1', o2'⟩ := (Vo.call hSw).cells); go_simp⟩) (by assumption) ?_
          refine wpAnyH_take (i := 22) (v := .int .i64 (p0 : Int)) rfl (by kernel_rfl) (by kernel_rfl) (by kernel_rfl) (fun _ _ _ h => h) (Or.inl ⟨by kernel_rfl, by intro w' hSw; (try dsimp only at hSw); (obtain ⟨i0, i1, i2⟩ := (Vi.call hSw).cells); (obtain ⟨x0', x1', x2'⟩ := (Vx.call hSw).cells); (obtain ⟨y0', y1', y2'⟩ := (Vy.call hSw).cells); (obtain ⟨z0', z1', z2'⟩ := (Vz.call hSw).cells); (obtain ⟨o0', o1', o2'⟩ := (Vo.call hSw).cells); go_simp⟩) (by assumption) ?_
          refine wpAnyH_take (i := 23) (v := .int .i64 (q0 : Int)) rfl (by kernel_rfl) (by kernel_rfl) (by kernel_rfl) (fun _ _ _ h => h) (Or.inl ⟨by kernel_rfl, by intro w' hSw; (try dsimp only at hSw); (obtain ⟨i0, i1, i2⟩ := (Vi.call hSw).cells); (obtain ⟨x0', x1', x2'⟩ := (Vx.call hSw).cells); (obtain ⟨y0', y1', y2'⟩ := (Vy.call hSw).cells); (obtain ⟨z0', z1', z2'⟩ := (Vz.call hSw).cells); (obtain ⟨o0', o1', o2'⟩ := (Vo.call hSw).cells); go_simp⟩) (by assumption) ?_
          refine wpAnyH_take (i := 25) (v := .agg #[.int .i64 (W : Int), .int .i64 (H : Int), .slice A L.length c]) rfl (by kernel_rfl) (by kernel_rfl) (by kernel_rfl) (fun _ _ _ h => h) (Or.inl ⟨by kernel_rfl, by intro w' hSw; (try dsimp only at hSw); (obtain ⟨i0, i1, i2⟩ := (Vi.call hSw).cells); (obtain ⟨x0', x1', x2'⟩ := (Vx.call hSw).cells); (obtain ⟨y0', y1', y2'⟩ := (Vy.call hSw).cells); (obtain ⟨z0', z1', z2'⟩ := (Vz.call hSw).cells); (obtain ⟨o0', o1', o2'⟩ := (Vo.call hSw).cells); go_simp⟩) (by assumption) ?_
          refine wpAnyH_take (i := 26) (v := .slice a0 len cap) rfl (by kernel_rfl) (by kernel_rfl) (by kernel_rfl) (fun _ _ _ h => h) (Or.inl ⟨by kernel_rfl, by intro w' hSw; (try dsimp only at hSw); (obtain ⟨i0, i1, i2⟩ := (Vi.call hSw).cells); (obtain ⟨x0', x1', x2'⟩ := (Vx.call hSw).cells); (obtain ⟨y0', y1', y2'⟩ := (Vy.call hSw).cells); (obtain ⟨z0', z1', z2'⟩ := (Vz.call hSw).cells); (obtain ⟨o0', o1', o2'⟩ := (Vo.call hSw).cells); go_simp⟩) (by assumption) ?_
          refine wpAnyH_take (i := 28) (v := .pointer (some ⟨bi, 0, none⟩)) rfl (by kernel_rfl) (by kernel_rfl) (by kernel_rfl) (fun _ _ _ h => h) (Or.inl ⟨by kernel_rfl, by intro w' hSw; (try dsimp only at hSw); (obtain ⟨i0, i1, i2⟩ := (Vi.call hSw).cells); (obtain ⟨x0', x1', x2'⟩ := (Vx.call hSw).cells); (obtain ⟨y0', y1', y2'⟩ := (Vy.call hSw).cells); (obtain ⟨z0', z1', z2'⟩ := (Vz.call hSw).cells); (obtain ⟨o0', o1', o2'⟩ := (Vo.call hSw).cells); go_simp⟩) (by assumption) ?_
          refine wpAnyH_take (i := 29) (v := .int .i64 (W : Int)) rfl (by kernel_rfl) (by kernel_rfl) (by kernel_rfl) (fun _ _ _ h => h) (Or.inl ⟨by kernel_rfl, by intro w' hSw; (try dsimp only at hSw); (obtain ⟨i0, i1, i2⟩ := (Vi.call hSw).cells); (obtain ⟨x0', x1', x2'⟩ := (Vx.call hSw).cells); (obtain ⟨y0', y1', y2'⟩ := (Vy.call hSw).cells); (obtain ⟨z0', z1', z2'⟩ := (Vz.call hSw).cells); (obtain ⟨o0', o1', o2'⟩ := (Vo.call hSw).cells); go_simp⟩) (by assumption) ?_
          refine wpAnyH_take (i := 31) (v := .slice a0 len cap) rfl (by kernel_rfl) (by kernel_rfl) (by kernel_rfl) (fun _ _ _ h => h) (Or.inl ⟨by kernel_rfl, by intro w' hSw; (try dsimp only at hSw); (obtain ⟨i0, i1, i2⟩ := (Vi.call hSw).cells); (obtain ⟨x0', x1', x2'⟩ := (Vx.call hSw).cells); (obtain ⟨y0', y1', y2'⟩ := (Vy.call hSw).cells); (obtain ⟨z0', z1', z2'⟩ := (Vz.call hSw).cells); (obtain ⟨o0', o1', o2'⟩ := (Vo.call hSw).cells); go_simp⟩) (by assumption) ?_
          refine wpAnyH_take (i := 33) (v := .pointer (some ⟨bi, 1, none⟩)) rfl (by kernel_rfl) (by kernel_rfl) (by kernel_rfl) (fun _ _ _ h => h) (Or.inl ⟨by kernel_rfl, by intro w' hSw; (try dsimp only at hSw); (obtain ⟨i0, i1, i2⟩ := (Vi.call hSw).cells); (obtain ⟨x0', x1', x2'⟩ := (Vx.call hSw).cells); (obtain ⟨y0', y1', y2'⟩ := (Vy.call hSw).cells); (obtain ⟨z0', z1', z2'⟩ := (Vz.call hSw).cells); (obtain ⟨o0', o1', o2'⟩ := (Vo.call hSw).cells); go_simp⟩) (by assumption) ?_
          refine wpAnyH_take (i := 34) (v := .int .i64 (H : Int)) rfl (by kernel_rfl) (by kernel_rfl) (by kernel_rfl) (fun _ _ _ h => h) (Or.inl ⟨by kernel_rfl, by intro w' hSw; (try dsimp only at hSw); (obtain ⟨i0, i1, i2⟩ := (Vi.call hSw).cells); (obtain ⟨x0', x1', x2'⟩ := (Vx.call hSw).cells); (obtain ⟨y0', y1', y2'⟩ := (Vy.call hSw).cells); (obtain ⟨z0', z1', z2'⟩ := (Vz.call hSw).cells); (obtain ⟨o0', o1', o2'⟩ := (Vo.call hSw).cells); go_simp⟩) (by assumption) ?_
          (try simp only [Act.put]); (try simp only [List.setIfInBounds_toArray]); (try simp only [List.set_cons_zero, List.set_cons_succ])
          refine wpAnyH_ready (rs := [24]) (by kernel_rfl) (by simp) ?_
          refine (AllReadyH.cons rfl (fun K hK => ?_) AllReadyH.nil)
          · rw [if_pos (by kernel_rfl)]
            (try simp only [List.getElem_toArray]); (try simp only [List.getElem_cons_succ]); (try simp only [List.getElem_cons_zero])
            go_simp
            with_reducible refine (HX1.out _ _ (Vo.call hS).rd).mono ?_
            rintro e W' ⟨rfl, hb⟩
            dsimp only
            refine hK.out _ _ (belI_call hS hb) (fun hS => ?_)
            clear hK
            (try simp only [Act.put]); (try simp only [List.setIfInBounds_toArray]); (try simp only [List.set_cons_zero, List.set_cons_succ])
            refine wpAnyH_ready (rs := [27]) (by kernel_rfl) (by simp) ?_
            refine (AllReadyH.cons rfl (fun K hK => ?_) AllReadyH.nil)
            · rw [if_pos (by kernel_rfl)]
              (try simp only [List.getElem_toArray]); (try simp only [List.getElem_cons_succ]); (try simp only [List.getElem_cons_zero])
              go_simp
              with_reducible refine (at_val _ a0 len cap zs (row_call hR hS) 2 (by omega) (by omega)).mono ?_
              rintro e W' ⟨rfl, rfl⟩
              rw [Hv2.out]
              dsimp only
              refine hK.out _ _ (hS) (fun hS => ?_)
              clear hK
              (try simp only [Act.put]); (try simp only [List.setIfInBounds_toArray]); (try simp only [List.set_cons_zero, List.set_cons_succ])
              refine wpAnyH_take (i := 30) (v := .int .i64 (x0 : Int)) rfl (by kernel_rfl) (by kernel_rfl) (by kernel_rfl) (fun _ _ _ h => h) (Or.inl ⟨by kernel_rfl, by intro w' hSw; (try dsimp only at hSw); (obtain ⟨i0, i1, i2⟩ := (Vi.call hSw).cells); (obtain ⟨x0', x1', x2'⟩ := (Vx.call hSw).cells); (obtain ⟨y0', y1', y2'⟩ := (Vy.call hSw).cells); (obtain ⟨z0', z1', z2'⟩ := (Vz.call hSw).cells); (obtain ⟨o0', o1', o2'⟩ := (Vo.call hSw).cells); go_simp⟩) (by assumption) ?_
              (try simp only [Act.put]); (try simp only [List.setIfInBounds_toArray]); (try simp only [List.set_cons_zero, List.set_cons_succ])
              refine wpAnyH_ready (rs := [32]) (by kernel_rfl) (by simp) ?_
              refine (AllReadyH.cons rfl (fun K hK => ?_) AllReadyH.nil)
              · rw [if_pos (by kernel_rfl)]
                (try simp only [List.getElem_toArray]); (try simp only [List.getElem_cons_succ]); (try simp only [List.getElem_cons_zero])
                go_simp
                with_reducible refine (at_val _ a0 len cap zs (row_call hR hS) 3 (by omega) (by omega)).mono ?_
                rintro e W' ⟨rfl, rfl⟩
                rw [Hv3.out]
                dsimp only
                refine hK.out _ _ (hS) (fun hS => ?_)
                clear hK
                (try simp only [Act.put]); (try simp only [List.setIfInBounds_toArray]); (try simp only [List.set_cons_zero, List.set_cons_succ])
                refine wpAnyH_take (i := 35) (v := .int .i64 (y0 : Int)) rfl (by kernel_rfl) (by kernel_rfl) (by kernel_rfl) (fun _ _ _ h => h) (Or.inl ⟨by kernel_rfl, by intro w' hSw; (try dsimp only at hSw); (obtain ⟨i0, i1, i2⟩ := (Vi.call hSw).cells); (obtain ⟨x0', x1', x2'⟩ := (Vx.call hSw).cells); (obtain ⟨y0', y1', y2'⟩ := (Vy.call hSw).cells); (obtain ⟨z0', z1', z2'⟩ := (Vz.call hSw).cells); (obtain ⟨o0', o1', o2'⟩ := (Vo.call hSw).cells); go_simp⟩) (by assumption) ?_
                (try simp only [Act.put]); (try simp only [List.setIfInBounds_toArray]); (try simp only [List.set_cons_zero, List.set_cons_succ])
                refine wpAnyH_ready (rs := [36]) (by kernel_rfl) (by simp) ?_
                refine (AllReadyH.cons rfl (fun K hK => ?_) AllReadyH.nil)
                · rw [if_pos (by kernel_rfl)]
                  (try simp only [List.getElem_toArray]); (try simp only [List.getElem_cons_succ]); (try simp only [List.getElem_cons_zero])
                  go_simp
                  with_reducible refine (HX2.out _ _ (Vi.call hS).rd).mono ?_
                  rintro e W' ⟨rfl, hb⟩
                  dsimp only
                  refine hK.out _ _ (belI_call hS hb) (fun hS => ?_)
                  clear hK
                  (try simp only [Act.put]); (try simp only [List.setIfInBounds_toArray]); (try simp only [List.set_cons_zero, List.set_cons_succ])
                  refine wpAnyH_take (i := 37) (v := .bool true) rfl (by kernel_rfl) (by kernel_rfl) (by kernel_rfl) (fun _ _ _ h => h) (Or.inl ⟨by kernel_rfl, by intro w' hSw; (try dsimp only at hSw); (obtain ⟨i0, i1, i2⟩ := (Vi.call hSw).cells); (obtain ⟨x0', x1', x2'⟩ := (Vx.call hSw).cells); (obtain ⟨y0', y1', y2'⟩ := (Vy.call hSw).cells); (obtain ⟨z0', z1', z2'⟩ := (Vz.call hSw).cells); (obtain ⟨o0', o1', o2'⟩ := (Vo.call hSw).cells); go_simp⟩) (by assumption) ?_
                  refine wpAnyH_take (i := 38) (v := .bool true) rfl (by kernel_rfl) (by kernel_rfl) (by kernel_rfl) (fun _ _ _ h => h) (Or.inl ⟨by kernel_rfl, by intro w' hSw; (try dsimp only at hSw); (obtain ⟨i0, i1, i2⟩ := (Vi.call hSw).cells); (obtain ⟨x0', x1', x2'⟩ := (Vx.call hSw).cells); (obtain ⟨y0', y1', y2'⟩ := (Vy.call hSw).cells); (obtain ⟨z0', z1', z2'⟩ := (Vz.call hSw).cells); (obtain ⟨o0', o1', o2'⟩ := (Vo.call hSw).cells); go_simp⟩) (by assumption) ?_
                  refine wpAnyH_take (i := 39) (v := .bool true) rfl (by kernel_rfl) (by kernel_rfl) (by kernel_rfl) (fun _ _ _ h => h) (Or.inl ⟨by kernel_rfl, by intro w' hSw; (try dsimp only at hSw); (obtain ⟨i0, i1, i2⟩ := (Vi.call hSw).cells); (obtain ⟨x0', x1', x2'⟩ := (Vx.call hSw).cells); (obtain ⟨y0', y1', y2'⟩ := (Vy.call hSw).cells); (obtain ⟨z0', z1', z2'⟩ := (Vz.call hSw).cells); (obtain ⟨o0', o1', o2'⟩ := (Vo.call hSw).cells); go_simp⟩) (by assumption) ?_
                  refine wpAnyH_done (by kernel_rfl) ?_ _
                  have Kf := belI_call Kw hS
                  go_wp2_with fail
                  go_ret
                  exact ⟨rfl, Kf⟩
end Go.Proofs.Ytmjndoedchiggaa
