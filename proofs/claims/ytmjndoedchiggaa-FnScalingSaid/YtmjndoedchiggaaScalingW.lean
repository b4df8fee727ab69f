/- The walk of the law FnScaling: it returns true for every code. -/
import Derived.Test.YtmjndoedchiggaaMA
import Derived.Test.YtmjndoedchiggaaImR
import Derived.Test.YtmjndoedchiggaaImO
import Derived.Test.YtmjndoedchiggaaImL
import Derived.Test.YtmjndoedchiggaaImC
import Derived.Test.YtmjndoedchiggaaImM
import Derived.Test.YtmjndoedchiggaaImV
import Derived.Test.YtmjndoedchiggaaCpyB
import Derived.Test.YtmjndoedchiggaaCpyI
import Derived.Test.YtmjndoedchiggaaFilB
import Derived.Test.YtmjndoedchiggaaDifB
import Derived.Test.YtmjndoedchiggaaCrpB
import Derived.Test.YtmjndoedchiggaaSameIm
import Derived.Test.YtmjndoedchiggaaLaw
import Derived.Test.YtmjndoedchiggaaDrwI
import Derived.Test.YtmjndoedchiggaaOriC
import Derived.Test.YtmjndoedchiggaaOriQ
import Derived.Test.YtmjndoedchiggaaOrdB
import Derived.Test.YtmjndoedchiggaaOrdS
import Derived.Test.YtmjndoedchiggaaOrdI
import Derived.Test.YtmjndoedchiggaaOrdA
import Derived.Test.YtmjndoedchiggaaSclB
import Derived.Test.YtmjndoedchiggaaSclI
import Derived.Test.YtmjndoedchiggaaSclL
import Derived.Test.YtmjndoedchiggaaProg
import Derived.WalkKit
import Derived.ProofKit
import Derived.OpenShut
import Derived.WalkLawsBesides
import Derived.WalkSpells
import Derived.ShutString
import Derived.ChangeOld
import Derived.Below
import Derived.Lib.Hide
import Derived.BigQuiet
import Derived.Deep.QuietTactic
import Derived.Maps.AppendAt
import Derived.Handy
import Derived.Deep.OwnRows
import Derived.Laws.BitsAllLaws
import Derived.Lib.QuoteBits
import Derived.Deep.Draws
import Derived.OwnWalk
import Derived.Deep.AppendLies
import Derived.Deep.LoopGhost
import Derived.Deep.Onto
import Derived.Test.YtmjndoedchiggaaShelf
import Derived.Laws.CopyOwn
import Derived.Deep.RegionLaw
import Derived.Deep.RegionHeld3
import Derived.Deep.DeepCutAuto
import Derived.Great.BuildSlice
import Derived.Deep.MidRow
import Derived.Deep.WholeRow
import Derived.Laws.AppendOwn
namespace Go.Proofs.Ytmjndoedchiggaa
open Go.RowKit
set_option maxHeartbeats 4000000 in
set_option maxRecDepth 10000 in
theorem walk_FnScaling (a0 : Option Addr) (len cap : Nat) (zs : List Int) (w : World) (hrow : IsRow .u8 w a0 len cap zs) :
    Calls Try.prog 9 #[.slice a0 len cap] w fun e w' => e = .returned (.bool true) ∧ Below w.heap.size w w' := by
  by_cases hbig : len ≤ 1048576
  rotate_left
  · go_enter Try.func9, Try.ntmps9
    go_wp2_with fail
    refine (big_yes _ _ _ _ (by omega)).mono ?_
    rintro e w1 ⟨rfl, rfl⟩
    go_wp2_with fail
    go_ret
    exact ⟨rfl, Below.refl _ _⟩
  go_enter Try.func9, Try.ntmps9
  go_wp2_with fail
  refine (big_no _ _ _ _ hbig).mono ?_
  rintro e w1 ⟨rfl, rfl⟩
  go_wp2_with fail
  refine (drawImage_any _ _ _ _ zs hrow).mono ?_
  rintro e w1 ⟨X, Y, L, v, rfl, ho, hX, hY, hown, K⟩
  obtain ⟨W, H, rfl, rfl, wl, wh, hl, hh, hL⟩ := im_nat ho
  clear hL
  obtain ⟨A, c, he⟩ := ownI_shape hown
  subst he
  have hR := row_call hrow K
  have Vi := ImV.born (X := (W : Int)) (Y := (H : Int)) K hown
  replace K := belI_call K (belI_box w1 (.cells #[.int .i64 (W : Int), .int .i64 (H : Int), .slice A L.length c] 26))
  replace hR := row_call hR (belI_box w1 (.cells #[.int .i64 (W : Int), .int .i64 (H : Int), .slice A L.length c] 26))
  obtain ⟨bi, hbi⟩ : ∃ b, b = w1.heap.size := ⟨_, rfl⟩
  obtain ⟨wi, hwi⟩ : ∃ V, V = w1.alloc (.cells #[.int .i64 (W : Int), .int .i64 (H : Int), .slice A L.length c] 26) := ⟨_, rfl⟩
  rw [← hbi, ← hwi] at Vi
  rw [← hwi] at K hR
  have HWi := Lib.hid hwi
  have HBi := Lib.hid hbi
  clear hrow hbig hown hwi hbi
  obtain ⟨Vi_0, Vi_1, Vi_2⟩ := Vi.cells
  go_wp2_with fail
  rw [← HWi.out]
  clear Vi_0 Vi_1 Vi_2
  rw [← HBi.out]
  clear HWi HBi
  refine (at_val _ a0 len cap zs hR 0 (by omega) (by omega)).mono ?_
  rintro e w' ⟨rfl, rfl⟩
  obtain ⟨Vi_0, Vi_1, Vi_2⟩ := Vi.cells
  have hd0 := atV_bd rfl hR 0
  have hd1 := atV_bd rfl hR 1
  obtain ⟨v0, hv0⟩ : ∃ v, atV len zs 0 = v := ⟨_, rfl⟩
  obtain ⟨v1, hv1⟩ : ∃ v, atV len zs 1 = v := ⟨_, rfl⟩
  rw [hv0] at hd0 ⊢
  rw [hv1] at hd1
  have Hv1 := Lib.hid hv1
  clear hv0 hv1
  obtain ⟨c0, c1⟩ := hd0
  have Hd1 := Lib.hid hd1
  clear hd1
  obtain ⟨k, hk⟩ : ∃ k : Nat, 1 + v0 % 2 = (k : Int) := ⟨(1 + v0 % 2).toNat, by omega⟩
  have k12 : 1 ≤ k ∧ k ≤ 2 := by omega
  go_upto_region 5 with fail
  clear Vi_0 Vi_1 Vi_2
  try rw [hk]
  clear c0 c1 hk
  -- the sizes
  obtain ⟨D, hD⟩ : ∃ d, d = k * W := ⟨_, rfl⟩
  obtain ⟨E, hE⟩ : ∃ d, d = k * H := ⟨_, rfl⟩
  obtain ⟨Lu, hLu⟩ : ∃ M, M = tabI (D * E) (rsF sclN W H D E L) := ⟨_, rfl⟩
  have hW8 : W ≤ 8 := by omega
  have hH8 : H ≤ 8 := by omega
  have hD16 : D ≤ 16 := by rw [hD]; exact Nat.mul_le_mul k12.2 hW8
  have hE16 : E ≤ 16 := by rw [hE]; exact Nat.mul_le_mul k12.2 hH8
  have hD1 : W ≤ D := by rw [hD]; exact Nat.le_mul_of_pos_left _ (by omega)
  have hE1 : H ≤ E := by rw [hE]; exact Nat.le_mul_of_pos_left _ (by omega)
  have sD : szOk D E := by unfold szOk; omega
  have oD : imOk (D : Int) (E : Int) Lu := by rw [hLu]; exact rs_valid scl_ok ho sD
  have m1 : rsIm sclN (W : Int) (H : Int) L (D : Int) (E : Int) = ⟨D, E, Lu⟩ := by rw [rs_yes sclN ho sD, hLu]
  have m2 : rsIm sclN (D : Int) (E : Int) Lu (W : Int) (H : Int) = ⟨W, H, L⟩ := by
    rw [rs_yes sclN oD ho.1, hLu, hD, hE, rs_back ho k12.1]
  have m3 : rsIm sclN (W : Int) (H : Int) L (W : Int) (H : Int) = ⟨W, H, L⟩ := rs_self (fun f k h => sclN_self (by omega)) ho
  have m4 : rsIm tilN (W : Int) (H : Int) L (W : Int) (H : Int) = ⟨W, H, L⟩ := rs_self (fun f k h => tilN_self h) ho
  have HO1 : Hid (∀ (V : World) (u : Value), RdI V u L → Calls Try.prog 44 #[.agg #[.int .i64 (W : Int), .int .i64 (H : Int), u], .int .i64 (D : Int), .int .i64 (E : Int)] V (ImAns (D : Int) (E : Int) Lu V)) := Lib.hid (fun V u h => by have h2 := sclI_any (W : Int) (H : Int) (D : Int) (E : Int) u L V h; rw [m1] at h2; exact h2)
  have HO2 : Hid (∀ (V : World) (u : Value), RdI V u Lu → Calls Try.prog 44 #[.agg #[.int .i64 (D : Int), .int .i64 (E : Int), u], .int .i64 (W : Int), .int .i64 (H : Int)] V (ImAns (W : Int) (H : Int) L V)) := Lib.hid (fun V u h => by have h2 := sclI_any (D : Int) (E : Int) (W : Int) (H : Int) u Lu V h; rw [m2] at h2; exact h2)
  have HO3 : Hid (∀ (V : World) (u : Value), RdI V u L → Calls Try.prog 44 #[.agg #[.int .i64 (W : Int), .int .i64 (H : Int), u], .int .i64 (W : Int), .int .i64 (H : Int)] V (ImAns (W : Int) (H : Int) L V)) := Lib.hid (fun V u h => by have h2 := sclI_any (W : Int) (H : Int) (W : Int) (H : Int) u L V h; rw [m3] at h2; exact h2)
  have HO4 : Hid (∀ (V : World) (u : Value), RdI V u L → Calls Try.prog 46 #[.agg #[.int .i64 (W : Int), .int .i64 (H : Int), u], .int .i64 (W : Int), .int .i64 (H : Int)] V (ImAns (W : Int) (H : Int) L V)) := Lib.hid (fun V u h => by have h2 := tilI_any (W : Int) (H : Int) (W : Int) (H : Int) u L V h; rw [m4] at h2; exact h2)
  have HSZ : Hid (∀ (V : World) (u z : Value), RdI V u L → RdI V z L → Calls Try.prog 20 #[.agg #[.int .i64 (W : Int), .int .i64 (H : Int), u], .agg #[.int .i64 (W : Int), .int .i64 (H : Int), z]] V (fun e w' => e = .returned (.bool true) ∧ Below V.heap.size V w')) := Lib.hid (fun V u z h1 h2 => by have h := sameIL (W : Int) (H : Int) u L (W : Int) (H : Int) z L V h1 h2; unfold SameMAns at h; rw [sameM_yes] at h; exact h)
  have hr0 : 0 ≤ v1 % (D : Int) ∧ v1 % (D : Int) < (D : Int) := ⟨Int.emod_nonneg _ (by omega), Int.emod_lt_of_pos _ (by omega)⟩
  obtain ⟨r0, hr⟩ : ∃ x : Nat, v1 % (D : Int) = (x : Int) := ⟨(v1 % (D : Int)).toNat, by omega⟩
  have hrD : r0 < D := by omega
  have tr0 : Int.tmod v1 (D : Int) = (r0 : Int) := by rw [Int.tmod_eq_emod_of_nonneg Hd1.out.1, hr]
  obtain ⟨u0, hu0⟩ : ∃ u, u = sclN W D r0 := ⟨_, rfl⟩
  have hul : (u0 : Int) ≤ (W : Int) - 1 := by have h := sclN_lt (f := W) wl hrD; omega
  have hu00 : (0 : Int) ≤ (u0 : Int) := by omega
  have HU : Hid (∀ V : World, Calls Try.prog 45 #[.int .i64 (W : Int), .int .i64 (D : Int), .int .i64 (r0 : Int)] V fun e w' => e = .returned (.int .i64 (u0 : Int)) ∧ V = w') := Lib.hid (fun V => by have h := scI_yes ⟨wl, wh⟩ ⟨Nat.le_trans wl hD1, hD16⟩ hrD V; rw [← hu0] at h; exact h)
  have HV : Hid (∀ V : World, Calls Try.prog 45 #[.int .i64 (W : Int), .int .i64 (D : Int), .int .i64 ((D : Int) - 1)] V fun e w' => e = .returned (.int .i64 ((W : Int) - 1)) ∧ V = w') := Lib.hid (fun V => by
    have h := scI_yes (f := W) (t := D) (k := D - 1) ⟨wl, wh⟩ ⟨Nat.le_trans wl hD1, hD16⟩ (by omega) V
    rw [show sclN W D (D - 1) = W - 1 by rw [hD]; exact sclN_last wl k12.1, show ((D - 1 : Nat) : Int) = (D : Int) - 1 by omega, show ((W - 1 : Nat) : Int) = (W : Int) - 1 by omega] at h
    exact h)
  unfold ImAns at HO1 HO2 HO3 HO4
  have eD : (k : Int) * (W : Int) = (D : Int) := by rw [hD]; simp
  have eE : (k : Int) * (H : Int) = (E : Int) := by rw [hE]; simp
  have wD := wrap_in (D : Int) (by omega) (by omega)
  have wW := wrap_in ((W : Int) - 1) (by omega) (by omega)
  have nd : ¬ D = 0 := by omega
  have ND := Lib.hid nd
  have TR := Lib.hid tr0
  have ER := Lib.hid hr
  clear hD hE hLu oD sD m1 m2 m3 m4 hr0 hr hrD tr0 hu0 ho nd hX hY
  obtain ⟨Vi_0, Vi_1, Vi_2⟩ := Vi.cells
  go_wp2_with fail
  clear Vi_0 Vi_1 Vi_2
  refine (HO1.out _ _ Vi.rd).mono ?_
  rintro e wn ⟨vn, rfl, un, hb⟩
  obtain ⟨Ax, cx, he⟩ := ownI_shape un
  subst he
  have Vx := ImV.born (X := (D : Int)) (Y := (E : Int)) hb un
  replace hb := belI_call hb (belI_box wn (.cells #[.int .i64 (D : Int), .int .i64 (E : Int), .slice Ax Lu.length cx] 26))
  replace Vi := Vi.call hb
  replace hR := row_call hR hb
  replace K := belI_call K hb
  clear hb un
  obtain ⟨bVx, hbVx⟩ : ∃ b, b = wn.heap.size := ⟨_, rfl⟩
  obtain ⟨WVx, hWVx⟩ : ∃ V, V = wn.alloc (.cells #[.int .i64 (D : Int), .int .i64 (E : Int), .slice Ax Lu.length cx] 26) := ⟨_, rfl⟩
  rw [← hbVx, ← hWVx] at Vx
  rw [← hWVx] at hR K Vi
  have HWVx := Lib.hid hWVx
  have HBVx := Lib.hid hbVx
  clear hWVx hbVx
  go_upto_region 6 with fail
  rw [← HWVx.out, ← HBVx.out]
  clear HWVx HBVx
  obtain ⟨Vi_0, Vi_1, Vi_2⟩ := Vi.cells
  obtain ⟨Vx_0, Vx_1, Vx_2⟩ := Vx.cells
  go_wp2_with fail
  clear Vi_0 Vi_1 Vi_2 Vx_0 Vx_1 Vx_2
  refine (HO2.out _ _ Vx.rd).mono ?_
  rintro e wn ⟨vn, rfl, un, hb⟩
  obtain ⟨Ay, cy, he⟩ := ownI_shape un
  subst he
  have Vy := ImV.born (X := (W : Int)) (Y := (H : Int)) hb un
  replace hb := belI_call hb (belI_box wn (.cells #[.int .i64 (W : Int), .int .i64 (H : Int), .slice Ay L.length cy] 26))
  replace Vi := Vi.call hb
  replace Vx := Vx.call hb
  replace hR := row_call hR hb
  replace K := belI_call K hb
  clear hb un
  obtain ⟨bVy, hbVy⟩ : ∃ b, b = wn.heap.size := ⟨_, rfl⟩
  obtain ⟨WVy, hWVy⟩ : ∃ V, V = wn.alloc (.cells #[.int .i64 (W : Int), .int .i64 (H : Int), .slice Ay L.length cy] 26) := ⟨_, rfl⟩
  rw [← hbVy, ← hWVy] at Vy
  rw [← hWVy] at hR K Vi Vx
  have HWVy := Lib.hid hWVy
  have HBVy := Lib.hid hbVy
  clear hWVy hbVy
  obtain ⟨Vi_0, Vi_1, Vi_2⟩ := Vi.cells
  go_upto_region 7 with fail
  rw [← HWVy.out, ← HBVy.out]
  clear HWVy HBVy
  clear Vi_0 Vi_1 Vi_2
  obtain ⟨w7, hw7⟩ : ∃ V, V = WVy := ⟨_, rfl⟩
  rw [← hw7] at Vi Vx Vy hR K ⊢
  clear hw7
  have nd := ND.out
  have tr0 := TR.out
  have er0 := ER.out
  go_cut [7] (fun s7 wx => s7 = .int .i64 (u0 : Int) ∧ Below w7.heap.size w7 wx)
  case first =>
    refine wp_region_held_drew (S := fun W' => Below w7.heap.size w7 W') (by kernel_rfl) (Below.refl _ _).drew (fun hS => ?_)
    refine wpAnyH_take (i := 0) (v := .pointer (some ⟨bi, 0, none⟩)) rfl (by kernel_rfl) (by kernel_rfl) (by kernel_rfl) (fun _ _ _ h => h) (Or.inl ⟨by kernel_rfl, by intro w' hSw; (try dsimp only at hSw); (obtain ⟨i0, i1, i2⟩ := (Vi.call hSw).cells); go_simp⟩) (by assumption) ?_
    refine wpAnyH_take (i := 1) (v := .int .i64 (W : Int)) rfl (by kernel_rfl) (by kernel_rfl) (by kernel_rfl) (fun _ _ _ h => h) (Or.inl ⟨by kernel_rfl, by intro w' hSw; (try dsimp only at hSw); (obtain ⟨i0, i1, i2⟩ := (Vi.call hSw).cells); go_simp⟩) (by assumption) ?_
    refine wpAnyH_take (i := 2) (v := .int .i64 (k : Int)) rfl (by kernel_rfl) (by kernel_rfl) (by kernel_rfl) (fun _ _ _ h => h) (Or.inl ⟨by kernel_rfl, by intro w' hSw; (try dsimp only at hSw); (obtain ⟨i0, i1, i2⟩ := (Vi.call hSw).cells); go_simp⟩) (by assumption) ?_
    refine wpAnyH_take (i := 3) (v := .pointer (some ⟨bi, 0, none⟩)) rfl (by kernel_rfl) (by kernel_rfl) (by kernel_rfl) (fun _ _ _ h => h) (Or.inl ⟨by kernel_rfl, by intro w' hSw; (try dsimp only at hSw); (obtain ⟨i0, i1, i2⟩ := (Vi.call hSw).cells); go_simp⟩) (by assumption) ?_
    refine wpAnyH_take (i := 4) (v := .int .i64 (W : Int)) rfl (by kernel_rfl) (by kernel_rfl) (by kernel_rfl) (fun _ _ _ h => h) (Or.inl ⟨by kernel_rfl, by intro w' hSw; (try dsimp only at hSw); (obtain ⟨i0, i1, i2⟩ := (Vi.call hSw).cells); go_simp⟩) (by assumption) ?_
    refine wpAnyH_take (i := 5) (v := .int .i64 (D : Int)) rfl (by kernel_rfl) (by kernel_rfl) (by kernel_rfl) (fun _ _ _ h => h) (Or.inl ⟨by kernel_rfl, by intro w' hSw; (try dsimp only at hSw); (obtain ⟨i0, i1, i2⟩ := (Vi.call hSw).cells); go_simp⟩) (by assumption) ?_
    refine wpAnyH_take (i := 6) (v := .slice a0 len cap) rfl (by kernel_rfl) (by kernel_rfl) (by kernel_rfl) (fun _ _ _ h => h) (Or.inl ⟨by kernel_rfl, by intro w' hSw; (try dsimp only at hSw); (obtain ⟨i0, i1, i2⟩ := (Vi.call hSw).cells); go_simp⟩) (by assumption) ?_
    refine wpAnyH_take (i := 8) (v := .int .i64 (k : Int)) rfl (by kernel_rfl) (by kernel_rfl) (by kernel_rfl) (fun _ _ _ h => h) (Or.inl ⟨by kernel_rfl, by intro w' hSw; (try dsimp only at hSw); (obtain ⟨i0, i1, i2⟩ := (Vi.call hSw).cells); go_simp⟩) (by assumption) ?_
    refine wpAnyH_take (i := 9) (v := .pointer (some ⟨bi, 0, none⟩)) rfl (by kernel_rfl) (by kernel_rfl) (by kernel_rfl) (fun _ _ _ h => h) (Or.inl ⟨by kernel_rfl, by intro w' hSw; (try dsimp only at hSw); (obtain ⟨i0, i1, i2⟩ := (Vi.call hSw).cells); go_simp⟩) (by assumption) ?_
    refine wpAnyH_take (i := 10) (v := .int .i64 (W : Int)) rfl (by kernel_rfl) (by kernel_rfl) (by kernel_rfl) (fun _ _ _ h => h) (Or.inl ⟨by kernel_rfl, by intro w' hSw; (try dsimp only at hSw); (obtain ⟨i0, i1, i2⟩ := (Vi.call hSw).cells); go_simp⟩) (by assumption) ?_
    refine wpAnyH_take (i := 11) (v := .int .i64 (D : Int)) rfl (by kernel_rfl) (by kernel_rfl) (by kernel_rfl) (fun _ _ _ h => h) (Or.inl ⟨by kernel_rfl, by intro w' hSw; (try dsimp only at hSw); (obtain ⟨i0, i1, i2⟩ := (Vi.call hSw).cells); go_simp⟩) (by assumption) ?_
    (try simp only [Act.put]); (try simp only [List.setIfInBounds_toArray]); (try simp only [List.set_cons_zero, List.set_cons_succ])
    refine wpAnyH_ready (rs := [7]) (by kernel_rfl) (by simp) ?_
    refine (AllReadyH.cons rfl (fun K hK => ?_) AllReadyH.nil)
    · rw [if_pos (by kernel_rfl)]
      (try simp only [List.getElem_toArray]); (try simp only [List.getElem_cons_succ]); (try simp only [List.getElem_cons_zero])
      go_simp
      with_reducible refine (at_val _ a0 len cap zs (row_call hR hS) 1 (by omega) (by omega)).mono ?_
      rintro e W' ⟨rfl, rfl⟩
      rw [Hv1.out]
      dsimp only
      refine hK.out _ _ (hS) (fun hS => ?_)
      clear hK
      (try simp only [Act.put]); (try simp only [List.setIfInBounds_toArray]); (try simp only [List.set_cons_zero, List.set_cons_succ])
      refine wpAnyH_take (i := 12) (v := .int .i64 (r0 : Int)) rfl (by kernel_rfl) (by kernel_rfl) (by kernel_rfl) (fun _ _ _ h => h) (Or.inl ⟨by kernel_rfl, by intro w' hSw; (try dsimp only at hSw); (obtain ⟨i0, i1, i2⟩ := (Vi.call hSw).cells); go_simp⟩) (by assumption) ?_
      (try simp only [Act.put]); (try simp only [List.setIfInBounds_toArray]); (try simp only [List.set_cons_zero, List.set_cons_succ])
      refine wpAnyH_ready (rs := [13]) (by kernel_rfl) (by simp) ?_
      refine (AllReadyH.cons rfl (fun K hK => ?_) AllReadyH.nil)
      · rw [if_pos (by kernel_rfl)]
        (try simp only [List.getElem_toArray]); (try simp only [List.getElem_cons_succ]); (try simp only [List.getElem_cons_zero])
        go_simp
        with_reducible refine (HU.out _).mono ?_
        rintro e W' ⟨rfl, rfl⟩
        dsimp only
        refine hK.out _ _ (hS) (fun hS => ?_)
        clear hK
        (try simp only [Act.put]); (try simp only [List.setIfInBounds_toArray]); (try simp only [List.set_cons_zero, List.set_cons_succ])
        refine wpAnyH_take (i := 14) (v := .int .i64 (u0 : Int)) rfl (by kernel_rfl) (by kernel_rfl) (by kernel_rfl) (fun _ _ _ h => h) (Or.inl ⟨by kernel_rfl, by intro w' hSw; (try dsimp only at hSw); (obtain ⟨i0, i1, i2⟩ := (Vi.call hSw).cells); go_simp⟩) (by assumption) ?_
        refine wpAnyH_done (by kernel_rfl) ?_ _
        go_wp2_with fail
        go_meet
        case rel => exact ⟨rfl, hS⟩
  case rest =>
    obtain ⟨rfl, hb⟩ := hcut
    obtain ⟨w8, hw8⟩ : ∃ V, V = wc := ⟨_, rfl⟩
    subst hw8
    clear nd tr0 er0
    replace Vi := Vi.call hb
    replace Vx := Vx.call hb
    replace Vy := Vy.call hb
    replace hR := row_call hR hb
    replace K := belI_call K hb
    clear hb
    obtain ⟨Vi_0, Vi_1, Vi_2⟩ := Vi.cells
    go_wp2_with fail
    refine (HV.out _).mono ?_
    rintro e w' ⟨rfl, rfl⟩
    go_upto_region 9 with fail
    clear Vi_0 Vi_1 Vi_2
    obtain ⟨w9, hw9⟩ : ∃ V, V = w8 := ⟨_, rfl⟩
    rw [← hw9] at Vi Vx Vy hR K ⊢
    clear hw9
    have Kw := K
    clear K
    refine wp_region_held_drew (S := fun W' => Below w9.heap.size w9 W') (by kernel_rfl) (Below.refl _ _).drew (fun hS => ?_)
    refine wpAnyH_take (i := 0) (v := .agg #[.int .i64 (W : Int), .int .i64 (H : Int), .slice Ay L.length cy]) rfl (by kernel_rfl) (by kernel_rfl) (by kernel_rfl) (fun _ _ _ h => h) (Or.inl ⟨by kernel_rfl, by intro w' hSw; (try dsimp only at hSw); (obtain ⟨i0, i1, i2⟩ := (Vi.call hSw).cells); (obtain ⟨y0', y1', y2'⟩ := (Vy.call hSw).cells); go_simp⟩) (by assumption) ?_
    refine wpAnyH_take (i := 1) (v := .agg #[.int .i64 (W : Int), .int .i64 (H : Int), .slice A L.length c]) rfl (by kernel_rfl) (by kernel_rfl) (by kernel_rfl) (fun _ _ _ h => h) (Or.inl ⟨by kernel_rfl, by intro w' hSw; (try dsimp only at hSw); (obtain ⟨i0, i1, i2⟩ := (Vi.call hSw).cells); (obtain ⟨y0', y1', y2'⟩ := (Vy.call hSw).cells); go_simp⟩) (by assumption) ?_
    (try simp only [Act.put]); (try simp only [List.setIfInBounds_toArray]); (try simp only [List.set_cons_zero, List.set_cons_succ])
    refine wpAnyH_ready (rs := [2]) (by kernel_rfl) (by simp) ?_
    refine (AllReadyH.cons rfl (fun K hK => ?_) AllReadyH.nil)
    · rw [if_pos (by kernel_rfl)]
      (try simp only [List.getElem_toArray]); (try simp only [List.getElem_cons_succ]); (try simp only [List.getElem_cons_zero])
      go_simp
      with_reducible refine (HSZ.out _ _ _ (Vy.call hS).rd (Vi.call hS).rd).mono ?_
      rintro e W' ⟨rfl, hb⟩
      dsimp only
      refine hK.out _ _ (belI_call hS hb) (fun hS => ?_)
      clear hK
      (try simp only [Act.put]); (try simp only [List.setIfInBounds_toArray]); (try simp only [List.set_cons_zero, List.set_cons_succ])
      refine wpAnyH_take (i := 3) (v := .bool true) rfl (by kernel_rfl) (by kernel_rfl) (by kernel_rfl) (fun _ _ _ h => h) (Or.inl ⟨by kernel_rfl, by intro w' hSw; (try dsimp only at hSw); (obtain ⟨i0, i1, i2⟩ := (Vi.call hSw).cells); (obtain ⟨y0', y1', y2'⟩ := (Vy.call hSw).cells); go_simp⟩) (by assumption) ?_
      refine wpAnyH_take (i := 4) (v := .agg #[.int .i64 (W : Int), .int .i64 (H : Int), .slice A L.length c]) rfl (by kernel_rfl) (by kernel_rfl) (by kernel_rfl) (fun _ _ _ h => h) (Or.inl ⟨by kernel_rfl, by intro w' hSw; (try dsimp only at hSw); (obtain ⟨i0, i1, i2⟩ := (Vi.call hSw).cells); (obtain ⟨y0', y1', y2'⟩ := (Vy.call hSw).cells); go_simp⟩) (by assumption) ?_
      refine wpAnyH_take (i := 5) (v := .pointer (some ⟨bi, 0, none⟩)) rfl (by kernel_rfl) (by kernel_rfl) (by kernel_rfl) (fun _ _ _ h => h) (Or.inl ⟨by kernel_rfl, by intro w' hSw; (try dsimp only at hSw); (obtain ⟨i0, i1, i2⟩ := (Vi.call hSw).cells); (obtain ⟨y0', y1', y2'⟩ := (Vy.call hSw).cells); go_simp⟩) (by assumption) ?_
      refine wpAnyH_take (i := 6) (v := .int .i64 (W : Int)) rfl (by kernel_rfl) (by kernel_rfl) (by kernel_rfl) (fun _ _ _ h => h) (Or.inl ⟨by kernel_rfl, by intro w' hSw; (try dsimp only at hSw); (obtain ⟨i0, i1, i2⟩ := (Vi.call hSw).cells); (obtain ⟨y0', y1', y2'⟩ := (Vy.call hSw).cells); go_simp⟩) (by assumption) ?_
      refine wpAnyH_take (i := 7) (v := .pointer (some ⟨bi, 1, none⟩)) rfl (by kernel_rfl) (by kernel_rfl) (by kernel_rfl) (fun _ _ _ h => h) (Or.inl ⟨by kernel_rfl, by intro w' hSw; (try dsimp only at hSw); (obtain ⟨i0, i1, i2⟩ := (Vi.call hSw).cells); (obtain ⟨y0', y1', y2'⟩ := (Vy.call hSw).cells); go_simp⟩) (by assumption) ?_
      refine wpAnyH_take (i := 8) (v := .int .i64 (H : Int)) rfl (by kernel_rfl) (by kernel_rfl) (by kernel_rfl) (fun _ _ _ h => h) (Or.inl ⟨by kernel_rfl, by intro w' hSw; (try dsimp only at hSw); (obtain ⟨i0, i1, i2⟩ := (Vi.call hSw).cells); (obtain ⟨y0', y1', y2'⟩ := (Vy.call hSw).cells); go_simp⟩) (by assumption) ?_
      refine wpAnyH_take (i := 10) (v := .agg #[.int .i64 (W : Int), .int .i64 (H : Int), .slice A L.length c]) rfl (by kernel_rfl) (by kernel_rfl) (by kernel_rfl) (fun _ _ _ h => h) (Or.inl ⟨by kernel_rfl, by intro w' hSw; (try dsimp only at hSw); (obtain ⟨i0, i1, i2⟩ := (Vi.call hSw).cells); (obtain ⟨y0', y1', y2'⟩ := (Vy.call hSw).cells); go_simp⟩) (by assumption) ?_
      (try simp only [Act.put]); (try simp only [List.setIfInBounds_toArray]); (try simp only [List.set_cons_zero, List.set_cons_succ])
      refine wpAnyH_ready (rs := [9]) (by kernel_rfl) (by simp) ?_
      refine (AllReadyH.cons rfl (fun K hK => ?_) AllReadyH.nil)
      · rw [if_pos (by kernel_rfl)]
        (try simp only [List.getElem_toArray]); (try simp only [List.getElem_cons_succ]); (try simp only [List.getElem_cons_zero])
        go_simp
        with_reducible refine (HO3.out _ _ (Vi.call hS).rd).mono ?_
        rintro e W' ⟨vp, rfl, op, hb⟩
        obtain ⟨Ap, cp, he⟩ := ownI_shape op
        subst he
        dsimp only
        refine hK.out _ _ (belI_call hS hb) (fun hS => ?_)
        clear hK
        (try simp only [Act.put]); (try simp only [List.setIfInBounds_toArray]); (try simp only [List.set_cons_zero, List.set_cons_succ])
        refine wpAnyH_ready (rs := [11]) (by kernel_rfl) (by simp) ?_
        refine (AllReadyH.cons rfl (fun K hK => ?_) AllReadyH.nil)
        · rw [if_pos (by kernel_rfl)]
          (try simp only [List.getElem_toArray]); (try simp only [List.getElem_cons_succ]); (try simp only [List.getElem_cons_zero])
          go_simp
          with_reducible refine (HSZ.out _ _ _ (RdI.of_own op) (Vi.call hS).rd).mono ?_
          rintro e W' ⟨rfl, hb⟩
          dsimp only
          have op := ownI_call op hb
          refine hK.out _ _ (belI_call hS hb) (fun hS => ?_)
          clear hK
          (try simp only [Act.put]); (try simp only [List.setIfInBounds_toArray]); (try simp only [List.set_cons_zero, List.set_cons_succ])
          refine wpAnyH_take (i := 12) (v := .bool true) rfl (by kernel_rfl) (by kernel_rfl) (by kernel_rfl) (fun _ _ _ h => h) (Or.inl ⟨by kernel_rfl, by intro w' hSw; (try dsimp only at hSw); (obtain ⟨i0, i1, i2⟩ := (Vi.call hSw).cells); (obtain ⟨y0', y1', y2'⟩ := (Vy.call hSw).cells); go_simp⟩) (by assumption) ?_
          refine wpAnyH_take (i := 13) (v := .bool true) rfl (by kernel_rfl) (by kernel_rfl) (by kernel_rfl) (fun _ _ _ h => h) (Or.inl ⟨by kernel_rfl, by intro w' hSw; (try dsimp only at hSw); (obtain ⟨i0, i1, i2⟩ := (Vi.call hSw).cells); (obtain ⟨y0', y1', y2'⟩ := (Vy.call hSw).cells); go_simp⟩) (by assumption) ?_
          refine wpAnyH_take (i := 14) (v := .agg #[.int .i64 (W : Int), .int .i64 (H : Int), .slice A L.length c]) rfl (by kernel_rfl) (by kernel_rfl) (by kernel_rfl) (fun _ _ _ h => h) (Or.inl ⟨by kernel_rfl, by intro w' hSw; (try dsimp only at hSw); (obtain ⟨i0, i1, i2⟩ := (Vi.call hSw).cells); (obtain ⟨y0', y1', y2'⟩ := (Vy.call hSw).cells); go_simp⟩) (by assumption) ?_
          refine wpAnyH_take (i := 15) (v := .pointer (some ⟨bi, 0, none⟩)) rfl (by kernel_rfl) (by kernel_rfl) (by kernel_rfl) (fun _ _ _ h => h) (Or.inl ⟨by kernel_rfl, by intro w' hSw; (try dsimp only at hSw); (obtain ⟨i0, i1, i2⟩ := (Vi.call hSw).cells); (obtain ⟨y0', y1', y2'⟩ := (Vy.call hSw).cells); go_simp⟩) (by assumption) ?_
          refine wpAnyH_take (i := 16) (v := .int .i64 (W : Int)) rfl (by kernel_rfl) (by kernel_rfl) (by kernel_rfl) (fun _ _ _ h => h) (Or.inl ⟨by kernel_rfl, by intro w' hSw; (try dsimp only at hSw); (obtain ⟨i0, i1, i2⟩ := (Vi.call hSw).cells); (obtain ⟨y0', y1', y2'⟩ := (Vy.call hSw).cells); go_simp⟩) (by assumption) ?_
          refine wpAnyH_take (i := 17) (v := .pointer (some ⟨bi, 1, none⟩)) rfl (by kernel_rfl) (by kernel_rfl) (by kernel_rfl) (fun _ _ _ h => h) (Or.inl ⟨by kernel_rfl, by intro w' hSw; (try dsimp only at hSw); (obtain ⟨i0, i1, i2⟩ := (Vi.call hSw).cells); (obtain ⟨y0', y1', y2'⟩ := (Vy.call hSw).cells); go_simp⟩) (by assumption) ?_
          refine wpAnyH_take (i := 18) (v := .int .i64 (H : Int)) rfl (by kernel_rfl) (by kernel_rfl) (by kernel_rfl) (fun _ _ _ h => h) (Or.inl ⟨by kernel_rfl, by intro w' hSw; (try dsimp only at hSw); (obtain ⟨i0, i1, i2⟩ := (Vi.call hSw).cells); (obtain ⟨y0', y1', y2'⟩ := (Vy.call hSw).cells); go_simp⟩) (by assumption) ?_
          refine wpAnyH_take (i := 20) (v := .agg #[.int .i64 (W : Int), .int .i64 (H : Int), .slice A L.length c]) rfl (by kernel_rfl) (by kernel_rfl) (by kernel_rfl) (fun _ _ _ h => h) (Or.inl ⟨by kernel_rfl, by intro w' hSw; (try dsimp only at hSw); (obtain ⟨i0, i1, i2⟩ := (Vi.call hSw).cells); (obtain ⟨y0', y1', y2'⟩ := (Vy.call hSw).cells); go_simp⟩) (by assumption) ?_
          (try simp only [Act.put]); (try simp only [List.setIfInBounds_toArray]); (try simp only [List.set_cons_zero, List.set_cons_succ])
          refine wpAnyH_ready (rs := [19]) (by kernel_rfl) (by simp) ?_
          refine (AllReadyH.cons rfl (fun K hK => ?_) AllReadyH.nil)
          · rw [if_pos (by kernel_rfl)]
            (try simp only [List.getElem_toArray]); (try simp only [List.getElem_cons_succ]); (try simp only [List.getElem_cons_zero])
            go_simp
            with_reducible refine (HO4.out _ _ (Vi.call hS).rd).mono ?_
            rintro e W' ⟨vt, rfl, ot, hb⟩
            obtain ⟨At, ct, he⟩ := ownI_shape ot
            subst he
            dsimp only
            have op := ownI_call op hb
            refine hK.out _ _ (belI_call hS hb) (fun hS => ?_)
            clear hK
            (try simp only [Act.put]); (try simp only [List.setIfInBounds_toArray]); (try simp only [List.set_cons_zero, List.set_cons_succ])
            refine wpAnyH_ready (rs := [21]) (by kernel_rfl) (by simp) ?_
            refine (AllReadyH.cons rfl (fun K hK => ?_) AllReadyH.nil)
            · rw [if_pos (by kernel_rfl)]
              (try simp only [List.getElem_toArray]); (try simp only [List.getElem_cons_succ]); (try simp only [List.getElem_cons_zero])
              go_simp
              with_reducible refine (HSZ.out _ _ _ (RdI.of_own ot) (Vi.call hS).rd).mono ?_
              rintro e W' ⟨rfl, hb⟩
              dsimp only
              have op := ownI_call op hb
              have ot := ownI_call ot hb
              refine hK.out _ _ (belI_call hS hb) (fun hS => ?_)
              clear hK
              (try simp only [Act.put]); (try simp only [List.setIfInBounds_toArray]); (try simp only [List.set_cons_zero, List.set_cons_succ])
              refine wpAnyH_take (i := 22) (v := .bool true) rfl (by kernel_rfl) (by kernel_rfl) (by kernel_rfl) (fun _ _ _ h => h) (Or.inl ⟨by kernel_rfl, by intro w' hSw; (try dsimp only at hSw); (obtain ⟨i0, i1, i2⟩ := (Vi.call hSw).cells); (obtain ⟨y0', y1', y2'⟩ := (Vy.call hSw).cells); go_simp⟩) (by assumption) ?_
              refine wpAnyH_take (i := 23) (v := .bool true) rfl (by kernel_rfl) (by kernel_rfl) (by kernel_rfl) (fun _ _ _ h => h) (Or.inl ⟨by kernel_rfl, by intro w' hSw; (try dsimp only at hSw); (obtain ⟨i0, i1, i2⟩ := (Vi.call hSw).cells); (obtain ⟨y0', y1', y2'⟩ := (Vy.call hSw).cells); go_simp⟩) (by assumption) ?_
              refine wpAnyH_take (i := 24) (v := .int .i64 (u0 : Int)) rfl (by kernel_rfl) (by kernel_rfl) (by kernel_rfl) (fun _ _ _ h => h) (Or.inl ⟨by kernel_rfl, by intro w' hSw; (try dsimp only at hSw); (obtain ⟨i0, i1, i2⟩ := (Vi.call hSw).cells); (obtain ⟨y0', y1', y2'⟩ := (Vy.call hSw).cells); go_simp⟩) (by assumption) ?_
              refine wpAnyH_take (i := 25) (v := .bool true) rfl (by kernel_rfl) (by kernel_rfl) (by kernel_rfl) (fun _ _ _ h => h) (Or.inl ⟨by kernel_rfl, by intro w' hSw; (try dsimp only at hSw); (obtain ⟨i0, i1, i2⟩ := (Vi.call hSw).cells); (obtain ⟨y0', y1', y2'⟩ := (Vy.call hSw).cells); go_simp⟩) (by assumption) ?_
              refine wpAnyH_take (i := 26) (v := .bool true) rfl (by kernel_rfl) (by kernel_rfl) (by kernel_rfl) (fun _ _ _ h => h) (Or.inl ⟨by kernel_rfl, by intro w' hSw; (try dsimp only at hSw); (obtain ⟨i0, i1, i2⟩ := (Vi.call hSw).cells); (obtain ⟨y0', y1', y2'⟩ := (Vy.call hSw).cells); go_simp⟩) (by assumption) ?_
              refine wpAnyH_take (i := 27) (v := .bool true) rfl (by kernel_rfl) (by kernel_rfl) (by kernel_rfl) (fun _ _ _ h => h) (Or.inl ⟨by kernel_rfl, by intro w' hSw; (try dsimp only at hSw); (obtain ⟨i0, i1, i2⟩ := (Vi.call hSw).cells); (obtain ⟨y0', y1', y2'⟩ := (Vy.call hSw).cells); go_simp⟩) (by assumption) ?_
              refine wpAnyH_take (i := 28) (v := .int .i64 (u0 : Int)) rfl (by kernel_rfl) (by kernel_rfl) (by kernel_rfl) (fun _ _ _ h => h) (Or.inl ⟨by kernel_rfl, by intro w' hSw; (try dsimp only at hSw); (obtain ⟨i0, i1, i2⟩ := (Vi.call hSw).cells); (obtain ⟨y0', y1', y2'⟩ := (Vy.call hSw).cells); go_simp⟩) (by assumption) ?_
              refine wpAnyH_take (i := 29) (v := .int .i64 ((W : Int) - 1)) rfl (by kernel_rfl) (by kernel_rfl) (by kernel_rfl) (fun _ _ _ h => h) (Or.inl ⟨by kernel_rfl, by intro w' hSw; (try dsimp only at hSw); (obtain ⟨i0, i1, i2⟩ := (Vi.call hSw).cells); (obtain ⟨y0', y1', y2'⟩ := (Vy.call hSw).cells); go_simp⟩) (by assumption) ?_
              refine wpAnyH_take (i := 30) (v := .bool true) rfl (by kernel_rfl) (by kernel_rfl) (by kernel_rfl) (fun _ _ _ h => h) (Or.inl ⟨by kernel_rfl, by intro w' hSw; (try dsimp only at hSw); (obtain ⟨i0, i1, i2⟩ := (Vi.call hSw).cells); (obtain ⟨y0', y1', y2'⟩ := (Vy.call hSw).cells); go_simp⟩) (by assumption) ?_
              refine wpAnyH_take (i := 31) (v := .bool true) rfl (by kernel_rfl) (by kernel_rfl) (by kernel_rfl) (fun _ _ _ h => h) (Or.inl ⟨by kernel_rfl, by intro w' hSw; (try dsimp only at hSw); (obtain ⟨i0, i1, i2⟩ := (Vi.call hSw).cells); (obtain ⟨y0', y1', y2'⟩ := (Vy.call hSw).cells); go_simp⟩) (by assumption) ?_
              refine wpAnyH_take (i := 32) (v := .bool true) rfl (by kernel_rfl) (by kernel_rfl) (by kernel_rfl) (fun _ _ _ h => h) (Or.inl ⟨by kernel_rfl, by intro w' hSw; (try dsimp only at hSw); (obtain ⟨i0, i1, i2⟩ := (Vi.call hSw).cells); (obtain ⟨y0', y1', y2'⟩ := (Vy.call hSw).cells); go_simp⟩) (by assumption) ?_
              refine wpAnyH_take (i := 33) (v := .int .i64 ((W : Int) - 1)) rfl (by kernel_rfl) (by kernel_rfl) (by kernel_rfl) (fun _ _ _ h => h) (Or.inl ⟨by kernel_rfl, by intro w' hSw; (try dsimp only at hSw); (obtain ⟨i0, i1, i2⟩ := (Vi.call hSw).cells); (obtain ⟨y0', y1', y2'⟩ := (Vy.call hSw).cells); go_simp⟩) (by assumption) ?_
              refine wpAnyH_take (i := 34) (v := .pointer (some ⟨bi, 0, none⟩)) rfl (by kernel_rfl) (by kernel_rfl) (by kernel_rfl) (fun _ _ _ h => h) (Or.inl ⟨by kernel_rfl, by intro w' hSw; (try dsimp only at hSw); (obtain ⟨i0, i1, i2⟩ := (Vi.call hSw).cells); (obtain ⟨y0', y1', y2'⟩ := (Vy.call hSw).cells); go_simp⟩) (by assumption) ?_
              refine wpAnyH_take (i := 35) (v := .int .i64 (W : Int)) rfl (by kernel_rfl) (by kernel_rfl) (by kernel_rfl) (fun _ _ _ h => h) (Or.inl ⟨by kernel_rfl, by intro w' hSw; (try dsimp only at hSw); (obtain ⟨i0, i1, i2⟩ := (Vi.call hSw).cells); (obtain ⟨y0', y1', y2'⟩ := (Vy.call hSw).cells); go_simp⟩) (by assumption) ?_
              refine wpAnyH_take (i := 36) (v := .int .i64 ((W : Int) - 1)) rfl (by kernel_rfl) (by kernel_rfl) (by kernel_rfl) (fun _ _ _ h => h) (Or.inl ⟨by kernel_rfl, by intro w' hSw; (try dsimp only at hSw); (obtain ⟨i0, i1, i2⟩ := (Vi.call hSw).cells); (obtain ⟨y0', y1', y2'⟩ := (Vy.call hSw).cells); go_simp⟩) (by assumption) ?_
              refine wpAnyH_take (i := 37) (v := .bool true) rfl (by kernel_rfl) (by kernel_rfl) (by kernel_rfl) (fun _ _ _ h => h) (Or.inl ⟨by kernel_rfl, by intro w' hSw; (try dsimp only at hSw); (obtain ⟨i0, i1, i2⟩ := (Vi.call hSw).cells); (obtain ⟨y0', y1', y2'⟩ := (Vy.call hSw).cells); go_simp⟩) (by assumption) ?_
              refine wpAnyH_take (i := 38) (v := .bool true) rfl (by kernel_rfl) (by kernel_rfl) (by kernel_rfl) (fun _ _ _ h => h) (Or.inl ⟨by kernel_rfl, by intro w' hSw; (try dsimp only at hSw); (obtain ⟨i0, i1, i2⟩ := (Vi.call hSw).cells); (obtain ⟨y0', y1', y2'⟩ := (Vy.call hSw).cells); go_simp⟩) (by assumption) ?_
              refine wpAnyH_take (i := 39) (v := .bool true) rfl (by kernel_rfl) (by kernel_rfl) (by kernel_rfl) (fun _ _ _ h => h) (Or.inl ⟨by kernel_rfl, by intro w' hSw; (try dsimp only at hSw); (obtain ⟨i0, i1, i2⟩ := (Vi.call hSw).cells); (obtain ⟨y0', y1', y2'⟩ := (Vy.call hSw).cells); go_simp⟩) (by assumption) ?_
              go_simp
              refine wpAnyH_done (by kernel_rfl) ?_ _
              have Kf := belI_call Kw hS
              go_wp2_with fail
              go_ret
              exact ⟨rfl, Kf⟩
end Go.Proofs.Ytmjndoedchiggaa
