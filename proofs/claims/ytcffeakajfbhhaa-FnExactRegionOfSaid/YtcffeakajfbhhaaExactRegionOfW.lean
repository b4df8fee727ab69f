/- The walk of the law FnExactRegionOf: it returns true for every list. -/
import Derived.Test.YtcffeakajfbhhaaExR
import Derived.Deep.DeepCutAuto
namespace Go.Proofs.Ytcffeakajfbhhaa
open Go.RowKit
set_option maxHeartbeats 2000000 in
set_option maxRecDepth 10000 in
theorem walk_FnExactRegionOf (v : Value) (L : List Rc) (w : World) (h : LdR w v L) :
    Calls Try.prog 5 #[v] w fun e w' => e = .returned (.bool true) ∧ Below w.heap.size w w' := by
  obtain ⟨A, c, rfl⟩ := h.form
  obtain ⟨n, hn⟩ : ∃ n, n = L.length := ⟨_, rfl⟩
  have hnm := h.1
  rw [← hn] at h hnm ⊢
  have Hn := Lib.hid hn
  clear hn
  by_cases hbig : n ≤ 1048576
  · have hn1 : L.length ≤ 1048576 := by rw [← Hn.out]; exact hbig
    have hRl : (canon (gridOf L)).length ≤ 256 := canon_len _
    obtain ⟨R, hR⟩ : ∃ R, R = canon (gridOf L) := ⟨_, rfl⟩
    rw [← hR] at hRl
    have HR := Lib.hid hR
    have c1 : ¬ ((1048576 : Int) - (n : Int) < 0) := by omega
    have c2 : ¬ ((1 + 4 * L.length : Nat) : Int) < 0 := by omega
    have c3 : ¬ ((1 + 4 * R.length : Nat) : Int) < 0 := by omega
    have RI := fun v W hv => rofI v L W hv
    have RS := fun v W hv => rofS v L W hv
    unfold RofAns at RI RS
    rw [← hR] at RI RS
    clear hR
    go_enter Try.func5, Try.ntmps5
    go_wp2_with fail
    with_reducible refine (szRS_yes n A c 1048576 (by omega) (by omega) _).mono ?_
    rintro e w1 ⟨rfl, rfl⟩
    go_wp2_with fail
    refine (toRS _ L _ hn1 h).mono ?_
    rintro e w1 ⟨v1, rfl, hown1, hb1⟩
    go_wp2_with fail
    refine (RS v1 _ (RdR.of_own hown1)).mono ?_
    rintro e w2 ⟨vr, rfl, hownr, hb2⟩
    obtain ⟨Ar, cr, hvr⟩ := own_shape hownr
    have K2 := below_call hb1 hb2
    have hownr := hownr.mono hb1.size
    clear hown1 hb1 hb2
    subst hvr
    have K3 := below_call K2 (below_box w2 (.slice Ar R.length cr))
    go_wp2_with fail
    refine (toRS _ L _ hn1 (h.ofBelow K3)).mono ?_
    rintro e w3 ⟨vx, rfl, hownx, hb3⟩
    go_wp2_with fail
    refine (RI vx _ (RdR.of_own hownx)).mono ?_
    rintro e w4 ⟨vg, rfl, howng, hb4⟩
    obtain ⟨Ag, cg, hvg⟩ := own_shape howng
    subst hvg
    have T := TwoR.born K2 hownr hb3 hb4 howng
    have hownx3 := hownx
    have hownx := own_call (own_call hownx hb4) (below_box w4 (.slice Ag R.length cg))
    have sepx := apart3 (vx := vx) (vg := .slice Ag R.length cg) (vr := .slice Ar R.length cr) K2.size hb4.size (fun k hk => (hownr.lt k hk).2) (fun k hk => by have := hownx3.lt k hk; simpa using this) (fun k hk => (howng.lt k hk).1)
    have Sx := Lib.hid sepx
    clear sepx hownx3 howng hb3 hb4 hownr K2 K3
    have xg := T.xg.cell
    have xr := T.xr.cell
    go_wp2_with fail
    refine (eqRg_same _ _ R _ T.rg T.rr).mono ?_
    rintro e w5 ⟨rfl, hb⟩
    have T := T.call hb
    have hownx := own_call hownx hb
    clear hb xg xr
    go_wp2_with fail
    refine (toRS _ L _ hn1 (h.ofBelow T.bw)).mono ?_
    rintro e w6 ⟨v6, rfl, hown6, hb⟩
    have T := T.call hb
    have hownx := own_call hownx hb
    clear hb
    go_wp2_with fail
    refine (eqRectS_same vx v6 L _ (RdR.of_own hownx) (RdR.of_own hown6)).mono ?_
    rintro e w7 ⟨rfl, hb⟩
    have T := T.call hb
    have hownx := own_call hownx hb
    clear hb hown6
    go_wp2_with fail
    refine (markRS _ _ vx L 1 _ (by omega) hownx).mono ?_
    rintro e w8 ⟨rfl, _, hg⟩
    have T := T.other hg Sx.out
    clear hg hownx
    have xg := T.xg.cell
    have xr := T.xr.cell
    go_wp2_with fail
    refine (eqRg_same _ _ R _ T.rg T.rr).mono ?_
    rintro e w9 ⟨rfl, hb⟩
    have T := T.call hb
    clear hb xg xr
    have xg := T.xg.cell
    go_wp2_with fail
    refine (markRg _ _ R 1 _ (by omega) T.g).mono ?_
    rintro e w10 ⟨rfl, hown10, hg⟩
    have T := T.mark (G' := marksL 1 R.length) (by rw [marksL_length]; exact hown10) hg
    clear hg hown10 xg
    have xg := T.xg.cell
    go_wp2_with fail
    refine (heldRg _ 1 R.length _ (by omega) T.rg).mono ?_
    rintro e w11 ⟨rfl, hb⟩
    have T := T.call hb
    clear hb xg
    go_wp2_with fail
    refine (toRS _ L _ hn1 (h.ofBelow T.bw)).mono ?_
    rintro e w12 ⟨v12, rfl, hown12, hb⟩
    have T := T.call hb
    clear hb
    go_wp2_with fail
    refine (RI v12 _ (RdR.of_own hown12)).mono ?_
    rintro e w13 ⟨vh, rfl, hownh, hb⟩
    obtain ⟨Ah, ch, hvh⟩ := own_shape hownh
    subst hvh
    have T := (T.call hb).call (below_box w13 (.slice Ah R.length ch))
    have hownh := own_call hownh (below_box w13 (.slice Ah R.length ch))
    have xh := (BxAt.new w13 (.slice Ah R.length ch)).cell
    have xr := T.xr.cell
    clear hb hown12
    go_wp2_with fail
    refine (eqRg_same _ _ R _ (RdR.of_own hownh) T.rr).mono ?_
    rintro e w14 ⟨rfl, hb⟩
    have T := T.call hb
    clear hb xh xr hownh
    have xg := T.xg.cell
    go_wp2_with fail
    refine (heldRg _ 1 R.length _ (by omega) T.rg).mono ?_
    rintro e w15 ⟨rfl, hb⟩
    have T := T.call hb
    clear hb xg
    go_wp2_with fail
    go_ret
    exact ⟨rfl, T.bw⟩
  · go_enter Try.func5, Try.ntmps5
    go_wp2_with fail
    with_reducible refine (szRS_no n A c hnm 1048576 (by omega) (by omega) _).mono ?_
    rintro e w1 ⟨rfl, rfl⟩
    go_wp2_with fail
    go_ret
    exact ⟨rfl, Below.refl _ _⟩
end Go.Proofs.Ytcffeakajfbhhaa
