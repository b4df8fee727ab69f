/- The contracts of InRegion, of the program and of its model. No statement is proved here. -/
import Derived.Test.YtcffeakajfbhhaaRok
import Derived.Test.YtcffeakajfbhhaaHasC
namespace Go.Proofs.Ytcffeakajfbhhaa
open Go.RowKit
theorem below_after {W w' : World} {o : Obj} (hb : Below (W.alloc o).heap.size (W.alloc o) w') : Below W.heap.size W w' :=
  ((Below.refl W.heap.size W).alloc (Nat.le_refl _) o).trans (hb.mono (by simp))
open Classical in
theorem okL_iff (L : List Rc) : okL L = true ↔ canon (gridOf L) = L := by unfold okL sameL; exact decide_eq_true_iff
open Classical in
/-- Whether a region contains a point. -/
noncomputable def inR (L : List Rc) (x y : Int) : Bool := okL L && decide (memP L x y)
open Classical in
theorem inR_no {L : List Rc} {x y : Int} (h : okL L = false) : inR L x y = false := by unfold inR; rw [h, Bool.false_and]
open Classical in
theorem inR_yes {L : List Rc} {x y : Int} (h : okL L = true) (hm : memP L x y) : inR L x y = true := by unfold inR; rw [h, Bool.true_and]; exact decide_eq_true hm
open Classical in
theorem inR_out {L : List Rc} {x y : Int} (hm : ¬ memP L x y) : inR L x y = false := by unfold inR; rw [decide_eq_false hm, Bool.and_false]
theorem ok_on {L : List Rc} (h : okL L = true) : ∀ r ∈ L, OnScreen r := by
  rw [← (okL_iff L).1 h]; exact bands_on _ 0
theorem in_out {L : List Rc} (h : okL L = true) {x y : Int} (hx : ¬ (0 ≤ x ∧ x ≤ 15 ∧ 0 ≤ y ∧ y ≤ 15)) : ¬ memP L x y := by
  rintro ⟨r, hr, hm⟩
  have := ok_on h r hr
  unfold OnScreen at this
  omega
theorem in_grid {L : List Rc} (h : okL L = true) (x y : Nat) (hx : x < 16) (hy : y < 16) : memP L x y ↔ gridOf L (y * 16 + x) = true := by
  have hm := bands_mem (gridOf L) 0 x y
  have e : bands (gridOf L) 0 = L := (okL_iff L).1 h
  rw [e] at hm
  rw [hm]
  exact ⟨fun k => k.2.2.2, fun k => ⟨hx, Nat.zero_le _, hy, k⟩⟩
theorem has_mem {r : Rc} (h : OnScreen r) (x y : Int) : hasB r x y = true ↔ r.x ≤ x ∧ x < r.x + r.w ∧ r.y ≤ y ∧ y < r.y + r.h := by
  unfold hasB
  rw [decide_eq_true_iff]
  exact ⟨fun k => k.2, fun k => ⟨h.ok, k⟩⟩

set_option maxHeartbeats 1000000 in
set_option maxRecDepth 10000 in
theorem inRI (v : Value) (L : List Rc) (x y : Int) (w : World) (h : RdR w v L) :
    Calls Try.prog 15 #[.agg #[v], .int .i64 x, .int .i64 y] w fun e w' => e = .returned (.bool (inR L x y)) ∧ Below w.heap.size w w' := by
  obtain ⟨A, c, rfl⟩ := h.form
  have hm : L.length ≤ 9223372036854775807 := by have := h.len; unfold maxLen at this; omega
  obtain ⟨n, hn⟩ : ∃ n, n = L.length := ⟨_, rfl⟩
  rw [← hn] at hm h ⊢
  have Hn := Lib.hid hn
  have K := (Below.refl w.heap.size w).alloc (Nat.le_refl _) (.cells #[.slice A n c] 26)
  have hc := new_cell w (.slice A n c) 26
  have H := Lib.hid (h.call K)
  have H0 := Lib.hid h
  clear h hn
  rcases hk : okL L with _ | _
  · have Hi := Lib.hid (inR_no (x := x) (y := y) hk)
    have R := fun W hv => rokI (.slice A n c) L W hv
    unfold RokAns at R
    rw [hk] at R
    clear hk
    go_enter Try.func15, Try.ntmps15
    go_wp2_with fail
    refine (R _ H.out).mono ?_
    rintro e w1 ⟨rfl, hb⟩
    replace K := below_call K hb
    clear hb hc R
    go_wp2_with fail
    go_ret
    exact ⟨ret_bool Hi.out.symm, K⟩
  · have Hk := Lib.hid hk
    have R := fun W hv => rokI (.slice A n c) L W hv
    unfold RokAns at R
    rw [hk] at R
    clear hk
    go_enter Try.func15, Try.ntmps15
    go_wp2_with fail
    refine (R _ H.out).mono ?_
    rintro e w1 ⟨rfl, hb⟩
    replace hc := cell_call hb hc
    replace K := below_call K hb
    clear hb R
    go_wp2_with fail
    go_loopw [15] (fun i wr => ∃ k : Nat, k ≤ n ∧ i = .int .i64 k ∧ Hid (∀ j r, j < k → L[j]? = some r → hasB r x y = false) ∧ Below w.heap.size w wr) (fun i _ => n - (intOf i).toNat)
    case atStart => exact ⟨0, Nat.zero_le _, rfl, Lib.hid (fun j r hj => by omega), K⟩
    case round =>
      clear K hc
      obtain ⟨k, hk, rfl, Hall, K⟩ := hrel
      by_cases hlt : k < n
      · obtain ⟨g, r, rfl, hr, hC⟩ := (H0.out.call K).at_ (k := k) (by rw [← Hn.out]; exact hlt)
        have Hr := Lib.hid hr
        obtain ⟨c0, c1, c2, c3⟩ := hC.cells
        have k0 : (0 : Int) ≤ (k : Int) := by omega
        have k1 : (k : Int) < (n : Int) := by omega
        have hin : Hid (r ∈ L) := Lib.hid (List.mem_of_getElem? hr)
        clear hr hC
        have HP := fun W => hasI_any r x y W
        rcases hh : hasB r x y with _ | _
        · rw [hh] at HP
          have Hh := Lib.hid hh
          clear hh
          go_wp2_with fail
          refine (HP _).mono ?_
          rintro e w2 ⟨rfl, hb⟩
          replace K := below_call K (below_after hb)
          clear hb c0 c1 c2 c3 HP
          go_wp2_with fail
          go_roundw
          case rel =>
            refine ⟨k + 1, by omega, by go_num, Lib.hid (fun j r' hj hr' => ?_), K⟩
            by_cases e : j < k
            · exact Hall.out j r' e hr'
            · obtain rfl : j = k := by omega
              rw [Hr.out] at hr'
              injection hr' with hr'
              rw [← hr']; exact Hh.out
          case measure => simp [intOf]; omega
        · rw [hh] at HP
          have Hi : Hid (inR L x y = true) := Lib.hid (inR_yes Hk.out ⟨r, hin.out, (has_mem (ok_on Hk.out r hin.out) x y).1 hh⟩)
          clear hh
          go_wp2_with fail
          refine (HP _).mono ?_
          rintro e w2 ⟨rfl, hb⟩
          replace K := below_call K (below_after hb)
          clear hb c0 c1 c2 c3 HP
          go_wp2_with fail
          go_ret
          exact ⟨ret_bool Hi.out.symm, K⟩
      · obtain rfl : k = n := by omega
        have Hi : Hid (inR L x y = false) := Lib.hid (inR_out (by
          rintro ⟨r, hr, hm⟩
          obtain ⟨j, hj⟩ := List.getElem?_of_mem hr
          have h1 := Hall.out j r (by rw [Hn.out]; exact (List.getElem?_eq_some_iff.1 hj).1) hj
          rw [(has_mem (ok_on Hk.out r hr) x y).2 hm] at h1
          cases h1))
        go_wp2_with fail
        go_ret
        exact ⟨ret_bool Hi.out.symm, K⟩
end Go.Proofs.Ytcffeakajfbhhaa
