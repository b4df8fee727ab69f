/- The contracts of AreaOf, of the program and of its model. No statement is proved here. -/
import Derived.Test.YtnhalmfljefliaaInR
namespace Go.Proofs.Ytnhalmfljefliaa
open Go.RowKit
/-- The area of a region; 0 if it is not valid. -/
noncomputable def areaR (L : List Rc) : Int := if okL L = true then areaL L else 0
theorem areaL_nonneg {L : List Rc} (h : ∀ r ∈ L, OnScreen r) : 0 ≤ areaL L := by have := area_len L h; omega
theorem areaL_take {L : List Rc} (h : ∀ r ∈ L, OnScreen r) (k : Nat) : 0 ≤ areaL (L.take k) ∧ areaL (L.take k) ≤ areaL L := by
  have e : areaL L = areaL (L.take k) + areaL (L.drop k) := by rw [← areaL_append, List.take_append_drop]
  have h1 := areaL_nonneg (L := L.take k) (fun r hr => h r (List.mem_of_mem_take hr))
  have h2 := areaL_nonneg (L := L.drop k) (fun r hr => h r (List.mem_of_mem_drop hr))
  omega
theorem ok_area {L : List Rc} (h : okL L = true) : 0 ≤ areaL L ∧ areaL L ≤ 256 := by
  have e := (okL_iff L).1 h
  have h1 := cntRows_le (gridOf L) 0 (by omega)
  rw [← e, canon_area]
  omega
theorem area_one {r : Rc} (h : OnScreen r) : 0 ≤ r.w * r.h ∧ r.w * r.h ≤ 256 := by
  unfold OnScreen at h
  have h1 : 0 * 0 ≤ r.w * r.h := Int.mul_le_mul (by omega) (by omega) (by omega) (by omega)
  have h2 : r.w * r.h ≤ 16 * 16 := Int.mul_le_mul (by omega) (by omega) (by omega) (by omega)
  omega
theorem area_next {L : List Rc} {k : Nat} {r : Rc} (h : L[k]? = some r) : areaL (L.take (k + 1)) = areaL (L.take k) + r.w * r.h := by
  rw [List.take_add_one, h, areaL_append]; simp [areaL]

set_option maxHeartbeats 1000000 in
set_option maxRecDepth 10000 in
theorem areaI (v : Value) (L : List Rc) (w : World) (h : RdR w v L) :
    Calls Try.prog 21 #[.agg #[v]] w fun e w' => e = .returned (.int .i64 (areaR L)) ∧ Below w.heap.size w w' := by
  obtain ⟨A, c, rfl⟩ := h.form
  have hm : L.length ≤ 9223372036854775807 := by have := h.len; unfold maxLen at this; omega
  obtain ⟨n, hn⟩ : ∃ n, n = L.length := ⟨_, rfl⟩
  rw [← hn] at hm h ⊢
  have Hn := Lib.hid hn
  have K := (Below.refl w.heap.size w).alloc (Nat.le_refl _) (.cells #[.slice A n c] 34)
  have hc := new_cell w (.slice A n c) 34
  have H := Lib.hid (h.call K)
  have H0 := Lib.hid h
  clear h hn
  rcases hk : okL L with _ | _
  · have Hi : Hid (areaR L = 0) := Lib.hid (by unfold areaR; rw [if_neg (by rw [hk]; simp)])
    have R := fun W hv => rokI (.slice A n c) L W hv
    unfold RokAns at R
    rw [hk] at R
    clear hk
    go_enter Try.func21, Try.ntmps21
    go_wp2_with fail
    refine (R _ H.out).mono ?_
    rintro e w1 ⟨rfl, hb⟩
    replace K := below_call K hb
    clear hb hc R
    go_wp2_with fail
    go_ret
    exact ⟨ret_int Hi.out.symm, K⟩
  · have Hk := Lib.hid hk
    have Hi : Hid (areaR L = areaL L) := Lib.hid (if_pos hk)
    have R := fun W hv => rokI (.slice A n c) L W hv
    unfold RokAns at R
    rw [hk] at R
    clear hk
    go_enter Try.func21, Try.ntmps21
    go_wp2_with fail
    refine (R _ H.out).mono ?_
    rintro e w1 ⟨rfl, hb⟩
    replace hc := cell_call hb hc
    replace K := below_call K hb
    clear hb R
    go_wp2_with fail
    go_loopw [3, 12] (fun s i wr => ∃ (k : Nat) (a : Int), k ≤ n ∧ i = .int .i64 k ∧ s = .int .i64 a ∧ Hid (a = areaL (L.take k)) ∧ Below w.heap.size w wr) (fun _ i _ => n - (intOf i).toNat)
    case atStart => exact ⟨0, 0, Nat.zero_le _, rfl, rfl, Lib.hid (by simp [areaL]), K⟩
    case round =>
      clear K hc
      obtain ⟨k, a, hk, rfl, rfl, Ha, K⟩ := hrel
      by_cases hlt : k < n
      · obtain ⟨g, r, rfl, hr, hC⟩ := (H0.out.call K).at_ (k := k) (by rw [← Hn.out]; exact hlt)
        have Hr := Lib.hid hr
        obtain ⟨c0, c1, c2, c3⟩ := hC.cells
        have k0 : (0 : Int) ≤ (k : Int) := by omega
        have k1 : (k : Int) < (n : Int) := by omega
        have ha := areaL_take (ok_on Hk.out) k
        rw [← Ha.out] at ha
        have hA := ok_area Hk.out
        have a0 : 0 ≤ a := ha.1
        have a1 : a ≤ 256 := by omega
        obtain ⟨m0, m1⟩ := area_one (ok_on Hk.out r (List.mem_of_getElem? hr))
        clear hr hC ha hA
        go_wp2_with fail
        go_roundw
        case rel => exact ⟨k + 1, _, by omega, by go_num, rfl, Lib.hid (by rw [area_next Hr.out, Ha.out]), K.alloc K.size _⟩
        case measure => simp [intOf]; omega
      · obtain rfl : k = n := by omega
        have Hj : Hid (a = areaR L) := Lib.hid (by rw [Hi.out, Ha.out, List.take_of_length_le (by rw [← Hn.out]; exact Nat.le_refl _)])
        go_wp2_with fail
        go_ret
        exact ⟨ret_int Hj.out, K⟩
end Go.Proofs.Ytnhalmfljefliaa
