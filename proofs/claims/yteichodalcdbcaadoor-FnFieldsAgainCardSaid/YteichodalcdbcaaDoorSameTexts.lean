/- The contract of laws.sameTexts. No statement is proved here. -/
import Derived.Test.YteichodalcdbcaaDoorRd
import Derived.Test.YteichodalcdbcaaDoorSplitP
namespace Go.Proofs.YteichodalcdbcaaDoor
open Go.RowKit

theorem toList_ne {p r : ByteArray} (h : p ≠ r) : (p.toList == r.toList) = false := by
  rw [beq_eq_false_iff_ne]
  intro e
  rw [ByteArray.toList_eq, ByteArray.toList_eq] at e
  obtain ⟨⟨p⟩⟩ := p
  obtain ⟨⟨r⟩⟩ := r
  exact h (by simp at e; rw [e])

set_option maxHeartbeats 1000000 in
theorem sameTextsL (v u : Value) (l m : List ByteArray) (w : World) (hv : Rd w v l.length (strCells l)) (hu : Rd w u m.length (strCells m)) :
    Calls Tryd.prog 18 #[v, u] w fun e w' => e = .returned (.bool (decide (l = m))) ∧ ∃ q, w' = w.drewN q := by
  obtain ⟨A, c, rfl⟩ := hv.form
  obtain ⟨A', c', rfl⟩ := hu.form
  have hn1 : l.length ≤ 9223372036854775807 := by have := hv.len.2; unfold maxLen at this; omega
  have hn2 : m.length ≤ 9223372036854775807 := by have := hu.len.2; unfold maxLen at this; omega
  have Hv := Lib.hid hv
  have Hu := Lib.hid hu
  clear hv hu
  by_cases hlen : l.length = m.length
  · obtain ⟨n, hn⟩ : ∃ n, n = l.length := ⟨_, rfl⟩
    rw [← hn] at hn1 ⊢
    rw [← hlen, ← hn]
    have Hn := Lib.hid hn
    have Hlen := Lib.hid hlen
    clear hlen hn2 hn
    go_enter Tryd.func18, Tryd.ntmps18
    go_wp2_with fail
    go_loopw [5] (fun i wr => ∃ k : Nat, k ≤ n ∧ i = .int .i64 k ∧ (∀ j, j < k → l[j]? = m[j]?) ∧ ∃ q, wr = w.drewN q) (fun i _ => n - (intOf i).toNat)
    case atStart => exact ⟨0, Nat.zero_le _, rfl, fun j hj => by omega, 0, rfl⟩
    case round =>
      obtain ⟨k, hk, rfl, hall, q, rfl⟩ := hrel
      have Hall := Lib.hid hall
      clear hall
      by_cases hlt : k < n
      · have h1 := Hv.out
        have h2 := Hu.out
        rw [← Hlen.out, ← Hn.out] at h2
        rw [← Hn.out] at h1
        obtain ⟨a, x, rfl, hx, hcx⟩ := h1.at_ hlt
        obtain ⟨a', y, rfl, hy, hcy⟩ := h2.at_ hlt
        clear h1 h2
        simp only [strCells, List.getElem?_map] at hx hy
        obtain ⟨p, hp, rfl⟩ := Option.map_eq_some_iff.1 hx
        obtain ⟨r, hr, rfl⟩ := Option.map_eq_some_iff.1 hy
        have Hp := Lib.hid hp
        have Hr := Lib.hid hr
        clear hx hy hp hr
        have k0 : (0 : Int) ≤ (k : Int) := by omega
        have k1 : (k : Int) < (n : Int) := by omega
        by_cases hpr : p = r
        · subst hpr
          go_wp2_with fail
          go_quiet (fail)
          go_wp2_with fail
          rename_i nq
          go_roundw
          case rel =>
            refine ⟨k + 1, by omega, by go_num, fun j hj => ?_, _, rfl⟩
            by_cases e : j < k
            · exact Hall.out j e
            · obtain rfl : j = k := by omega
              rw [Hp.out, Hr.out]
          case measure => simp [intOf]; omega
        · have hne : l ≠ m := fun e => hpr (by have h1 := Hp.out; rw [e, Hr.out] at h1; injection h1 with h1; exact h1.symm)
          have Hne := Lib.hid hne
          have hpt := toList_ne hpr
          clear hne
          go_wp2_with fail
          go_quiet (fail)
          go_wp2_with fail
          go_ret
          exact ⟨ret_bool (by simp [Hne.out]), q + _, by first | rfl | exact World.drewN_drewN _ _ _⟩
      · obtain rfl : k = n := by omega
        have heq : l = m := List.ext_getElem? fun j => by
          by_cases e : j < k
          · exact Hall.out j e
          · rw [List.getElem?_eq_none (by rw [← Hn.out]; omega), List.getElem?_eq_none (by rw [← Hlen.out, ← Hn.out]; omega)]
        have Heq := Lib.hid heq
        clear heq
        go_wp2_with fail
        go_ret
        exact ⟨ret_bool (by simp [Heq.out]), _, rfl⟩
  · have hne : l ≠ m := fun e => hlen (by rw [e])
    have Hne := Lib.hid hne
    clear hne
    have hb : ((l.length : Int) != (m.length : Int)) = true := by rw [bne_iff_ne]; omega
    go_enter Tryd.func18, Tryd.ntmps18
    go_wp2_with fail
    go_ret
    exact ⟨ret_bool (by simp [Hne.out]), 0, rfl⟩

end Go.Proofs.YteichodalcdbcaaDoor
