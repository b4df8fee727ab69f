/- The contracts of laws.eqRectS, eqRegion at equal lists; of markRectS, heldRectS, markRegion, heldRegion. No statement is proved here. -/
import Derived.Test.YtfehdcenmncbpabBase
import Derived.Test.YtfehdcenmncbpabRd
import Derived.Test.YtfehdcenmncbpabRectC
import Derived.Test.YtfehdcenmncbpabBlk4
import Derived.Test.YtfehdcenmncbpabCoverC
import Derived.Test.YtfehdcenmncbpabRectEq
import Derived.Test.YtfehdcenmncbpabRds
import Derived.Test.YtfehdcenmncbpabProg
import Derived.WalkKit
import Derived.ProofKit
import Derived.OpenShut
import Derived.WalkLawsBesides
import Derived.WalkSpells
import Derived.ShutString
import Derived.ChangeOld
import Derived.Below
import Derived.Lib.Hide
import Derived.BigQuiet
import Derived.Deep.QuietTactic
import Derived.Maps.AppendAt
import Derived.Deep.Draws
import Derived.Deep.RegionHeld3
import Derived.Deep.DeepCutAuto
import Derived.OwnWalk
import Derived.Deep.AppendLies
import Derived.Deep.LoopGhost
namespace Go.Proofs.Ytfehdcenmncbpab
open Go.RowKit
set_option maxHeartbeats 1000000 in
set_option maxRecDepth 10000 in
theorem eqRectS_same (v u : Value) (L : List Rc) (w : World) (hv : RdR w v L) (hu : RdR w u L) :
    Calls Try.prog 80 #[v, u] w fun e w' => e = .returned (.bool true) ∧ Below w.heap.size w w' := by
  obtain ⟨A, c, rfl⟩ := hv.form
  obtain ⟨A', c', rfl⟩ := hu.form
  have hn1 : L.length ≤ 9223372036854775807 := by have := hv.len; unfold maxLen at this; omega
  obtain ⟨n, hn⟩ : ∃ n, n = L.length := ⟨_, rfl⟩
  rw [← hn] at hn1 hv hu ⊢
  have Hn := Lib.hid hn
  have Hv := Lib.hid hv
  have Hu := Lib.hid hu
  clear hn hv hu
  go_enter Try.func80, Try.ntmps80
  go_wp2_with fail
  go_loopw [5] (fun i wr => ∃ k : Nat, k ≤ n ∧ i = .int .i64 k ∧ Below w.heap.size w wr) (fun i _ => n - (intOf i).toNat)
  case atStart => exact ⟨0, Nat.zero_le _, rfl, Below.refl _ _⟩
  case round =>
    obtain ⟨k, hk, rfl, hb⟩ := hrel
    by_cases hlt : k < n
    · obtain ⟨ga, r, rfl, hr, hC⟩ := (Hv.out.call hb).at_ (k := k) (by rw [← Hn.out]; exact hlt)
      obtain ⟨gb, s, rfl, hs, hD⟩ := (Hu.out.call hb).at_ (k := k) (by rw [← Hn.out]; exact hlt)
      rw [hr] at hs
      injection hs with hs
      subst hs
      obtain ⟨a0, a1, a2, a3⟩ := hC.cells
      obtain ⟨b0, b1, b2, b3⟩ := hD.cells
      have k0 : (0 : Int) ≤ (k : Int) := by omega
      have k1 : (k : Int) < (n : Int) := by omega
      clear hr
      go_wp2_with fail
      go_region_held3 (fun w' => (w'.cell? ⟨ga, k * 4, none⟩ = some (.int .i64 r.x) ∧ w'.cell? ⟨ga, k * 4 + 1, none⟩ = some (.int .i64 r.y) ∧ w'.cell? ⟨ga, k * 4 + 2, none⟩ = some (.int .i64 r.w) ∧ w'.cell? ⟨ga, k * 4 + 3, none⟩ = some (.int .i64 r.h)) ∧
          (w'.cell? ⟨gb, k * 4, none⟩ = some (.int .i64 r.x) ∧ w'.cell? ⟨gb, k * 4 + 1, none⟩ = some (.int .i64 r.y) ∧ w'.cell? ⟨gb, k * 4 + 2, none⟩ = some (.int .i64 r.w) ∧ w'.cell? ⟨gb, k * 4 + 3, none⟩ = some (.int .i64 r.h)))
          (with_reducible first | exact ⟨hC.cells, hD.cells⟩ | exact ⟨hC.drew.cells, hD.drew.cells⟩ | fail)
          ((go_at_call 113; (with_reducible refine (eqRect_same r _).mono ?_); rintro e wk ⟨rfl, hbk⟩; (with_reducible first | have hC := hC.call hbk | have hC := hC.drew.call hbk); (with_reducible first | have hD := hD.call hbk | have hD := hD.drew.call hbk); (with_reducible first | have hb := hb.trans (hbk.mono hb.size) | have hb := hb.drew.trans (hbk.mono hb.drew.size))))
      go_wp2_with fail
      go_roundw
      case rel => exact ⟨k + 1, by omega, by go_num, hb⟩
      case measure => simp [intOf]; omega
    · obtain rfl : k = n := by omega
      go_wp2_with fail
      go_ret
      exact ⟨rfl, hb⟩
/-- Numbers with which rows are marked. -/
def marksL (k : Nat) (n : Nat) : List Rc := (List.range n).map fun j => ⟨(k + 4 * j : Nat), (k + 4 * j + 1 : Nat), (k + 4 * j + 2 : Nat), (k + 4 * j + 3 : Nat)⟩
theorem marksL_length (k n : Nat) : (marksL k n).length = n := by simp [marksL]
theorem marksL_get (k n j : Nat) (h : j < n) : (marksL k n)[j]? = some ⟨(k + 4 * j : Nat), (k + 4 * j + 1 : Nat), (k + 4 * j + 2 : Nat), (k + 4 * j + 3 : Nat)⟩ := by simp [marksL, h]
theorem marksL_succ (k n : Nat) : marksL k (n + 1) = marksL k n ++ [⟨(k + 4 * n : Nat), (k + 4 * n + 1 : Nat), (k + 4 * n + 2 : Nat), (k + 4 * n + 3 : Nat)⟩] := by
  simp [marksL, List.range_succ]
/-- A row of rectangles, rectangle j replaced. -/
theorem rcs_put (L M : List Rc) (r s : Rc) (j : Nat) (hj : j = L.length) :
    ((((rcsCells (L ++ r :: M)).set (j * 4) (.int .i64 s.x)).set (j * 4 + 1) (.int .i64 s.y)).set (j * 4 + 2) (.int .i64 s.w)).set (j * 4 + 3) (.int .i64 s.h) = rcsCells (L ++ s :: M) := by
  subst hj
  have e : ∀ t : Rc, rcsCells (L ++ t :: M) = rcsCells L ++ (rcCells t ++ rcsCells M) := fun t => by simp [rcsCells]
  rw [e r, e s]
  have hl := rcsCells_length L
  rw [List.set_append_right _ _ (by omega), List.set_append_right _ _ (by omega), List.set_append_right _ _ (by omega), List.set_append_right _ _ (by omega)]
  congr 1
  rw [hl, show L.length * 4 - L.length * 4 = 0 by omega, show L.length * 4 + 1 - L.length * 4 = 1 by omega, show L.length * 4 + 2 - L.length * 4 = 2 by omega, show L.length * 4 + 3 - L.length * 4 = 3 by omega]
  rfl
theorem own_put4 {w : World} {B gq n cap j : Nat} {e : TypeId} {L M : List Rc} {r : Rc} (hown : w.ownsRow B e 4 (.slice (some ⟨gq, 0, none⟩) n cap) n (rcsCells (L ++ r :: M))) (hj : j = L.length) (x y u h : Int) :
    ((((w.setCell ⟨gq, j * 4, none⟩ (.int .i64 x)).setCell ⟨gq, j * 4 + 1, none⟩ (.int .i64 y)).setCell ⟨gq, j * 4 + 2, none⟩ (.int .i64 u)).setCell ⟨gq, j * 4 + 3, none⟩ (.int .i64 h)).ownsRow B e 4 (.slice (some ⟨gq, 0, none⟩) n cap) n (rcsCells (L ++ ⟨x, y, u, h⟩ :: M)) ∧
    w.grownBy ((((w.setCell ⟨gq, j * 4, none⟩ (.int .i64 x)).setCell ⟨gq, j * 4 + 1, none⟩ (.int .i64 y)).setCell ⟨gq, j * 4 + 2, none⟩ (.int .i64 u)).setCell ⟨gq, j * 4 + 3, none⟩ (.int .i64 h)) (some gq) := by
  obtain ⟨s0, g0⟩ := hown.stored (j * 4) (.int .i64 x)
  obtain ⟨s1, g1⟩ := s0.stored (j * 4 + 1) (.int .i64 y)
  obtain ⟨s2, g2⟩ := s1.stored (j * 4 + 2) (.int .i64 u)
  obtain ⟨s3, g3⟩ := s2.stored (j * 4 + 3) (.int .i64 h)
  rw [show ((((rcsCells (L ++ r :: M)).set (j * 4) (.int .i64 x)).set (j * 4 + 1) (.int .i64 y)).set (j * 4 + 2) (.int .i64 u)).set (j * 4 + 3) (.int .i64 h) = rcsCells (L ++ ⟨x, y, u, h⟩ :: M) from rcs_put L M r ⟨x, y, u, h⟩ j hj] at s3
  exact ⟨s3, ((g0.trans g1).trans g2).trans g3⟩
theorem own_len {w : World} {B n : Nat} {e : TypeId} {v : Value} {L : List Rc} (h : w.ownsRow B e 4 v n (rcsCells L)) : n = L.length := by
  have := h.1; rw [rcsCells_length] at this; omega
set_option maxHeartbeats 1000000 in
set_option maxRecDepth 10000 in
theorem markRS (B : Nat) (e : TypeId) (v : Value) (L : List Rc) (k0 : Nat) (w : World) (hm : k0 + L.length ≤ 1000000000) (hown : w.ownsRow B e 4 v L.length (rcsCells L)) :
    Calls Try.prog 81 #[v, .int .i64 k0] w fun ed w' => ed = .returned (.int .i64 ((k0 + 4 * L.length : Nat) : Int)) ∧ w'.ownsRow B e 4 v L.length (rcsCells (marksL k0 L.length)) ∧ w.grownBy w' v.ownBlock := by
  obtain ⟨A, c, rfl⟩ := (RdR.of_own hown).form
  obtain ⟨n, hn⟩ : ∃ n, n = L.length := ⟨_, rfl⟩
  rw [← hn] at hm hown ⊢
  have Hn := Lib.hid hn
  have Hown0 := Lib.hid hown
  clear hn hown
  go_enter Try.func81, Try.ntmps81
  go_wp2_with fail
  go_loopw [1, 5] (fun s1 i wr => ∃ (k : Nat) (t : Int), k ≤ n ∧ i = .int .i64 k ∧ s1 = .int .i64 t ∧ Hid (t = ((k0 + 4 * k : Nat) : Int)) ∧ wr.ownsRow B e 4 (.slice A n c) n (rcsCells (marksL k0 k ++ L.drop k)) ∧ w.grownBy wr (Value.slice A n c).ownBlock) (fun _ i _ => n - (intOf i).toNat)
  case atStart => exact ⟨0, k0, Nat.zero_le _, rfl, rfl, Lib.hid (by simp), by simpa [marksL] using Hown0.out, World.grownBy.refl _ _⟩
  case round =>
    obtain ⟨k, t, hk, rfl, rfl, Ht, hown, hgr⟩ := hrel
    have ht0 : 0 ≤ t := by have := Ht.out; omega
    have ht1 : t ≤ 5000000000 := by have := Ht.out; omega
    by_cases hlt : k < n
    · obtain ⟨gq, cap, hv, hgB, hgl⟩ := hown.form (by omega)
      cases hv
      obtain ⟨r, hr⟩ : ∃ r, L.drop k = r :: L.drop (k + 1) := ⟨_, List.drop_eq_getElem_cons (by rw [← Hn.out]; exact hlt)⟩
      rw [hr] at hown
      have hC : C4 wr gq (k * 4) r := by
        obtain ⟨g', r', e1, e2, e3⟩ := (RdR.of_own hown).at_ (k := k) (by rw [← own_len hown]; exact hlt)
        injection e1 with e1
        injection e1 with e1
        rw [List.getElem?_append_right (by rw [marksL_length]; exact Nat.le_refl _), marksL_length, Nat.sub_self] at e2
        injection e2 with e2
        rw [e1, e2]; exact e3
      obtain ⟨c0, c1, c2, c3⟩ := hC.cells
      have f0 := hown.frozenAt (k * 4)
      have f1 := hown.frozenAt (k * 4 + 1)
      have f2 := hown.frozenAt (k * 4 + 2)
      have f3 := hown.frozenAt (k * 4 + 3)
      have k0' : (0 : Int) ≤ (k : Int) := by omega
      have k1' : (k : Int) < (n : Int) := by omega
      have Hown := Lib.hid hown
      have Hgr := Lib.hid hgr
      have HC := Lib.hid hC
      clear hown hgr hC hr
      go_wp2_with fail
      go_roundw
      case rel =>
        obtain ⟨p1, p2⟩ := own_put4 Hown.out (j := k) (by rw [marksL_length]) t (t + 1) (t + 1 + 1) (t + 1 + 1 + 1)
        refine ⟨k + 1, _, by omega, by go_num, rfl, Lib.hid (by have := Ht.out; omega), ?_, Hgr.out.trans p2⟩
        rw [marksL_succ, List.append_assoc]
        have ee : (⟨(k0 + 4 * k : Nat), (k0 + 4 * k + 1 : Nat), (k0 + 4 * k + 2 : Nat), (k0 + 4 * k + 3 : Nat)⟩ : Rc) = ⟨t, t + 1, t + 1 + 1, t + 1 + 1 + 1⟩ := rc_ext (by have := Ht.out; dsimp only; omega)
        rw [ee]
        exact p1
      case measure => simp [intOf]; omega
    · obtain rfl : k = n := by omega
      have hown2 : wr.ownsRow B e 4 (.slice A k c) k (rcsCells (marksL k0 k)) := by
        have h := hown
        rw [List.drop_of_length_le (by rw [← Hn.out]; exact Nat.le_refl _), List.append_nil] at h
        exact h
      have Hown2 := Lib.hid hown2
      clear hown hown2
      go_wp2_with fail
      go_ret
      exact ⟨ret_int Ht.out, Hown2.out, hgr⟩
end Go.Proofs.Ytfehdcenmncbpab
