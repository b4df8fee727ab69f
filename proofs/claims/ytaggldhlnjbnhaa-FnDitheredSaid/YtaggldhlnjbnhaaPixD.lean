/- The contracts of spec.l01PickInt, spec.l04Byte, spec.l04Draw, spec.DrawPixels. No statement is proved here. -/
import Derived.Test.YtaggldhlnjbnhaaRd
import Derived.Test.YtaggldhlnjbnhaaIntR
import Derived.Test.YtaggldhlnjbnhaaPixM
import Derived.Test.YtaggldhlnjbnhaaPixS
import Derived.Test.YtaggldhlnjbnhaaCurC
import Derived.Test.YtaggldhlnjbnhaaProg
import Derived.WalkKit
import Derived.ProofKit
import Derived.OpenShut
import Derived.WalkLawsBesides
import Derived.WalkSpells
import Derived.ShutString
import Derived.ChangeOld
import Derived.Below
import Derived.Lib.Hide
import Derived.BigQuiet
import Derived.Deep.QuietTactic
import Derived.Maps.AppendAt
import Derived.Handy
import Derived.Deep.OwnRows
import Derived.Laws.BitsAllLaws
import Derived.Lib.QuoteBits
namespace Go.Proofs.Ytaggldhlnjbnhaa
open Go.RowKit
/-- What l01PickInt answers: one of the list. -/
def PickInt (L : List Int) (w : World) (g : Nat) (e : Ending) (w' : World) : Prop :=
  ∃ x : Int, e = .returned (.int .i64 x) ∧ x ∈ L ∧ Cur w' g ∧ w.grownBy w' (some g)
theorem pickI_any (v : Value) (L : List Int) (w : World) (g : Nat) (hL : 0 < L.length) (hc : Cur w g) (h : Rd w v L.length (intCells L)) (hg : ∀ b, v.ownBlock = some b → b ≠ g) :
    Calls Try.prog 98 #[.pointer (some ⟨g, 0, none⟩), v] w (PickInt L w g) := by
  obtain ⟨A, c, rfl⟩ := h.form
  have hm := h.len.2
  have hm' : (L.length : Int) ≤ 9223372036854775807 := by unfold maxLen at hm; omega
  have H := Lib.hid h
  clear h hm
  go_enter Try.func98, Try.ntmps98
  go_wp2_with fail
  refine (below_any _ _ _ hm' hc).mono ?_
  rintro e w1 ⟨k, rfl, h0, h1, _, hc1, hg1⟩
  have h2 : k < (L.length : Int) := h1 (by omega)
  obtain ⟨j, rfl⟩ := Int.eq_ofNat_of_zero_le h0
  obtain ⟨a, x, rfl, hx, hcx⟩ := (H.out.grown hg1 (fun b hb => by simpa using hg b hb)).int_at (k := j) (by omega)
  have Hx : Hid (x ∈ L) := List.mem_of_getElem? hx
  have Hj : Hid (Cur w1 g) := hc1
  clear hx h1 hg
  go_wp2_with fail
  go_ret
  exact ⟨x, rfl, Hx.out, hc1, hg1⟩
theorem px_grown_alloc (w : World) (o : Obj) (row : Option Nat) : w.grownBy (w.alloc o) row :=
  ⟨rfl, rfl, rfl, by simp, fun k hk _ => Below.heap_alloc w o k hk⟩
/-- A slice that was just built reads its elements. -/
theorem rd_built (w : World) (L : List Int) (t : TypeId) (cs : Array Value) (hc : cs.toList = intCells L) (hm : L.length ≤ 1000) :
    Rd (w.alloc (.cells cs t)) (.slice (some ⟨w.heap.size, 0, none⟩) L.length L.length) L.length (intCells L) := by
  have hs : cs.size = L.length := by rw [← Array.length_toList, hc, intCells_length]
  have h := Rd.of_rowIs (cap := L.length) (L := L) (World.rowIs_alloc w cs t (fun j => .int .i64 (L.getD j 0)) (fun i hi => by
    rw [← Array.getElem?_toList, hc, intCells_get, List.getD_eq_getElem?_getD, List.getElem?_eq_getElem (by omega)]
    rfl)) (by unfold maxLen; omega) hs.symm (fun j x hx => by rw [List.getD_eq_getElem?_getD, hx]; rfl)
  rw [hs] at h
  exact h
/-- What l04Byte, l04Draw answer. -/
def DrawnCh (w : World) (g : Nat) (e : Ending) (w' : World) : Prop :=
  ∃ x : Int, e = .returned (.int .i64 x) ∧ chOk x ∧ Cur w' g ∧ w.grownBy w' (some g)
def DrawnPx (w : World) (g : Nat) (e : Ending) (w' : World) : Prop :=
  ∃ x : Int, e = .returned (.int .i64 x) ∧ pixOk x ∧ Cur w' g ∧ w.grownBy w' (some g)
theorem l04Byte_any (w : World) (g : Nat) (hc : Cur w g) : Calls Try.prog 99 #[.pointer (some ⟨g, 0, none⟩)] w (DrawnCh w g) := by
  go_enter Try.func99, Try.ntmps99
  go_wp2_with fail
  refine (below_any _ _ _ (by omega) hc).mono ?_
  rintro e w1 ⟨x, rfl, h0, h1, _, hc1, hg1⟩
  have h2 : x < 256 := h1 (by omega)
  have hl := hc1.lt
  have hR := rd_built w1 [0, 255, 127, 128, 1, 254, x] 3 #[.int .i64 0, .int .i64 255, .int .i64 127, .int .i64 128, .int .i64 1, .int .i64 254, .int .i64 x] rfl (by simp)
  have hP := pickI_any _ _ _ g (by simp) (hc1.alloc _) hR (fun b hb => by simp [Value.ownBlock] at hb; omega)
  have HP := Lib.hid hP
  clear h1 hR hP
  go_wp2_with fail
  refine HP.out.mono ?_
  rintro e w2 ⟨y, rfl, hy, hc2, hg2⟩
  have hok : Hid (chOk y) := by
    unfold chOk
    simp only [List.mem_cons, List.not_mem_nil, or_false] at hy
    rcases hy with h | h | h | h | h | h | h <;> exact ⟨by omega, by omega⟩
  clear hy HP
  go_wp2_with fail
  go_ret
  exact ⟨y, rfl, hok.out, hc2, (hg1.trans (px_grown_alloc _ _ _)).trans hg2⟩
theorem l04Draw_any (w : World) (g : Nat) (hc : Cur w g) : Calls Try.prog 82 #[.pointer (some ⟨g, 0, none⟩)] w (DrawnPx w g) := by
  go_enter Try.func82, Try.ntmps82
  go_wp2_with fail
  refine (below_any _ _ _ (by omega) hc).mono ?_
  rintro e w1 ⟨x, rfl, h0, h1, _, hc1, hg1⟩
  have h2 : x < 256 := h1 (by omega)
  have hl := hc1.lt
  have hR := rd_built w1 [255, 255, 255, 0, 128, 200, x] 3 #[.int .i64 255, .int .i64 255, .int .i64 255, .int .i64 0, .int .i64 128, .int .i64 200, .int .i64 x] rfl (by simp)
  have hP := pickI_any _ _ _ g (by simp) (hc1.alloc _) hR (fun b hb => by simp [Value.ownBlock] at hb; omega)
  have HP := Lib.hid hP
  clear h1 hR hP
  go_wp2_with fail
  refine HP.out.mono ?_
  rintro e w2 ⟨a, rfl, hy, hc2, hg2⟩
  have ha : Hid (chOk a) := by
    unfold chOk
    simp only [List.mem_cons, List.not_mem_nil, or_false] at hy
    rcases hy with h | h | h | h | h | h | h <;> exact ⟨by omega, by omega⟩
  have hg := (hg1.trans (px_grown_alloc _ _ _)).trans hg2
  clear hy HP hg1 hg2 hc1 hl h0 h2
  go_wp2_with fail
  refine (l04Byte_any _ _ hc2).mono ?_
  rintro e w3 ⟨r, rfl, hr, hc3, hg3⟩
  have hg := hg.trans hg3
  have Hr := Lib.hid hr
  clear hr hg3
  go_wp2_with fail
  refine (l04Byte_any _ _ hc3).mono ?_
  rintro e w4 ⟨u, rfl, hu, hc4, hg4⟩
  have hg := hg.trans hg4
  have Hu := Lib.hid hu
  clear hu hg4
  go_wp2_with fail
  refine (l04Byte_any _ _ hc4).mono ?_
  rintro e w5 ⟨b, rfl, hb, hc5, hg5⟩
  have hg := hg.trans hg5
  have Hb := Lib.hid hb
  clear hb hg5
  go_wp2_with fail
  refine (mkS_in a r u b ha.out Hr.out Hu.out Hb.out _).mono ?_
  rintro e w6 ⟨rfl, rfl⟩
  go_wp2_with fail
  go_ret
  exact ⟨_, rfl, by rw [mk_yes ha.out Hr.out Hu.out Hb.out]; exact pack_ok ha.out Hr.out Hu.out Hb.out, hc5, hg⟩
end Go.Proofs.Ytaggldhlnjbnhaa
