/- LoadImage of the model. No statement is proved here. -/
import Derived.Test.YtokniebejilcbaaMA
import Derived.Test.YtokniebejilcbaaMB
import Derived.Test.YtokniebejilcbaaLyI
import Derived.Test.YtokniebejilcbaaLyS
import Derived.Test.YtokniebejilcbaaProg
import Derived.WalkKit
import Derived.ProofKit
import Derived.OpenShut
import Derived.WalkLawsBesides
import Derived.WalkSpells
import Derived.ShutString
import Derived.ChangeOld
import Derived.Below
import Derived.Lib.Hide
import Derived.BigQuiet
import Derived.Deep.QuietTactic
import Derived.Maps.AppendAt
import Derived.Deep.OwnRows
import Derived.Handy
import Derived.Deep.Draws
import Derived.OwnWalk
import Derived.Deep.AppendLies
import Derived.Deep.LoopGhost
import Derived.Deep.Onto
import Derived.Laws.BitsAllLaws
import Derived.Lib.QuoteBits
import Derived.Test.YtokniebejilcbaaShelf
import Derived.Laws.CopyOwn
import Derived.Deep.RegionLaw
import Derived.Deep.RegionHeld3
import Derived.Deep.DeepCutAuto
import Derived.Great.BuildSlice
import Derived.Deep.MidRow
import Derived.Deep.WholeRow
import Derived.Laws.AppendOwn
import Derived.Carry
import Derived.Maps.Own
import Derived.ChangeKeysEq
import Derived.Deep.RegionWith
import Derived.Shelf.RegionOpenPlain
import Derived.Lib.SliceRun
import Derived.Deep.DeepAppendRoom
namespace Go.Proofs.Ytokniebejilcbaa
open Go.RowKit
theorem rdI_lt {w : World} {v : Value} {L : List Int} (h : RdI w v L) : L ≠ [] → ∀ g, v.ownBlock = some g → g < w.heap.size := by
  intro hne g hg
  rcases h with ⟨rfl, h⟩ | ⟨g0, c, rfl, _, _, hc⟩
  · exact absurd h hne
  · cases L with
    | nil => exact absurd rfl hne
    | cons x r =>
      have e : g0 = g := by simpa [Value.ownBlock] using hg
      subst e
      exact World.block_lt_of_cell? w _ (hc 0 x rfl)
theorem RdI.grownW {w w' : World} {v : Value} {L : List Int} {row : Option Nat} (h : RdI w v L) (hb : w.grownBy w' row) (hr : L ≠ [] → ∀ g, v.ownBlock = some g → some g ≠ row) : RdI w' v L := by
 by_cases hL : L = []
 ·subst hL
  rcases h with h | ⟨g0, c, h1, h2, h3, _⟩
  ·exact .inl h
  ·exact .inr ⟨g0, c, h1, h2, h3, fun k x hk => by simp at hk⟩
 ·exact h.grown hb (hr hL)
theorem repInts_row {w : World} {B : Nat} {v : Value} {L : List Int} {bs : List Nat} (h : repInts.Own B w L [v] bs) : w.ownsRow B 3 1 v L.length (intCells L) := by
 obtain ⟨u, hu, h2, hb⟩ := h.r
 obtain rfl : v = u := by simpa using hu
 exact own_rebase h2 fun b hb' => h.lo b (by rw [hb]; exact hb')
structure ExA (w : World) (v : Value) (ws : List Int) (u : Value) (q : Nat) (A : List Int) (V : World) : Prop where
 rd : RdI V v ws
 own : V.ownsRow w.heap.size 3 1 u q (intCells A)
 bw : Below w.heap.size w V
theorem ExA.call {w : World} {v : Value} {ws : List Int} {u : Value} {q : Nat} {A : List Int} {V V' : World} (h : ExA w v ws u q A V) (hb : Below V.heap.size V V') : ExA w v ws u q A V' := ⟨h.rd.call hb, ownI_call h.own hb, belI_call h.bw hb⟩
theorem ExA.app {w : World} {v : Value} {ws : List Int} {u v2 : Value} {q : Nat} {A : List Int} {z : Int} {V V' : World} {o : Obj} (h : ExA w v ws u q A V) (hv : ws ≠ [] → ∀ g, v.ownBlock = some g → g < w.heap.size) (hn : V'.ownsRow w.heap.size 3 1 v2 (q + 1) (intCells A ++ [.int .i64 z])) (hg : (V.alloc o).grownBy V' u.ownBlock) : ExA w v ws v2 (q + 1) (A ++ [z]) V' := by
 have hlt := fun g hg => (h.own.lt g hg).1
 have h2 := h.call (belI_box V o)
 exact ⟨h2.rd.grownW hg (fun hw g hg2 e => by have h3 := hlt _ e.symm; have h4 := hv hw _ hg2; omega), by rw [intCells_append]; exact hn, h2.bw.grown hg h2.bw.size (fun k e => hlt k e)⟩
theorem exp_more {most : Int} {A ws : List Int} {k : Nat} (h : k + 1 < ws.length) : expR most A (ws.drop k) = if 1 ≤ ws.getD k 0 ∧ ws.getD k 0 ≤ most - A.length then expR most (A ++ List.replicate (ws.getD k 0).toNat (ws.getD (k + 1) 0)) (ws.drop (k + 2)) else [] := by
 rw [List.drop_eq_getElem_cons (by omega : k < ws.length), List.drop_eq_getElem_cons h, expR]
 rw [List.getD_eq_getElem?_getD, List.getD_eq_getElem?_getD, List.getElem?_eq_getElem (by omega : k < ws.length), List.getElem?_eq_getElem h]
 rfl
theorem exp_end {most : Int} {A ws : List Int} {k : Nat} (h : ¬ k + 1 < ws.length) : expR most A (ws.drop k) = A := by
 rcases Nat.lt_or_ge k ws.length with h1 | h1
 ·rw [List.drop_eq_getElem_cons h1, List.drop_of_length_le (by omega)]; rfl
 ·rw [List.drop_of_length_le h1]; rfl
set_option maxHeartbeats 2000000 in
set_option maxRecDepth 10000 in
theorem expS (v : Value) (ws : List Int) (most : Int) (w : World) (hm0 : 0 ≤ most) (hm : most ≤ 256) (hv : RdI w v ws) (hws : ws.length ≤ 2000000) :
  Calls Try.prog 70 #[v, .int .i64 most] w (AnsIs (expR most [] ws) w) := by
 obtain ⟨i0, hi, hz0, hz1, hz2⟩ := info_parts infoInt
 have hgu := rdI_lt hv
 obtain ⟨A0, c0, rfl⟩ := hv.form
 obtain ⟨n, hn⟩ : ∃ n, n = ws.length := ⟨_, rfl⟩
 rw [← hn] at hgu hv hws ⊢
 have Hn := Lib.hid hn
 have Hgu := Lib.hid hgu
 obtain ⟨M, hM⟩ : ∃ M, M = expR most [] ws := ⟨_, rfl⟩
 rw [← hM]
 have HM0 := Lib.hid (show expR most [] (ws.drop 0) = M from by rw [hM]; rfl)
 have HE0 : Hid (ExA w (.slice A0 n c0) ws (.slice (some ⟨w.heap.size, 0, none⟩) 0 0) 0 [] (w.alloc (.cells #[] 3))) := Lib.hid ⟨hv.alloc _, ownI_zero w, belI_box _ _⟩
 clear hn hgu hv hM
 go_enter Try.func70, Try.ntmps70
 go_wp2_with fail
 go_loopg [5, 6] n (fun gk s5 s6 wr => ∃ (k q : Nat) (u : Value) (A : List Int) (V : World), V = wr ∧ n - k ≤ gk ∧ k ≤ n + 2 ∧ u = s5 ∧ s6 = .int .i64 k ∧ q ≤ 256 ∧ (q : Int) ≤ most ∧ Hid (q = A.length) ∧ Hid (expR most A (ws.drop k) = M) ∧ Hid (ExA w (.slice A0 n c0) ws u q A V))
 case atStart => exact ⟨0, 0, _, [], _, rfl, by omega, by omega, rfl, rfl, by omega, by omega, Lib.hid rfl, HM0, HE0⟩
 case round =>
  clear HE0 HM0
  obtain ⟨k, q, u, A, V, hV, hgk, hk, rfl, rfl, hq, hqm, Hq, HM, HE⟩ := hrel
  subst hV
  have k0 : (0 : Int) ≤ (k : Int) := by omega
  by_cases hlt : k + 1 < n
  ·have k1 : (k : Int) + 1 < (n : Int) := by omega
   have k2 : (k : Int) < (n : Int) := by omega
   obtain ⟨gi, x0, hA0, hx0, hc0⟩ := HE.out.rd.at_ (k := k) (by rw [← Hn.out]; omega)
   subst hA0
   obtain ⟨a, ha⟩ : ∃ a, a = ws.getD k 0 := ⟨_, rfl⟩
   obtain ⟨p, hp⟩ : ∃ p, p = ws.getD (k + 1) 0 := ⟨_, rfl⟩
   have hca := rd_at HE.out.rd (k := k) (by rw [← Hn.out]; omega)
   rw [← ha] at hca
   have Hcp := Lib.hid (fun (V : World) (h : RdI V (.slice (some ⟨gi, 0, none⟩) n c0) ws) => (hp ▸ rd_at h (k := k + 1) (by rw [← Hn.out]; omega) : V.cell? ⟨gi, k + 1, none⟩ = some (.int .i64 p)))
   have HX := exp_more (most := most) (A := A) (ws := ws) (k := k) (by rw [← Hn.out]; omega)
   rw [← ha, ← hp, HM.out] at HX
   obtain ⟨Au, cu, hu⟩ := ownI_shape HE.out.own
   subst hu
   by_cases hok : 1 ≤ a ∧ a ≤ most - q
   ·rw [if_pos (by rw [← Hq.out]; exact hok)] at HX
    obtain ⟨m, hm⟩ : ∃ m : Nat, a = m := ⟨a.toNat, by omega⟩
    subst hm
    rw [Int.toNat_natCast] at HX
    obtain ⟨ok1, ok2⟩ := hok
    have HX := Lib.hid HX
    clear hx0 hc0 ha hp HM
    go_wp2_with fail
    refine (inS_yes _ _ _ _ (by omega) (by omega)).mono ?_
    rintro e w' ⟨rfl, rfl⟩
    go_wp2_with fail
    have HE0 : Hid (ExA w (.slice (some ⟨gi, 0, none⟩) n c0) ws (.slice Au q cu) q (A ++ List.replicate 0 p) V) := Lib.hid (by rw [show A ++ List.replicate 0 p = A by simp]; exact HE.out)
    clear hca
    go_loopg [5, 7] m (fun g7 s5 s7 wz => ∃ (j q2 : Nat) (u : Value) (V : World), V = wz ∧ j ≤ m ∧ g7 = m - j ∧ u = s5 ∧ s7 = .int .i64 ((m : Int) - (j : Int)) ∧ q2 ≤ 256 ∧ (q2 : Int) ≤ most ∧ Hid (q2 = q + j) ∧ Hid (ExA w (.slice (some ⟨gi, 0, none⟩) n c0) ws u q2 (A ++ List.replicate j p) V))
    case atStart => exact ⟨0, q, _, _, rfl, by omega, by omega, rfl, by simp, hq, hqm, Lib.hid (by omega), HE0⟩
    case round =>
     clear HE HE0
     obtain ⟨j, q2, u, V, hV, hj, rfl, rfl, rfl, hq3, hq4, Hq2, HE⟩ := hrel
     subst hV
     by_cases hjm : j < m
     ·have hji : (0 : Int) < (m : Int) - (j : Int) := by omega
      have cp := Hcp.out _ HE.out.rd
      have k3 : ((k : Int) + 1).toNat = k + 1 := by omega
      have k4 : (0 : Int) ≤ (k : Int) + 1 := by omega
      have hq5 : q2 + 1 ≤ 256 ∧ ((q2 + 1 : Nat) : Int) ≤ most := by have := Hq2.out; omega
      have hsl : q2 + 1 ≤ maxLen := by unfold maxLen; omega
      have hsz := HE.out.bw.size
      go_wp2_with (at_builtin; refine wpList_append_own _ rfl _ _ 26 rfl (w.heap.size) 3 i0 (.int .i64 0) 1 8 Try.underlying26 hi hz0 hz1 hz2 rfl (by decide) _ _ _ rfl (HE.out.own.alloc _) ⟨_, 0, none⟩ 1 1 _ rfl rfl (World.news_of_block (cs := #[.int .i64 p]) (fr := (0, 0)) (heap_alloc_new _ _)) (by intro u hu; simp at hu; subst hu; rfl) hsl (by omega) (by simp; omega) ?_)
      intro v2 w5 hown2 hgrow _
      have HE2 := Lib.hid (HE.out.app Hgu.out hown2 hgrow)
      obtain ⟨gq, cq, hvq, _, _⟩ := hown2.form (by omega)
      subst hvq
      rw [show A ++ List.replicate j p ++ [p] = A ++ List.replicate (j + 1) p by rw [List.append_assoc, List.replicate_succ']] at HE2
      clear hown2 hgrow HE cp
      go_wp2_with fail
      go_roundg (m - (j + 1))
      case measure => omega
      case rel => exact ⟨j + 1, q2 + 1, _, _, rfl, by omega, rfl, rfl, by go_num, hq5.1, hq5.2, Lib.hid (by rw [Hq2.out]; rfl), HE2⟩
     ·obtain rfl : j = m := by omega
      have hji : ¬ (0 : Int) < (j : Int) - (j : Int) := by omega
      go_wp2_with fail
      go_roundg (n - (k + 2))
      case measure => omega
      case rel => exact ⟨k + 2, q2, _, _, _, rfl, by omega, by omega, rfl, by go_num, hq3, hq4, Lib.hid (by rw [List.length_append, List.length_replicate, ← Hq.out]; exact Hq2.out), Lib.hid HX.out.symm, HE⟩
   ·rw [if_neg (by rw [← Hq.out]; exact hok)] at HX
    have HX := Lib.hid HX
    have Hno := Lib.hid (show a < 1 ∨ most - (q : Int) < a by omega)
    clear hx0 hc0 ha hp hok HM
    go_wp2_with fail
    refine (inS_no _ _ _ _ Hno.out).mono ?_
    rintro e w' ⟨rfl, rfl⟩
    go_wp2_with fail
    go_ret
    rw [HX.out]
    exact ⟨_, rfl, own_rebase (C := w.heap.size) (ownI_zero _) (fun b hb' => by have := HE.out.bw.size; simp [Value.ownBlock] at hb'; omega), belI_call HE.out.bw (belI_box _ _)⟩
  ·have k1 : ¬ (k : Int) + 1 < (n : Int) := by omega
   have HX := Lib.hid (exp_end (most := most) (A := A) (ws := ws) (k := k) (by rw [← Hn.out]; omega))
   go_wp2_with fail
   go_ret
   refine ⟨u, rfl, ?_, HE.out.bw⟩
   rw [← HM.out, HX.out, ← Hq.out]
   exact HE.out.own
def LdAns (I : Im) (b : Bool) (w : World) (e : Ending) (w' : World) : Prop :=
 ∃ u, e = .returned (.tuple #[.agg #[.int .i64 I.w, .int .i64 I.h, u], .bool b]) ∧ w'.ownsRow w.heap.size 3 1 u I.d.length (intCells I.d) ∧ Below w.heap.size w w'
theorem ld_set {w W : World} {lo b n : Nat} {X Y : Int} {A : Option Addr} {c : Nat} {L : List Int} (h : W.ownsRow lo 3 1 (.slice A n c) n (intCells L)) (hn : L.length = n) (hb1 : w.heap.size ≤ b) (hb2 : b < lo) (K : Below w.heap.size w W) :
  LdAns ⟨X, Y, L⟩ true w (.returned (.tuple #[.agg #[.int .i64 X, .int .i64 Y, .slice A n c], .bool true])) (((W.setCell ⟨b, 0, none⟩ (.int .i64 X)).setCell ⟨b, 1, none⟩ (.int .i64 Y)).setCell ⟨b, 2, none⟩ (.slice A n c)) := by
 subst hn
 have hlt := fun g hg => (h.lt g hg).1
 exact ⟨_, rfl, ownI_far (ownI_far (ownI_far (h.mono (by omega)) (fun g hg => by have := hlt g hg; dsimp only; omega) _) (fun g hg => by have := hlt g hg; dsimp only; omega) _) (fun g hg => by have := hlt g hg; dsimp only; omega) _, ((K.setCell hb1 _).setCell hb1 _).setCell hb1 _⟩
theorem ld_zero {w W : World} (b : Nat) (hB : w.heap.size ≤ b) (hb : Below w.heap.size w W) : LdAns ⟨0, 0, []⟩ false w (.returned (.tuple #[.agg #[.int .i64 0, .int .i64 0, .slice none 0 0], .bool false])) (((W.setCell ⟨b, 0, none⟩ (.int .i64 0)).setCell ⟨b, 1, none⟩ (.int .i64 0)).setCell ⟨b, 2, none⟩ (.slice none 0 0)) :=
 ⟨_, rfl, World.ownsRow_nil _ _ _ _, ((hb.setCell hB _).setCell hB _).setCell hB _⟩
theorem st_calls {P : Program} {f : FuncId} {args : Array Value} {M : List Int} {b : Bool} {V : World} (h : Calls P f args V (StAns M b V)) :
  Calls P f args V fun e w' => ∃ A c, e = .returned (.tuple #[.slice A M.length c, .bool b]) ∧ RdI w' (.slice A M.length c) M ∧ Below V.heap.size V w' := h.mono fun e w' ha => by
 obtain ⟨u, bs, rfl, ho, hb2⟩ := ha
 have h2 := repInts_rd ho.r
 obtain ⟨A, c, rfl⟩ := h2.form
 exact ⟨A, c, rfl, h2, hb2⟩
structure LdA (w : World) (r : Nat) (v : Value) (ws : List Int) (V : World) : Prop where
 r : ImAt V r 32 0 0 (.slice none 0 0)
 rd : RdI V v ws
 bw : Below w.heap.size w V
theorem LdA.call {w : World} {r : Nat} {v : Value} {ws : List Int} {V V' : World} (h : LdA w r v ws V) (hb : Below V.heap.size V V') : LdA w r v ws V' := ⟨h.r.call hb, h.rd.call hb, belI_call h.bw hb⟩
theorem LdA.drew {w : World} {r : Nat} {v : Value} {ws : List Int} {V : World} (h : LdA w r v ws V) : LdA w r v ws V.drew := ⟨h.r, h.rd.drew, h.bw.drew⟩
theorem LdA.own {w : World} {r : Nat} {v : Value} {ws : List Int} {V V' : World} {row : Option Nat} (h : LdA w r v ws V) (hr : w.heap.size ≤ r) (hv : ws ≠ [] → ∀ g, v.ownBlock = some g → g < w.heap.size) (hg : V.grownBy V' row) (hk : ∀ k, row = some k → r + 1 ≤ k) : LdA w r v ws V' :=
 ⟨h.r.grown hg (fun e => by have := hk _ e.symm; omega), h.rd.grownW hg (fun hw g hg2 e => by have := hk _ e.symm; have := hv hw _ hg2; omega), h.bw.grown hg h.bw.size (fun k e => by have := hk _ e; omega)⟩
structure LdX (w : World) (r b : Nat) (W H : Int) (v : Value) (ws : List Int) (u : Value) (q : Nat) (D : List Int) (V : World) : Prop where
 o : LdA w r v ws V
 i : ImAt V b 32 W H u
 own : V.ownsRow (b + 1) 3 1 u q (intCells D)
theorem LdX.call {w : World} {r b : Nat} {W H : Int} {v : Value} {ws : List Int} {u : Value} {q : Nat} {D : List Int} {V V' : World} (h : LdX w r b W H v ws u q D V) (hb : Below V.heap.size V V') : LdX w r b W H v ws u q D V' := ⟨h.o.call hb, h.i.call hb, ownI_call h.own hb⟩
set_option maxHeartbeats 1000000 in
theorem ldS_sz (W H l : Int) (v : Value) (ws : List Int) (w : World) (hz : ¬ szOk W H) (hv : RdI w v ws) :
  Calls Try.prog 25 #[v, .int .i64 W, .int .i64 H, .int .i64 l] w (LdAns (ldM ws W H l) (ldB ws W H l) w) := by
 have HZ := Lib.hid (ldM_sz (ws := ws) (l := l) hz)
 have hr : ImAt (w.alloc (.cells #[.int .i64 0, .int .i64 0, .slice none 0 0] 32)) w.heap.size 32 0 0 (.slice none 0 0) := ImAt.new _ _ _ _ _
 have HB := Lib.hid (belI_box w (.cells #[.int .i64 0, .int .i64 0, .slice none 0 0] 32))
 obtain ⟨V0, hV0⟩ : ∃ V, V = w.alloc (.cells #[.int .i64 0, .int .i64 0, .slice none 0 0] 32) := ⟨_, rfl⟩
 rw [← hV0] at hr HB
 have HV0 := Lib.hid hV0
 obtain ⟨r0, r1, r2⟩ := hr.cells
 have f0 := hr.frozen 0
 have f1 := hr.frozen 1
 have f2 := hr.frozen 2
 have HJ := Lib.hid (hr.set3 0 0 (.slice none 0 0))
 obtain ⟨A0, c0, rfl⟩ := hv.form
 clear hr hv hV0
 unfold szOk at hz
 by_cases h1 : 1 ≤ W ∧ W ≤ 16
 ·have H7 := Lib.hid (show H < 1 ∨ 16 < H by omega)
  obtain ⟨h1, h2⟩ := h1
  clear hz
  go_enter Try.func25, Try.ntmps25
  go_wp2_with fail
  refine (inS_yes W 1 16 _ h1 h2).mono ?_
  rintro e w' ⟨rfl, hw⟩
  rw [← HV0.out] at hw
  subst hw
  go_wp2_with fail
  refine (inS_no H 1 16 _ H7.out).mono ?_
  rintro e w' ⟨rfl, rfl⟩
  go_wp2_with fail
  obtain ⟨s0, s1, s2⟩ := HJ.out.cells
  exact bodyPost_ret (v := .tuple #[.agg #[.int .i64 0, .int .i64 0, .slice none 0 0], .bool false]) (by simp [results, Try.results25, go_sem, s0, s1, s2]) rfl (by rw [HZ.out.1, HZ.out.2]; exact ld_zero (w.heap.size) (by omega) HB.out)
 ·have H7 := Lib.hid (show W < 1 ∨ 16 < W by omega)
  clear hz h1
  go_enter Try.func25, Try.ntmps25
  go_wp2_with fail
  refine (inS_no W 1 16 _ H7.out).mono ?_
  rintro e w' ⟨rfl, hw⟩
  rw [← HV0.out] at hw
  subst hw
  go_wp2_with fail
  obtain ⟨s0, s1, s2⟩ := HJ.out.cells
  exact bodyPost_ret (v := .tuple #[.agg #[.int .i64 0, .int .i64 0, .slice none 0 0], .bool false]) (by simp [results, Try.results25, go_sem, s0, s1, s2]) rfl (by rw [HZ.out.1, HZ.out.2]; exact ld_zero (w.heap.size) (by omega) HB.out)
set_option maxHeartbeats 4000000 in
set_option maxRecDepth 10000 in
theorem ldS_run (W H l : Int) (v : Value) (ws : List Int) (w : World) (hz : szOk W H) (hl : l = 2) (hv : RdI w v ws) (hws : ws.length ≤ 2000000) :
  Calls Try.prog 25 #[v, .int .i64 W, .int .i64 H, .int .i64 l] w (LdAns (ldM ws W H l) (ldB ws W H l) w) := by
 subst hl
 have hm := sz_mul hz
 obtain ⟨D, hD⟩ : ∃ D, D = expR (W * H) [] ws := ⟨_, rfl⟩
 have HCd : Hid (∀ E, ldP ws W H 2 E → D = E) := Lib.hid (fun E h => by rw [hD]; exact ld_exp h rfl)
 obtain ⟨hm1, hm2⟩ := hm
 have hgu := rdI_lt hv
 obtain ⟨A0, c0, rfl⟩ := hv.form
 obtain ⟨n, hn⟩ : ∃ n, n = ws.length := ⟨_, rfl⟩
 rw [← hn] at hgu hv hws ⊢
 have Hn := Lib.hid hn
 have Hgu := Lib.hid hgu
 have HT0 : Hid (LdX w (w.heap.size) (w.heap.size + 1) W H (.slice A0 n c0) ws (.slice none 0 0) 0 [] ((w.alloc (.cells #[.int .i64 0, .int .i64 0, .slice none 0 0] 32)).alloc (.cells #[.int .i64 W, .int .i64 H, .slice none 0 0] 32))) :=
  Lib.hid ⟨⟨(ImAt.new _ _ _ _ _).alloc _, (hv.alloc _).alloc _, belI_call (belI_box _ _) (belI_box _ _)⟩, ImAt.newAt (by simp) _ _ _ _, World.ownsRow_nil _ _ _ _⟩
 obtain ⟨V0, hV0⟩ : ∃ V, V = (w.alloc (.cells #[.int .i64 0, .int .i64 0, .slice none 0 0] 32)).alloc (.cells #[.int .i64 W, .int .i64 H, .slice none 0 0] 32) := ⟨_, rfl⟩
 rw [← hV0] at HT0
 have HV0 := Lib.hid hV0
 obtain ⟨W1, W2, H1, H2⟩ := id hz
 clear hn hgu hv hV0
 have HEX := fun V h => ans_calls (Below.refl _ V) (expS (.slice A0 n c0) ws (W * H) V hm1 hm2 h (by rw [← Hn.out]; exact hws))
 rw [← hD] at HEX
 have HEX := Lib.hid HEX
 clear hD hz
 go_enter Try.func25, Try.ntmps25
 go_wp2_with fail
 refine (inS_yes W 1 16 _ W1 W2).mono ?_
 rintro e w' ⟨rfl, rfl⟩
 go_wp2_with fail
 refine (inS_yes H 1 16 _ H1 H2).mono ?_
 rintro e w' ⟨rfl, rfl⟩
 go_wp2_with fail
 rw [← HV0.out]
 refine (HEX.out _ HT0.out.o.rd).mono ?_
 rintro e w4 ⟨Aq, cq, rfl, ho, hb⟩
 have HT1 := HT0.out.call hb
 obtain ⟨i0', i1', i2'⟩ := HT1.i.cells
 have f2 := HT1.i.frozen 2
 have hlo := HT0.out.i.lt
 obtain ⟨q, hq⟩ : ∃ q, q = D.length := ⟨_, rfl⟩
 have ho2 := repInts_row ho
 rw [← hq] at ho2 ⊢
 have hne : ∀ g, (Value.slice Aq q cq).ownBlock = some g → w.heap.size + 1 ≠ g := fun g hg => by have := (ho2.lt g hg).1; omega
 have HT : Hid (LdX w (w.heap.size) (w.heap.size + 1) W H (.slice A0 n c0) ws (.slice Aq q cq) q (D) (w4.setCell ⟨w.heap.size + 1, 2, none⟩ (.slice Aq q cq))) := Lib.hid ⟨HT1.o.own (Nat.le_refl _) Hgu.out (grown_setI _ _ _ _) (fun k e => by injection e with e; omega), HT1.i.set2 _, ownI_far (ho2.mono (by omega)) (p := ⟨w.heap.size + 1, 2, none⟩) (fun g hg e => hne g hg e.symm) _⟩
 have Hq := Lib.hid hq
 clear hb HT0 ho ho2 hq HT1 hne
 go_wp2_with fail
 clear i0' i1' i2' f2
 have HCA := Lib.hid (ld_cand HCd.out)
 have HST := fun V h => st_calls (stS W H D 2 (.slice Aq q cq) V h)
 obtain ⟨sb, hsb⟩ : ∃ b, b = stB W H D 2 := ⟨_, rfl⟩
 obtain ⟨sm, hsm⟩ : ∃ m, m = stM W H D 2 := ⟨_, rfl⟩
 rw [← hsb, ← hsm] at HST
 have HST := Lib.hid HST
 have Hsb := Lib.hid hsb
 have Hsm := Lib.hid hsm
 clear hsb hsm
 refine (HST.out _ (RdI.of_own HT.out.own)).mono ?_
 rintro e w5 ⟨A2, c2, rfl, hrd2, hb⟩
 have HT2 := Lib.hid (HT.out.call hb)
 have HR2 := Lib.hid hrd2
 clear hb hrd2 HT
 cases sb
 ·have HZ := Lib.hid (HCA.out.2 fun h => by rw [← Hsb.out] at h; cases h.1)
  have hr := HT2.out.o.r
  obtain ⟨r0, r1, r2⟩ := hr.cells
  have f0 := hr.frozen 0
  have f1 := hr.frozen 1
  have f2 := hr.frozen 2
  have HJ := Lib.hid (hr.set3 0 0 (.slice none 0 0))
  clear hr
  go_wp2_with fail
  obtain ⟨s0, s1, s2⟩ := HJ.out.cells
  exact bodyPost_ret (v := .tuple #[.agg #[.int .i64 0, .int .i64 0, .slice none 0 0], .bool false]) (by simp [results, Try.results25, go_sem, s0, s1, s2]) rfl (by rw [HZ.out.1, HZ.out.2]; exact ld_zero (w.heap.size) (by omega) HT2.out.o.bw)
 ·have HEQ := fun V hx hy => l05Ints_any (.slice A2 sm.length c2) (.slice A0 n c0) sm ws V hx hy
  unfold ImEqAns at HEQ
  go_wp2_with fail
  by_cases he : sm = ws
  ·have HZ := Lib.hid (HCA.out.1 ⟨Hsb.out.symm, by rw [← Hsm.out]; exact he⟩)
   rw [show imEq sm ws = true by rw [he]; exact imEq_yes ws] at HEQ
   refine (HEQ _ HR2.out HT2.out.o.rd).mono ?_
   rintro e w6 ⟨rfl, nq, rfl⟩
   have HT3 := Lib.hid (HT2.out.call (below_drewN (Below.refl _ w5) nq))
   have hr := HT3.out.o.r
   obtain ⟨r0, r1, r2⟩ := hr.cells
   have f0 := hr.frozen 0
   have f1 := hr.frozen 1
   have f2 := hr.frozen 2
   have HJ := Lib.hid (hr.set3 W H (.slice Aq q cq))
   obtain ⟨i0', i1', i2'⟩ := HT3.out.i.cells
   clear hr he HEQ
   go_wp2_with fail
   obtain ⟨s0, s1, s2⟩ := HJ.out.cells
   exact bodyPost_ret (v := .tuple #[.agg #[.int .i64 W, .int .i64 H, .slice Aq q cq], .bool true]) (by simp [results, Try.results25, go_sem, s0, s1, s2]) rfl (by rw [HZ.out.1, HZ.out.2]; exact ld_set HT3.out.own Hq.out.symm (by omega) (by omega) HT3.out.o.bw)
  ·have HZ := Lib.hid (HCA.out.2 fun h => he (by rw [Hsm.out]; exact h.2))
   rw [imEq_no he] at HEQ
   refine (HEQ _ HR2.out HT2.out.o.rd).mono ?_
   rintro e w6 ⟨rfl, nq, rfl⟩
   have HT3 := Lib.hid (HT2.out.call (below_drewN (Below.refl _ w5) nq))
   have hr := HT3.out.o.r
   obtain ⟨r0, r1, r2⟩ := hr.cells
   have f0 := hr.frozen 0
   have f1 := hr.frozen 1
   have f2 := hr.frozen 2
   have HJ := Lib.hid (hr.set3 0 0 (.slice none 0 0))
   clear hr he HEQ
   go_wp2_with fail
   obtain ⟨s0, s1, s2⟩ := HJ.out.cells
   exact bodyPost_ret (v := .tuple #[.agg #[.int .i64 0, .int .i64 0, .slice none 0 0], .bool false]) (by simp [results, Try.results25, go_sem, s0, s1, s2]) rfl (by rw [HZ.out.1, HZ.out.2]; exact ld_zero (w.heap.size) (by omega) HT3.out.o.bw)
set_option maxHeartbeats 4000000 in
set_option maxRecDepth 10000 in
theorem ldS_not (W H l : Int) (v : Value) (ws : List Int) (w : World) (hz : szOk W H) (hl : l ≠ 2) (hc : wct W H l ≠ ws.length) (hv : RdI w v ws) (_ : ws.length ≤ 2000000) :
  Calls Try.prog 25 #[v, .int .i64 W, .int .i64 H, .int .i64 l] w (LdAns (ldM ws W H l) (ldB ws W H l) w) := by
 have HCd : Hid (∀ E, ldP ws W H l E → ([] : List Int) = E) := Lib.hid (fun E h => absurd (ld_pl h (by have := h.2.1; have := h.2.2.1; omega)).1.symm hc)
 have HC := fun V => wctS W H l V
 unfold IntIs at HC
 obtain ⟨ct, hct⟩ : ∃ c, c = wct W H l := ⟨_, rfl⟩
 rw [← hct] at HC hc
 have HC := Lib.hid HC
 have hgu := rdI_lt hv
 obtain ⟨A0, c0, rfl⟩ := hv.form
 obtain ⟨n, hn⟩ : ∃ n, n = ws.length := ⟨_, rfl⟩
 rw [← hn] at hgu hv ⊢
 have Hn := Lib.hid hn
 have Hgu := Lib.hid hgu
 have HT0 : Hid (LdX w (w.heap.size) (w.heap.size + 1) W H (.slice A0 n c0) ws (.slice none 0 0) 0 [] ((w.alloc (.cells #[.int .i64 0, .int .i64 0, .slice none 0 0] 32)).alloc (.cells #[.int .i64 W, .int .i64 H, .slice none 0 0] 32))) :=
  Lib.hid ⟨⟨(ImAt.new _ _ _ _ _).alloc _, (hv.alloc _).alloc _, belI_call (belI_box _ _) (belI_box _ _)⟩, ImAt.newAt (by simp) _ _ _ _, World.ownsRow_nil _ _ _ _⟩
 obtain ⟨V0, hV0⟩ : ∃ V, V = (w.alloc (.cells #[.int .i64 0, .int .i64 0, .slice none 0 0] 32)).alloc (.cells #[.int .i64 W, .int .i64 H, .slice none 0 0] 32) := ⟨_, rfl⟩
 rw [← hV0] at HT0
 have HV0 := Lib.hid hV0
 obtain ⟨W1, W2, H1, H2⟩ := id hz
 clear hn hgu hv hV0
 have hcn : ¬ ct = (n : Int) := by rw [Hn.out]; exact hc
 obtain ⟨D, hD⟩ : ∃ D : List Int, D = [] := ⟨_, rfl⟩
 obtain ⟨q, hq⟩ : ∃ q, q = 0 := ⟨_, rfl⟩
 have Hq := Lib.hid (show q = D.length by rw [hD, hq]; rfl)
 have HT := HT0
 rw [← hD, show LdX w w.heap.size (w.heap.size + 1) W H (.slice A0 n c0) ws (.slice none 0 0) 0 D V0 = LdX w w.heap.size (w.heap.size + 1) W H (.slice A0 n c0) ws (.slice none 0 0) q D V0 by rw [hq]] at HT
 rw [← hD] at HCd
 have Hq0 := Lib.hid hq
 clear hct hc hD hz hq HT0
 go_enter Try.func25, Try.ntmps25
 go_wp2_with fail
 refine (inS_yes W 1 16 _ W1 W2).mono ?_
 rintro e w' ⟨rfl, rfl⟩
 go_wp2_with fail
 refine (inS_yes H 1 16 _ H1 H2).mono ?_
 rintro e w' ⟨rfl, rfl⟩
 go_wp2_with fail
 refine (HC.out _).mono ?_
 rintro e w3 ⟨rfl, hw3⟩
 rw [← HV0.out] at hw3
 subst hw3
 have HCA := Lib.hid (ld_cand HCd.out)
 have HST := fun V h => st_calls (stS W H D l (.slice none 0 0) V h)
 obtain ⟨sb, hsb⟩ : ∃ b, b = stB W H D l := ⟨_, rfl⟩
 obtain ⟨sm, hsm⟩ : ∃ m, m = stM W H D l := ⟨_, rfl⟩
 rw [← hsb, ← hsm] at HST
 have HST := Lib.hid HST
 have Hsb := Lib.hid hsb
 have Hsm := Lib.hid hsm
 clear hsb hsm
 obtain ⟨i0', i1', i2'⟩ := HT.out.i.cells
 go_wp2_with fail
 refine (HST.out _ (RdI.of_own HT.out.own)).mono ?_
 rintro e w5 ⟨A2, c2, rfl, hrd2, hb⟩
 have HT2 := Lib.hid (HT.out.call hb)
 have HR2 := Lib.hid hrd2
 clear hb hrd2 i0' i1' i2' HT
 cases sb
 ·have HZ := Lib.hid (HCA.out.2 fun h => by rw [← Hsb.out] at h; cases h.1)
  have hr := HT2.out.o.r
  obtain ⟨r0, r1, r2⟩ := hr.cells
  have f0 := hr.frozen 0
  have f1 := hr.frozen 1
  have f2 := hr.frozen 2
  have HJ := Lib.hid (hr.set3 0 0 (.slice none 0 0))
  clear hr
  go_wp2_with fail
  obtain ⟨s0, s1, s2⟩ := HJ.out.cells
  exact bodyPost_ret (v := .tuple #[.agg #[.int .i64 0, .int .i64 0, .slice none 0 0], .bool false]) (by simp [results, Try.results25, go_sem, s0, s1, s2]) rfl (by rw [HZ.out.1, HZ.out.2]; exact ld_zero (w.heap.size) (by omega) HT2.out.o.bw)
 ·have HEQ := fun V hx hy => l05Ints_any (.slice A2 sm.length c2) (.slice A0 n c0) sm ws V hx hy
  unfold ImEqAns at HEQ
  go_wp2_with fail
  by_cases he : sm = ws
  ·have HZ := Lib.hid (HCA.out.1 ⟨Hsb.out.symm, by rw [← Hsm.out]; exact he⟩)
   rw [show imEq sm ws = true by rw [he]; exact imEq_yes ws] at HEQ
   refine (HEQ _ HR2.out HT2.out.o.rd).mono ?_
   rintro e w6 ⟨rfl, nq, rfl⟩
   have HT3 := Lib.hid (HT2.out.call (below_drewN (Below.refl _ w5) nq))
   have hr := HT3.out.o.r
   obtain ⟨r0, r1, r2⟩ := hr.cells
   have f0 := hr.frozen 0
   have f1 := hr.frozen 1
   have f2 := hr.frozen 2
   have HJ := Lib.hid (hr.set3 W H (.slice none 0 0))
   obtain ⟨i0', i1', i2'⟩ := HT3.out.i.cells
   clear hr he HEQ
   go_wp2_with fail
   obtain ⟨s0, s1, s2⟩ := HJ.out.cells
   exact bodyPost_ret (v := .tuple #[.agg #[.int .i64 W, .int .i64 H, .slice none 0 0], .bool true]) (by simp [results, Try.results25, go_sem, s0, s1, s2]) rfl (by rw [HZ.out.1, HZ.out.2]; exact ld_set (by have h := HT3.out.own; rw [Hq0.out] at h; exact h) (by rw [← Hq.out, Hq0.out]) (by omega) (by omega) HT3.out.o.bw)
  ·have HZ := Lib.hid (HCA.out.2 fun h => he (by rw [Hsm.out]; exact h.2))
   rw [imEq_no he] at HEQ
   refine (HEQ _ HR2.out HT2.out.o.rd).mono ?_
   rintro e w6 ⟨rfl, nq, rfl⟩
   have HT3 := Lib.hid (HT2.out.call (below_drewN (Below.refl _ w5) nq))
   have hr := HT3.out.o.r
   obtain ⟨r0, r1, r2⟩ := hr.cells
   have f0 := hr.frozen 0
   have f1 := hr.frozen 1
   have f2 := hr.frozen 2
   have HJ := Lib.hid (hr.set3 0 0 (.slice none 0 0))
   clear hr he HEQ
   go_wp2_with fail
   obtain ⟨s0, s1, s2⟩ := HJ.out.cells
   exact bodyPost_ret (v := .tuple #[.agg #[.int .i64 0, .int .i64 0, .slice none 0 0], .bool false]) (by simp [results, Try.results25, go_sem, s0, s1, s2]) rfl (by rw [HZ.out.1, HZ.out.2]; exact ld_zero (w.heap.size) (by omega) HT3.out.o.bw)
set_option maxHeartbeats 4000000 in
set_option maxRecDepth 10000 in
theorem ldS_pl (W H : Nat) (l : Int) (v : Value) (ws : List Int) (w : World) (hz : szOk W H) (hl : l ≠ 2) (hc : wct W H l = ws.length) (hv : RdI w v ws) (hws : ws.length ≤ 2000000) :
  Calls Try.prog 25 #[v, .int .i64 W, .int .i64 H, .int .i64 l] w (LdAns (ldM ws W H l) (ldB ws W H l) w) := by
 have hl01 : l = 0 ∨ l = 1 := Classical.byContradiction fun h => by
  have h2 := wct_no (W := W) (H := H) (l := l) fun k => h k.2
  omega
 obtain ⟨F, hF⟩ : ∃ F, F = fun k => ws.getD (plk W H l k) 0 := ⟨_, rfl⟩
 have HCd0 : Hid (∀ E, ldP ws W H l E → tabI (W * H) F = E) := Lib.hid (fun E h => by
  have h2 := (ld_pl h hl01).2
  have h3 : (E.length : Int) = W * H := h.1.2.1
  rw [show W * H = E.length by have := Int.natCast_mul W H; omega, hF]
  exact h2)
 have HC := fun V => wctS W H l V
 unfold IntIs at HC
 rw [hc] at HC
 obtain ⟨gi, c0, rfl, -, -⟩ := rd_block hv (by have := wct_bd hz hl01; omega)
 have hgu2 := rdI_lt hv
 obtain ⟨n, hn⟩ : ∃ n, n = ws.length := ⟨_, rfl⟩
 rw [← hn] at hgu2 hv hws HC hc ⊢
 have HC := Lib.hid HC
 have Hn := Lib.hid hn
 have Hct := Lib.hid hc
 have Hz := Lib.hid hz
 have Hl := Lib.hid hl01
 have HF := Lib.hid hF
 have HS0 : Hid (LdX w (w.heap.size) (w.heap.size + 1) W H (.slice (some ⟨gi, 0, none⟩) n c0) ws (.slice none 0 0) 0 (tabI 0 F) ((w.alloc (.cells #[.int .i64 0, .int .i64 0, .slice none 0 0] 32)).alloc (.cells #[.int .i64 W, .int .i64 H, .slice none 0 0] 32))) :=
  Lib.hid ⟨⟨(ImAt.new _ _ _ _ _).alloc _, (hv.alloc _).alloc _, belI_call (belI_box _ _) (belI_box _ _)⟩, ImAt.newAt (by simp) _ _ _ _, World.ownsRow_nil _ _ _ _⟩
 obtain ⟨V0, hV0⟩ : ∃ V, V = (w.alloc (.cells #[.int .i64 0, .int .i64 0, .slice none 0 0] 32)).alloc (.cells #[.int .i64 W, .int .i64 H, .slice none 0 0] 32) := ⟨_, rfl⟩
 rw [← hV0] at HS0
 have HV0 := Lib.hid hV0
 obtain ⟨W1, W2, H1, H2⟩ := id hz
 clear hn hv hV0 hF hc hl01 hz
 go_enter Try.func25, Try.ntmps25
 go_wp2_with fail
 refine (inS_yes W 1 16 _ W1 W2).mono ?_
 rintro e w' ⟨rfl, rfl⟩
 go_wp2_with fail
 refine (inS_yes H 1 16 _ H1 H2).mono ?_
 rintro e w' ⟨rfl, rfl⟩
 go_wp2_with fail
 refine (HC.out _).mono ?_
 rintro e w3 ⟨rfl, hw3⟩
 rw [← HV0.out] at hw3
 subst hw3
 go_wp2_with fail
 go_loopg [11] H (fun gk s11 wr => ∃ (y q : Nat) (u : Value) (V : World), V = wr ∧ y ≤ H ∧ gk = H - y ∧ s11 = .int .i64 y ∧ Hid (q = y * W + 0) ∧ q ≤ 256 ∧ Hid (LdX w (w.heap.size) (w.heap.size + 1) W H (.slice (some ⟨gi, 0, none⟩) n c0) ws u q (tabI q F) V))
 case atStart => exact ⟨0, 0, _, _, rfl, by omega, by omega, rfl, Lib.hid (by simp), by omega, HS0⟩
 case round =>
  clear HS0
  obtain ⟨y, q, u, wy, hV, hy2, rfl, rfl, Hq, hq, HS⟩ := hrel
  subst hV
  by_cases hyl : y < H
  ·have hyi : (y : Int) < (H : Int) := by omega
   go_wp2_with fail
   go_loopg [12] W (fun g3 s12 wz => ∃ (x q : Nat) (u : Value) (V : World), V = wz ∧ x ≤ W ∧ g3 = W - x ∧ s12 = .int .i64 x ∧ Hid (q = y * W + x) ∧ q ≤ 256 ∧ Hid (LdX w (w.heap.size) (w.heap.size + 1) W H (.slice (some ⟨gi, 0, none⟩) n c0) ws u q (tabI q F) V))
   case atStart => exact ⟨0, q, _, _, rfl, by omega, by omega, rfl, Hq, hq, HS⟩
   case round =>
    clear HS Hq hq
    obtain ⟨x, q, u, wx, hV, hx2, rfl, rfl, Hq, hq, HS⟩ := hrel
    subst hV
    by_cases hxl : x < W
    ·have hxi : (x : Int) < (W : Int) := by omega
     have hb2 := wpl_bd Hz.out Hl.out (x := (x : Int)) (y := (y : Int)) ⟨by omega, hxi⟩ ⟨by omega, hyi⟩
     have HP := fun V => wplS W H l x y V
     unfold IntIs at HP
     obtain ⟨p, hp⟩ : ∃ p, p = (wpl W H l x y).toNat := ⟨_, rfl⟩
     have hp2 : wpl W H l x y = (p : Int) := by omega
     rw [hp2] at HP
     have HP := Lib.hid HP
     have hpn : p < n := by have := Hct.out; omega
     have hpi : (p : Int) < (n : Int) := by omega
     have hp0 : (0 : Int) ≤ (p : Int) := by omega
     obtain ⟨z, hzz⟩ : ∃ z, z = ws.getD p 0 := ⟨_, rfl⟩
     have HM : Hid (F (y * W + x) = z) := Lib.hid (by rw [HF.out, hzz]; show ws.getD (plk W H l (y * W + x)) 0 = _; unfold plk; rw [plk_nat _ _ _ W _ rfl, plc_mod y hxl, plc_div y hxl, ← hp])
     have Hzc := Lib.hid (fun (V : World) (h : RdI V (.slice (some ⟨gi, 0, none⟩) n c0) ws) => (hzz ▸ rd_at h (k := p) (by rw [← Hn.out]; exact hpn) : V.cell? ⟨gi, p, none⟩ = some (.int .i64 z)))
     have hq1 : q + 1 ≤ 256 := by have h3 := mul_256 (W := W) (H := H) (by omega) (by omega); have h4 := plc_lt hxl hyl; have := Hq.out; omega
     clear hp hp2 hb2 hzz
     go_upto_region 13 with fail
     refine wp_region_held_drew (S := fun V => LdA w (w.heap.size) (.slice (some ⟨gi, 0, none⟩) n c0) ws V) (by kernel_rfl) HS.out.o.drew (fun hS => ?_)
     have hOw := show World.ownsRow wx.drew _ _ _ _ _ _ from HS.out.own
     have him := HS.out.i.drew
     refine tcH (i := 0) (v := .pointer (some ⟨w.heap.size + 1, 2, none⟩)) rfl (by intro w' hSw; (try dsimp only at hSw); (have zc := Hzc.out _ hSw.rd); go_simp) ?_
     refine tcH (i := 2) (v := .slice (some ⟨gi, 0, none⟩) n c0) rfl (by intro w' hSw; (try dsimp only at hSw); (have zc := Hzc.out _ hSw.rd); go_simp) ?_
     refine tcH (i := 3) (v := .int .i64 (W : Int)) rfl (by intro w' hSw; (try dsimp only at hSw); (have zc := Hzc.out _ hSw.rd); go_simp) ?_
     refine tcH (i := 4) (v := .int .i64 (H : Int)) rfl (by intro w' hSw; (try dsimp only at hSw); (have zc := Hzc.out _ hSw.rd); go_simp) ?_
     refine tcH (i := 5) (v := .int .i64 l) rfl (by intro w' hSw; (try dsimp only at hSw); (have zc := Hzc.out _ hSw.rd); go_simp) ?_
     refine tcH (i := 6) (v := .int .i64 (x : Int)) rfl (by intro w' hSw; (try dsimp only at hSw); (have zc := Hzc.out _ hSw.rd); go_simp) ?_
     refine tcH (i := 7) (v := .int .i64 (y : Int)) rfl (by intro w' hSw; (try dsimp only at hSw); (have zc := Hzc.out _ hSw.rd); go_simp) ?_
     (try simp only [Act.put]); (try simp only [zPa]); (try simp only [zPb, zPc])
     refine wpAnyH_ready (rs := [1, 8]) (by kernel_rfl) (by simp) ?_
     refine (AllReadyH.cons rfl (fun K hK => ?_) (AllReadyH.cons rfl (fun K hK => ?_) AllReadyH.nil))
     ·rw [if_pos (by kernel_rfl)]
      (try simp only [zGa]); (try simp only [zGb]); (try simp only [zGc])
      have m2 := him.cells.2.2
      go_simp
      skip
      skip
      clear m2
      refine hK.out _ _ (hS) (fun hS => ?_)
      clear hK
      (try simp only [Act.put]); (try simp only [zPa]); (try simp only [zPb, zPc])
      refine wpAnyH_ready (rs := [8]) (by kernel_rfl) (by simp) ?_
      refine (AllReadyH.cons rfl (fun K hK => ?_) AllReadyH.nil)
      ·rw [if_pos (by kernel_rfl)]
       (try simp only [zGa]); (try simp only [zGb]); (try simp only [zGc])
       go_simp
       with_reducible refine (HP.out _).mono ?_
       rintro e W' ⟨rfl, hw⟩
       obtain rfl := hw
       dsimp only
       skip
       skip
       refine hK.out _ _ (hS) (fun hS => ?_)
       clear hK
       (try simp only [Act.put]); (try simp only [zPa]); (try simp only [zPb, zPc])
       refine tcH (i := 9) (v := .pointer (some ⟨gi, p, none⟩)) rfl (by intro w' hSw; (try dsimp only at hSw); (have zc := Hzc.out _ hSw.rd); go_simp) ?_
       refine tcH (i := 10) (v := .int .i64 z) rfl (by intro w' hSw; (try dsimp only at hSw); (have zc := Hzc.out _ hSw.rd); go_simp) ?_
       (try simp only [Act.put]); (try simp only [zPa]); (try simp only [zPb, zPc])
       refine wpAnyH_ready (rs := [11]) (by kernel_rfl) (by simp) ?_
       refine (AllReadyH.cons rfl (fun K hK => ?_) AllReadyH.nil)
       ·rw [if_pos (by kernel_rfl)]
        (try simp only [zGa]); (try simp only [zGb]); (try simp only [zGc])
        refine wp_build1I 65 (.tmp 64) z rfl (by first | with_reducible rfl | (go_simp; done) | rfl) rfl ?_
        intro g5 W' hb hR5
        have hOw := ownI_call hOw hb
        have him := him.call hb
        refine hK.out _ _ (hS.call hb) (fun hS => ?_)
        clear hK
        (try simp only [Act.put]); (try simp only [zPa]); (try simp only [zPb, zPc])
        refine wpAnyH_ready (rs := [12]) (by kernel_rfl) (by simp) ?_
        refine (AllReadyH.cons rfl (fun K hK => ?_) AllReadyH.nil)
        ·rw [if_pos (by kernel_rfl)]
         (try simp only [zGa]); (try simp only [zGb]); (try simp only [zGc])
         have hlt := fun g hg => (hOw.lt g hg).1
         have hbl := him.lt
         refine wp_append1I (.tmp 55) (.tmp 65) rfl (w.heap.size + 1 + 1) u q (tabI q F) (by first | with_reducible rfl | (go_simp; done) | rfl) hOw g5 z (by first | with_reducible rfl | (go_simp; done) | rfl) hR5 (by omega) (by omega) ?_
         intro g7 c7 w7 hown7 hgr7
         have him7 := him.grown hgr7 (fun e => by have := hlt _ e.symm; omega)
         skip
         skip
         skip
         refine hK.out _ _ (hS.own (Nat.le_refl _) hgu2 hgr7 (fun k e => by have := hlt _ e; omega)) (fun hS => ?_)
         clear hK
         (try simp only [Act.put]); (try simp only [zPa]); (try simp only [zPb, zPc])
         refine tcH (i := 13) (v := .pointer (some ⟨w.heap.size + 1, 2, none⟩)) rfl (by intro w' hSw; (try dsimp only at hSw); (have zc := Hzc.out _ hSw.rd); go_simp) ?_
         (try simp only [Act.put]); (try simp only [zPa]); (try simp only [zPb, zPc])
         refine wpAnyH_ready (rs := [14]) (by kernel_rfl) (by simp) ?_
         refine (AllReadyH.cons rfl (fun K hK => ?_) AllReadyH.nil)
         ·rw [if_pos (by kernel_rfl)]
          (try simp only [zGa]); (try simp only [zGb]); (try simp only [zGc])
          have m2 := him7.cells.2.2
          have f2 := him7.frozen 2
          go_simp
          skip
          skip
          skip
          clear m2 f2
          refine hK.out _ _ (hS.own (Nat.le_refl _) hgu2 (grown_setI _ (w.heap.size + 1) 2 _) (fun k e => by injection e with e; omega)) (fun hS => ?_)
          clear hK
          (try simp only [Act.put]); (try simp only [zPa]); (try simp only [zPb, zPc])
          refine wpAnyH_done (by kernel_rfl) ?_ _
          go_wp2_with fail
          go_roundg (W - (x + 1))
          case measure => omega
          case rel =>
           refine ⟨x + 1, q + 1, _, _, rfl, by omega, by omega, by go_num, Lib.hid (by rw [Hq.out]; omega), hq1, Lib.hid ⟨hS, him7.set2 _, ?_⟩⟩
           rw [tabI_succ, show F q = z by rw [Hq.out]; exact HM.out]
           exact ownI_far hown7 (p := ⟨w.heap.size + 1, 2, none⟩) (fun g hg => by have := (hown7.lt g hg).1; dsimp only; omega) _
     ·rw [if_pos (by kernel_rfl)]
      (try simp only [zGa]); (try simp only [zGb]); (try simp only [zGc])
      go_simp
      with_reducible refine (HP.out _).mono ?_
      rintro e W' ⟨rfl, hw⟩
      obtain rfl := hw
      dsimp only
      skip
      skip
      refine hK.out _ _ (hS) (fun hS => ?_)
      clear hK
      (try simp only [Act.put]); (try simp only [zPa]); (try simp only [zPb, zPc])
      refine tcH (i := 9) (v := .pointer (some ⟨gi, p, none⟩)) rfl (by intro w' hSw; (try dsimp only at hSw); (have zc := Hzc.out _ hSw.rd); go_simp) ?_
      refine tcH (i := 10) (v := .int .i64 z) rfl (by intro w' hSw; (try dsimp only at hSw); (have zc := Hzc.out _ hSw.rd); go_simp) ?_
      (try simp only [Act.put]); (try simp only [zPa]); (try simp only [zPb, zPc])
      refine wpAnyH_ready (rs := [1, 11]) (by kernel_rfl) (by simp) ?_
      refine (AllReadyH.cons rfl (fun K hK => ?_) (AllReadyH.cons rfl (fun K hK => ?_) AllReadyH.nil))
      ·rw [if_pos (by kernel_rfl)]
       (try simp only [zGa]); (try simp only [zGb]); (try simp only [zGc])
       have m2 := him.cells.2.2
       go_simp
       skip
       skip
       clear m2
       refine hK.out _ _ (hS) (fun hS => ?_)
       clear hK
       (try simp only [Act.put]); (try simp only [zPa]); (try simp only [zPb, zPc])
       refine wpAnyH_ready (rs := [11]) (by kernel_rfl) (by simp) ?_
       refine (AllReadyH.cons rfl (fun K hK => ?_) AllReadyH.nil)
       ·rw [if_pos (by kernel_rfl)]
        (try simp only [zGa]); (try simp only [zGb]); (try simp only [zGc])
        refine wp_build1I 65 (.tmp 64) z rfl (by first | with_reducible rfl | (go_simp; done) | rfl) rfl ?_
        intro g5 W' hb hR5
        have hOw := ownI_call hOw hb
        have him := him.call hb
        refine hK.out _ _ (hS.call hb) (fun hS => ?_)
        clear hK
        (try simp only [Act.put]); (try simp only [zPa]); (try simp only [zPb, zPc])
        refine wpAnyH_ready (rs := [12]) (by kernel_rfl) (by simp) ?_
        refine (AllReadyH.cons rfl (fun K hK => ?_) AllReadyH.nil)
        ·rw [if_pos (by kernel_rfl)]
         (try simp only [zGa]); (try simp only [zGb]); (try simp only [zGc])
         have hlt := fun g hg => (hOw.lt g hg).1
         have hbl := him.lt
         refine wp_append1I (.tmp 55) (.tmp 65) rfl (w.heap.size + 1 + 1) u q (tabI q F) (by first | with_reducible rfl | (go_simp; done) | rfl) hOw g5 z (by first | with_reducible rfl | (go_simp; done) | rfl) hR5 (by omega) (by omega) ?_
         intro g7 c7 w7 hown7 hgr7
         have him7 := him.grown hgr7 (fun e => by have := hlt _ e.symm; omega)
         skip
         skip
         skip
         refine hK.out _ _ (hS.own (Nat.le_refl _) hgu2 hgr7 (fun k e => by have := hlt _ e; omega)) (fun hS => ?_)
         clear hK
         (try simp only [Act.put]); (try simp only [zPa]); (try simp only [zPb, zPc])
         refine tcH (i := 13) (v := .pointer (some ⟨w.heap.size + 1, 2, none⟩)) rfl (by intro w' hSw; (try dsimp only at hSw); (have zc := Hzc.out _ hSw.rd); go_simp) ?_
         (try simp only [Act.put]); (try simp only [zPa]); (try simp only [zPb, zPc])
         refine wpAnyH_ready (rs := [14]) (by kernel_rfl) (by simp) ?_
         refine (AllReadyH.cons rfl (fun K hK => ?_) AllReadyH.nil)
         ·rw [if_pos (by kernel_rfl)]
          (try simp only [zGa]); (try simp only [zGb]); (try simp only [zGc])
          have m2 := him7.cells.2.2
          have f2 := him7.frozen 2
          go_simp
          skip
          skip
          skip
          clear m2 f2
          refine hK.out _ _ (hS.own (Nat.le_refl _) hgu2 (grown_setI _ (w.heap.size + 1) 2 _) (fun k e => by injection e with e; omega)) (fun hS => ?_)
          clear hK
          (try simp only [Act.put]); (try simp only [zPa]); (try simp only [zPb, zPc])
          refine wpAnyH_done (by kernel_rfl) ?_ _
          go_wp2_with fail
          go_roundg (W - (x + 1))
          case measure => omega
          case rel =>
           refine ⟨x + 1, q + 1, _, _, rfl, by omega, by omega, by go_num, Lib.hid (by rw [Hq.out]; omega), hq1, Lib.hid ⟨hS, him7.set2 _, ?_⟩⟩
           rw [tabI_succ, show F q = z by rw [Hq.out]; exact HM.out]
           exact ownI_far hown7 (p := ⟨w.heap.size + 1, 2, none⟩) (fun g hg => by have := (hown7.lt g hg).1; dsimp only; omega) _
      ·rw [if_pos (by kernel_rfl)]
       (try simp only [zGa]); (try simp only [zGb]); (try simp only [zGc])
       refine wp_build1I 65 (.tmp 64) z rfl (by first | with_reducible rfl | (go_simp; done) | rfl) rfl ?_
       intro g5 W' hb hR5
       have hOw := ownI_call hOw hb
       have him := him.call hb
       refine hK.out _ _ (hS.call hb) (fun hS => ?_)
       clear hK
       (try simp only [Act.put]); (try simp only [zPa]); (try simp only [zPb, zPc])
       refine wpAnyH_ready (rs := [1]) (by kernel_rfl) (by simp) ?_
       refine (AllReadyH.cons rfl (fun K hK => ?_) AllReadyH.nil)
       ·rw [if_pos (by kernel_rfl)]
        (try simp only [zGa]); (try simp only [zGb]); (try simp only [zGc])
        have m2 := him.cells.2.2
        go_simp
        skip
        skip
        skip
        clear m2
        refine hK.out _ _ (hS) (fun hS => ?_)
        clear hK
        (try simp only [Act.put]); (try simp only [zPa]); (try simp only [zPb, zPc])
        refine wpAnyH_ready (rs := [12]) (by kernel_rfl) (by simp) ?_
        refine (AllReadyH.cons rfl (fun K hK => ?_) AllReadyH.nil)
        ·rw [if_pos (by kernel_rfl)]
         (try simp only [zGa]); (try simp only [zGb]); (try simp only [zGc])
         have hlt := fun g hg => (hOw.lt g hg).1
         have hbl := him.lt
         refine wp_append1I (.tmp 55) (.tmp 65) rfl (w.heap.size + 1 + 1) u q (tabI q F) (by first | with_reducible rfl | (go_simp; done) | rfl) hOw g5 z (by first | with_reducible rfl | (go_simp; done) | rfl) hR5 (by omega) (by omega) ?_
         intro g7 c7 w7 hown7 hgr7
         have him7 := him.grown hgr7 (fun e => by have := hlt _ e.symm; omega)
         skip
         skip
         skip
         refine hK.out _ _ (hS.own (Nat.le_refl _) hgu2 hgr7 (fun k e => by have := hlt _ e; omega)) (fun hS => ?_)
         clear hK
         (try simp only [Act.put]); (try simp only [zPa]); (try simp only [zPb, zPc])
         refine tcH (i := 13) (v := .pointer (some ⟨w.heap.size + 1, 2, none⟩)) rfl (by intro w' hSw; (try dsimp only at hSw); (have zc := Hzc.out _ hSw.rd); go_simp) ?_
         (try simp only [Act.put]); (try simp only [zPa]); (try simp only [zPb, zPc])
         refine wpAnyH_ready (rs := [14]) (by kernel_rfl) (by simp) ?_
         refine (AllReadyH.cons rfl (fun K hK => ?_) AllReadyH.nil)
         ·rw [if_pos (by kernel_rfl)]
          (try simp only [zGa]); (try simp only [zGb]); (try simp only [zGc])
          have m2 := him7.cells.2.2
          have f2 := him7.frozen 2
          go_simp
          skip
          skip
          skip
          clear m2 f2
          refine hK.out _ _ (hS.own (Nat.le_refl _) hgu2 (grown_setI _ (w.heap.size + 1) 2 _) (fun k e => by injection e with e; omega)) (fun hS => ?_)
          clear hK
          (try simp only [Act.put]); (try simp only [zPa]); (try simp only [zPb, zPc])
          refine wpAnyH_done (by kernel_rfl) ?_ _
          go_wp2_with fail
          go_roundg (W - (x + 1))
          case measure => omega
          case rel =>
           refine ⟨x + 1, q + 1, _, _, rfl, by omega, by omega, by go_num, Lib.hid (by rw [Hq.out]; omega), hq1, Lib.hid ⟨hS, him7.set2 _, ?_⟩⟩
           rw [tabI_succ, show F q = z by rw [Hq.out]; exact HM.out]
           exact ownI_far hown7 (p := ⟨w.heap.size + 1, 2, none⟩) (fun g hg => by have := (hown7.lt g hg).1; dsimp only; omega) _
    ·obtain rfl : x = W := by omega
     go_wp2_with fail
     go_roundg (H - (y + 1))
     case measure => omega
     case rel => exact ⟨y + 1, q, _, _, rfl, by omega, by omega, by go_num, Lib.hid (by rw [Hq.out, Nat.add_mul, Nat.one_mul]; rfl), hq, HS⟩
  ·obtain rfl : y = H := by omega
   obtain ⟨D, hD⟩ : ∃ D, D = tabI q F := ⟨_, rfl⟩
   have Hq2 := Lib.hid (show q = D.length by rw [hD, tabI_length])
   have HCd : Hid (∀ E, ldP ws W y l E → D = E) := Lib.hid (fun E h => by rw [hD, show q = W * y by rw [Hq.out, Nat.mul_comm]; rfl]; exact HCd0.out E h)
   have HT := HS
   rw [← hD] at HT
   have Hq := Hq2
   clear hD HS Hq2
   obtain ⟨Au, cu, hu⟩ := ownI_shape HT.out.own
   subst hu
   have HCA := Lib.hid (ld_cand HCd.out)
   have HST := fun V h => st_calls (stS W y D l (.slice Au q cu) V h)
   obtain ⟨sb, hsb⟩ : ∃ b, b = stB W y D l := ⟨_, rfl⟩
   obtain ⟨sm, hsm⟩ : ∃ m, m = stM W y D l := ⟨_, rfl⟩
   rw [← hsb, ← hsm] at HST
   have HST := Lib.hid HST
   have Hsb := Lib.hid hsb
   have Hsm := Lib.hid hsm
   clear hsb hsm
   obtain ⟨i0', i1', i2'⟩ := HT.out.i.cells
   go_wp2_with fail
   refine (HST.out _ (RdI.of_own HT.out.own)).mono ?_
   rintro e w5 ⟨A2, c2, rfl, hrd2, hb⟩
   have HT2 := Lib.hid (HT.out.call hb)
   have HR2 := Lib.hid hrd2
   clear hb hrd2 i0' i1' i2' HT
   cases sb
   ·have HZ := Lib.hid (HCA.out.2 fun h => by rw [← Hsb.out] at h; cases h.1)
    have hr := HT2.out.o.r
    obtain ⟨r0, r1, r2⟩ := hr.cells
    have f0 := hr.frozen 0
    have f1 := hr.frozen 1
    have f2 := hr.frozen 2
    have HJ := Lib.hid (hr.set3 0 0 (.slice none 0 0))
    clear hr
    go_wp2_with fail
    obtain ⟨s0, s1, s2⟩ := HJ.out.cells
    exact bodyPost_ret (v := .tuple #[.agg #[.int .i64 0, .int .i64 0, .slice none 0 0], .bool false]) (by simp [results, Try.results25, go_sem, s0, s1, s2]) rfl (by rw [HZ.out.1, HZ.out.2]; exact ld_zero (w.heap.size) (by omega) HT2.out.o.bw)
   ·have HEQ := fun V hx hy => l05Ints_any (.slice A2 sm.length c2) (.slice (some ⟨gi, 0, none⟩) n c0) sm ws V hx hy
    unfold ImEqAns at HEQ
    go_wp2_with fail
    by_cases he : sm = ws
    ·have HZ := Lib.hid (HCA.out.1 ⟨Hsb.out.symm, by rw [← Hsm.out]; exact he⟩)
     rw [show imEq sm ws = true by rw [he]; exact imEq_yes ws] at HEQ
     refine (HEQ _ HR2.out HT2.out.o.rd).mono ?_
     rintro e w6 ⟨rfl, nq, rfl⟩
     have HT3 := Lib.hid (HT2.out.call (below_drewN (Below.refl _ w5) nq))
     have hr := HT3.out.o.r
     obtain ⟨r0, r1, r2⟩ := hr.cells
     have f0 := hr.frozen 0
     have f1 := hr.frozen 1
     have f2 := hr.frozen 2
     have HJ := Lib.hid (hr.set3 W y (.slice Au q cu))
     obtain ⟨i0', i1', i2'⟩ := HT3.out.i.cells
     clear hr he HEQ
     go_wp2_with fail
     obtain ⟨s0, s1, s2⟩ := HJ.out.cells
     exact bodyPost_ret (v := .tuple #[.agg #[.int .i64 W, .int .i64 y, .slice Au q cu], .bool true]) (by simp [results, Try.results25, go_sem, s0, s1, s2]) rfl (by rw [HZ.out.1, HZ.out.2]; exact ld_set HT3.out.own Hq.out.symm (by omega) (by omega) HT3.out.o.bw)
    ·have HZ := Lib.hid (HCA.out.2 fun h => he (by rw [Hsm.out]; exact h.2))
     rw [imEq_no he] at HEQ
     refine (HEQ _ HR2.out HT2.out.o.rd).mono ?_
     rintro e w6 ⟨rfl, nq, rfl⟩
     have HT3 := Lib.hid (HT2.out.call (below_drewN (Below.refl _ w5) nq))
     have hr := HT3.out.o.r
     obtain ⟨r0, r1, r2⟩ := hr.cells
     have f0 := hr.frozen 0
     have f1 := hr.frozen 1
     have f2 := hr.frozen 2
     have HJ := Lib.hid (hr.set3 0 0 (.slice none 0 0))
     clear hr he HEQ
     go_wp2_with fail
     obtain ⟨s0, s1, s2⟩ := HJ.out.cells
     exact bodyPost_ret (v := .tuple #[.agg #[.int .i64 0, .int .i64 0, .slice none 0 0], .bool false]) (by simp [results, Try.results25, go_sem, s0, s1, s2]) rfl (by rw [HZ.out.1, HZ.out.2]; exact ld_zero (w.heap.size) (by omega) HT3.out.o.bw)
theorem ldS (X Y l : Int) (v : Value) (ws : List Int) (w : World) (hv : RdI w v ws) (hws : ws.length ≤ 2000000) :
  Calls Try.prog 25 #[v, .int .i64 X, .int .i64 Y, .int .i64 l] w (LdAns (ldM ws X Y l) (ldB ws X Y l) w) := by
 by_cases hz : szOk X Y
 ·by_cases hl : l = 2
  ·exact ldS_run X Y l v ws w hz hl hv hws
  ·by_cases hc : wct X Y l = ws.length
   ·obtain ⟨h1, h2, h3, h4⟩ := id hz
    obtain ⟨W, rfl⟩ := Int.eq_ofNat_of_zero_le (show 0 ≤ X by omega)
    obtain ⟨H, rfl⟩ := Int.eq_ofNat_of_zero_le (show 0 ≤ Y by omega)
    exact ldS_pl W H l v ws w hz hl hc hv hws
   ·exact ldS_not X Y l v ws w hz hl hc hv hws
 ·exact ldS_sz X Y l v ws w hz hv
end Go.Proofs.Ytokniebejilcbaa
