/- Texts of mine in one file: Bk, Var, RectEq, ImV, ImP, EqR, MarkR, ToR. No statement is proved here. -/
import Derived.Test.YtdgagooldlnpeaaGreatMA
import Derived.Test.YtdgagooldlnpeaaGreatMAv23
import Derived.Test.YtdgagooldlnpeaaGreatMAv012
import Derived.Test.YtdgagooldlnpeaaGreatMAv023
import Derived.Test.YtdgagooldlnpeaaGreatProg
import Derived.WalkKit
import Derived.ProofKit
import Derived.OpenShut
import Derived.WalkLawsBesides
import Derived.WalkSpells
import Derived.ShutString
import Derived.ChangeOld
import Derived.Below
import Derived.Lib.Hide
import Derived.Deep.MidRow
import Derived.Deep.WholeRow
import Derived.Maps.AppendAt
import Derived.BigQuiet
import Derived.Deep.QuietTactic
import Derived.Deep.OwnRows
import Derived.Handy
import Derived.Deep.Draws
import Derived.OwnWalk
import Derived.Deep.AppendLies
import Derived.Deep.LoopGhost
import Derived.Deep.Onto
import Derived.Deep.RegionHeld3
import Derived.Deep.DeepCutAuto
import Derived.Laws.BitsAllLaws
import Derived.Lib.QuoteBits
import Derived.Laws.AppendOwn
namespace Go.Proofs.YtdgagooldlnpeaaGreat
open Go.RowKit
theorem wp_alloc_bk {op : Oper} {a : Act} {w : World} {K : Act → World → Prop} {Q : Exit → Act → World → Prop} (t : TypeId) (cs : Array Value) (hz : ∀ w, (zeroValue t).run Tryz.prog w = .ok (.agg cs) w) (ho : op.op = .alloc t) (d : Nat) (hd : op.dst = some d)
  (h : ∀ b W', Below w.heap.size w W' → BkAt W' b t cs → w.heap.size ≤ b → K (a.put (some d) (.pointer (some ⟨b, 0, none⟩))) W') : op.wp Tryz.prog a w K Q := by
 have h1 := h w.heap.size (w.alloc (.cells cs t)) ((Below.refl _ _).alloc (Nat.le_refl _) _) (BkAt.new w _ _) (Nat.le_refl _)
 have hz := hz w
 unfold Oper.wp execOp
 simp only [ho, Instr.alloc, Sem.run_bind, hz, Result.andThen_ok, Sem.run_pure]
 rw [← hd] at h1
 exact h1
end Go.Proofs.YtdgagooldlnpeaaGreat
namespace Go.Proofs.YtdgagooldlnpeaaGreat
open Go.RowKit
section
variable {α : Type} {F : Wk α} {t : TypeId} {b : Nat} {a : α} {vs : List Value} {W W' : World}
end
section
variable {α : Type} {E : Rep α} {t : TypeId} {lo hi b : Nat} {a a' : α} {vs : List Value} {bs cs : List Nat} {W W' : World}
theorem VarB.made {w : World} (hat : BkAt W b t vs.toArray) (ho : E.Own w.heap.size W a vs bs) (hb : w.heap.size ≤ b) (hn : b ∉ bs) : VarB E t w.heap.size W.heap.size b a vs bs W :=
 ⟨hat, ho, hb, hat.lt, fun k hk => ⟨E.ex ho.r k hk, fun e => hn (e ▸ hk)⟩, Nat.le_refl _⟩
end
end Go.Proofs.YtdgagooldlnpeaaGreat
namespace Go.Proofs.YtdgagooldlnpeaaGreat
open Go.RowKit
theorem toRect_any (r : Rc) (w : World) :
  Calls Tryz.prog 159 #[.agg #[.int .i64 r.x, .int .i64 r.y, .int .i64 r.w, .int .i64 r.h]] w fun e w' => e = .returned (.agg #[.int .i64 r.x, .int .i64 r.y, .int .i64 r.w, .int .i64 r.h]) ∧ Below w.heap.size w w' := by
 go_enter Tryz.func159, Tryz.ntmps159
 go_wp2
 exact bodyPost_ret (v := .agg #[.int .i64 r.x, .int .i64 r.y, .int .i64 r.w, .int .i64 r.h]) (by simp [results, Tryz.results159, go_sem]) rfl ⟨rfl, by
  repeat first | exact Below.refl _ _ | refine Below.setCell ?_ (by first | (simp; done) | (simp; omega)) _ | refine Below.alloc ?_ (by first | (simp; done) | (simp; omega)) _⟩
theorem eqRect_same (r : Rc) (w : World) :
  Calls Tryz.prog 129 #[.agg #[.int .i64 r.x, .int .i64 r.y, .int .i64 r.w, .int .i64 r.h], .agg #[.int .i64 r.x, .int .i64 r.y, .int .i64 r.w, .int .i64 r.h]] w fun e w' => e = .returned (.bool true) ∧ Below w.heap.size w w' := by
 go_enter Tryz.func129, Tryz.ntmps129
 go_wp2
 go_ret
 exact ⟨rfl, ((Below.refl _ _).alloc (Nat.le_refl _) _).alloc (by simp) _⟩
end Go.Proofs.YtdgagooldlnpeaaGreat
namespace Go.Proofs.YtdgagooldlnpeaaGreat
open Go.RowKit
theorem ImV.mark {lo hi b : Nat} {X Y : Int} {v : Value} {L M : List Int} {W W' : World} (h : ImV lo hi b X Y v L W) (hown : W'.ownsRow lo 3 1 v L.length (intCells M)) (hl : M.length = L.length) (hg : W.grownBy W' v.ownBlock) : ImV lo hi b X Y v M W' :=
 ⟨h.at_.grown hg (fun e => (h.hk _ e.symm).2 rfl), by rw [hl]; exact hown, h.lb, h.hb, h.hk, Nat.le_trans h.hs hg.size⟩
end Go.Proofs.YtdgagooldlnpeaaGreat
namespace Go.Proofs.YtdgagooldlnpeaaGreat
open Go.RowKit
theorem frameI (W H : Int) (A : Option Addr) (n c : Nat) (w : World) :
  Calls Tryz.prog 82 #[.agg #[.int .i64 W, .int .i64 H, .slice A n c]] w fun e w' => e = .returned (.agg #[.int .i64 0, .int .i64 0, .int .i64 W, .int .i64 H]) ∧ Below w.heap.size w w' := by
 go_enter Tryz.func82, Tryz.ntmps82
 go_wp2_with fail
 exact bodyPost_ret (v := .agg #[.int .i64 0, .int .i64 0, .int .i64 W, .int .i64 H]) (by simp [results, Tryz.results82, go_sem]) rfl ⟨rfl, by repeat (first | exact Below.refl _ _ | refine Below.setCell ?_ (by simp; try omega) _ | refine Below.alloc ?_ (by simp; try omega) _)⟩
end Go.Proofs.YtdgagooldlnpeaaGreat
namespace Go.Proofs.YtdgagooldlnpeaaGreat
open Go.RowKit
set_option maxHeartbeats 1000000 in
set_option maxRecDepth 10000 in
theorem eqRectS_same (v u : Value) (L : List Rc) (w : World) (hv : RdR w v L) (hu : RdR w u L) :
  Calls Tryz.prog 66 #[v, u] w fun e w' => e = .returned (.bool true) ∧ Below w.heap.size w w' := by
 obtain ⟨A, c, rfl⟩ := hv.form
 obtain ⟨A', c', rfl⟩ := hu.form
 have hn1 : L.length ≤ 9223372036854775807 := by have := hv.len; unfold maxLen at this; omega
 obtain ⟨n, hn⟩ : ∃ n, n = L.length := ⟨_, rfl⟩
 rw [← hn] at hn1 hv hu ⊢
 have Hn := Lib.hid hn
 have Hv := Lib.hid hv
 have Hu := Lib.hid hu
 clear hn hv hu
 go_enter Tryz.func66, Tryz.ntmps66
 go_wp2_with fail
 go_loopw [5] (fun i wr => ∃ k : Nat, k ≤ n ∧ i = .int .i64 k ∧ Below w.heap.size w wr) (fun i _ => n - (intOf i).toNat)
 case atStart => exact ⟨0, Nat.zero_le _, rfl, Below.refl _ _⟩
 case round =>
  obtain ⟨k, hk, rfl, hb⟩ := hrel
  by_cases hlt : k < n
  ·obtain ⟨ga, r, rfl, hr, hC⟩ := (Hv.out.call hb).at_ (k := k) (by rw [← Hn.out]; exact hlt)
   obtain ⟨gb, s, rfl, hs, hD⟩ := (Hu.out.call hb).at_ (k := k) (by rw [← Hn.out]; exact hlt)
   rw [hr] at hs
   injection hs with hs
   subst hs
   obtain ⟨a0, a1, a2, a3⟩ := hC.cells
   obtain ⟨b0, b1, b2, b3⟩ := hD.cells
   have k0 : (0 : Int) ≤ (k : Int) := by omega
   have k1 : (k : Int) < (n : Int) := by omega
   clear hr
   go_wp2_with fail
   go_region_held3 (fun w' => (w'.cell? ⟨ga, k * 4, none⟩ = some (.int .i64 r.x) ∧ w'.cell? ⟨ga, k * 4 + 1, none⟩ = some (.int .i64 r.y) ∧ w'.cell? ⟨ga, k * 4 + 2, none⟩ = some (.int .i64 r.w) ∧ w'.cell? ⟨ga, k * 4 + 3, none⟩ = some (.int .i64 r.h)) ∧
     (w'.cell? ⟨gb, k * 4, none⟩ = some (.int .i64 r.x) ∧ w'.cell? ⟨gb, k * 4 + 1, none⟩ = some (.int .i64 r.y) ∧ w'.cell? ⟨gb, k * 4 + 2, none⟩ = some (.int .i64 r.w) ∧ w'.cell? ⟨gb, k * 4 + 3, none⟩ = some (.int .i64 r.h)))
     (with_reducible first | exact ⟨hC.cells, hD.cells⟩ | exact ⟨hC.drew.cells, hD.drew.cells⟩ | fail)
     ((go_at_call 129; (with_reducible refine (eqRect_same r _).mono ?_); rintro e wk ⟨rfl, hbk⟩; (with_reducible first | have hC := hC.call hbk | have hC := hC.drew.call hbk); (with_reducible first | have hD := hD.call hbk | have hD := hD.drew.call hbk); (with_reducible first | have hb := hb.trans (hbk.mono hb.size) | have hb := hb.drew.trans (hbk.mono hb.drew.size))))
   go_wp2_with fail
   go_roundw
   case rel => exact ⟨k + 1, by omega, by go_num, hb⟩
   case measure => simp [intOf]; omega
  ·obtain rfl : k = n := by omega
   go_wp2_with fail
   go_ret
   exact ⟨rfl, hb⟩
def marksL (k : Nat) (n : Nat) : List Rc := (List.range n).map fun j => ⟨(k + 4 * j : Nat), (k + 4 * j + 1 : Nat), (k + 4 * j + 2 : Nat), (k + 4 * j + 3 : Nat)⟩
theorem marksL_length (k n : Nat) : (marksL k n).length = n := by simp [marksL]
theorem marksL_succ (k n : Nat) : marksL k (n + 1) = marksL k n ++ [⟨(k + 4 * n : Nat), (k + 4 * n + 1 : Nat), (k + 4 * n + 2 : Nat), (k + 4 * n + 3 : Nat)⟩] := by
 simp [marksL, List.range_succ]
theorem rcs_put (L M : List Rc) (r s : Rc) (j : Nat) (hj : j = L.length) :
  ((((rcsCells (L ++ r :: M)).set (j * 4) (.int .i64 s.x)).set (j * 4 + 1) (.int .i64 s.y)).set (j * 4 + 2) (.int .i64 s.w)).set (j * 4 + 3) (.int .i64 s.h) = rcsCells (L ++ s :: M) := by
 subst hj
 have e : ∀ t : Rc, rcsCells (L ++ t :: M) = rcsCells L ++ (rcCells t ++ rcsCells M) := fun t => by simp [rcsCells]
 rw [e r, e s]
 have hl := rcsCells_length L
 rw [List.set_append_right _ _ (by omega), List.set_append_right _ _ (by omega), List.set_append_right _ _ (by omega), List.set_append_right _ _ (by omega)]
 congr 1
 rw [hl, show L.length * 4 - L.length * 4 = 0 by omega, show L.length * 4 + 1 - L.length * 4 = 1 by omega, show L.length * 4 + 2 - L.length * 4 = 2 by omega, show L.length * 4 + 3 - L.length * 4 = 3 by omega]
 rfl
theorem own_put4 {w : World} {B gq n cap j : Nat} {e : TypeId} {L M : List Rc} {r : Rc} (hown : w.ownsRow B e 4 (.slice (some ⟨gq, 0, none⟩) n cap) n (rcsCells (L ++ r :: M))) (hj : j = L.length) (x y u h : Int) :
  ((((w.setCell ⟨gq, j * 4, none⟩ (.int .i64 x)).setCell ⟨gq, j * 4 + 1, none⟩ (.int .i64 y)).setCell ⟨gq, j * 4 + 2, none⟩ (.int .i64 u)).setCell ⟨gq, j * 4 + 3, none⟩ (.int .i64 h)).ownsRow B e 4 (.slice (some ⟨gq, 0, none⟩) n cap) n (rcsCells (L ++ ⟨x, y, u, h⟩ :: M)) ∧
  w.grownBy ((((w.setCell ⟨gq, j * 4, none⟩ (.int .i64 x)).setCell ⟨gq, j * 4 + 1, none⟩ (.int .i64 y)).setCell ⟨gq, j * 4 + 2, none⟩ (.int .i64 u)).setCell ⟨gq, j * 4 + 3, none⟩ (.int .i64 h)) (some gq) := by
 obtain ⟨s0, g0⟩ := hown.stored (j * 4) (.int .i64 x)
 obtain ⟨s1, g1⟩ := s0.stored (j * 4 + 1) (.int .i64 y)
 obtain ⟨s2, g2⟩ := s1.stored (j * 4 + 2) (.int .i64 u)
 obtain ⟨s3, g3⟩ := s2.stored (j * 4 + 3) (.int .i64 h)
 rw [show ((((rcsCells (L ++ r :: M)).set (j * 4) (.int .i64 x)).set (j * 4 + 1) (.int .i64 y)).set (j * 4 + 2) (.int .i64 u)).set (j * 4 + 3) (.int .i64 h) = rcsCells (L ++ ⟨x, y, u, h⟩ :: M) from rcs_put L M r ⟨x, y, u, h⟩ j hj] at s3
 exact ⟨s3, ((g0.trans g1).trans g2).trans g3⟩
theorem own_len {w : World} {B n : Nat} {e : TypeId} {v : Value} {L : List Rc} (h : w.ownsRow B e 4 v n (rcsCells L)) : n = L.length := by
 have := h.1; rw [rcsCells_length] at this; omega
set_option maxHeartbeats 1000000 in
set_option maxRecDepth 10000 in
theorem markRS (B : Nat) (e : TypeId) (v : Value) (L : List Rc) (k0 : Nat) (w : World) (hm : k0 + L.length ≤ 1000000000) (hown : w.ownsRow B e 4 v L.length (rcsCells L)) :
  Calls Tryz.prog 70 #[v, .int .i64 k0] w fun ed w' => ed = .returned (.int .i64 ((k0 + 4 * L.length : Nat) : Int)) ∧ w'.ownsRow B e 4 v L.length (rcsCells (marksL k0 L.length)) ∧ w.grownBy w' v.ownBlock := by
 obtain ⟨A, c, rfl⟩ := (RdR.of_own hown).form
 obtain ⟨n, hn⟩ : ∃ n, n = L.length := ⟨_, rfl⟩
 rw [← hn] at hm hown ⊢
 have Hn := Lib.hid hn
 have Hown0 := Lib.hid hown
 clear hn hown
 go_enter Tryz.func70, Tryz.ntmps70
 go_wp2_with fail
 go_loopw [1, 5] (fun s1 i wr => ∃ (k : Nat) (t : Int), k ≤ n ∧ i = .int .i64 k ∧ s1 = .int .i64 t ∧ Hid (t = ((k0 + 4 * k : Nat) : Int)) ∧ wr.ownsRow B e 4 (.slice A n c) n (rcsCells (marksL k0 k ++ L.drop k)) ∧ w.grownBy wr (Value.slice A n c).ownBlock) (fun _ i _ => n - (intOf i).toNat)
 case atStart => exact ⟨0, k0, Nat.zero_le _, rfl, rfl, Lib.hid (by simp), by simpa [marksL] using Hown0.out, World.grownBy.refl _ _⟩
 case round =>
  obtain ⟨k, t, hk, rfl, rfl, Ht, hown, hgr⟩ := hrel
  have ht0 : 0 ≤ t := by have := Ht.out; omega
  have ht1 : t ≤ 5000000000 := by have := Ht.out; omega
  by_cases hlt : k < n
  ·obtain ⟨gq, cap, hv, hgB, hgl⟩ := hown.form (by omega)
   cases hv
   obtain ⟨r, hr⟩ : ∃ r, L.drop k = r :: L.drop (k + 1) := ⟨_, List.drop_eq_getElem_cons (by rw [← Hn.out]; exact hlt)⟩
   rw [hr] at hown
   have hC : C4 wr gq (k * 4) r := by
    obtain ⟨g', r', e1, e2, e3⟩ := (RdR.of_own hown).at_ (k := k) (by rw [← own_len hown]; exact hlt)
    injection e1 with e1
    injection e1 with e1
    rw [List.getElem?_append_right (by rw [marksL_length]; exact Nat.le_refl _), marksL_length, Nat.sub_self] at e2
    injection e2 with e2
    rw [e1, e2]; exact e3
   obtain ⟨c0, c1, c2, c3⟩ := hC.cells
   have f0 := hown.frozenAt (k * 4)
   have f1 := hown.frozenAt (k * 4 + 1)
   have f2 := hown.frozenAt (k * 4 + 2)
   have f3 := hown.frozenAt (k * 4 + 3)
   have k0' : (0 : Int) ≤ (k : Int) := by omega
   have k1' : (k : Int) < (n : Int) := by omega
   have Hown := Lib.hid hown
   have Hgr := Lib.hid hgr
   have HC := Lib.hid hC
   clear hown hgr hC hr
   go_wp2_with fail
   go_roundw
   case rel =>
    obtain ⟨p1, p2⟩ := own_put4 Hown.out (j := k) (by rw [marksL_length]) t (t + 1) (t + 1 + 1) (t + 1 + 1 + 1)
    refine ⟨k + 1, _, by omega, by go_num, rfl, Lib.hid (by have := Ht.out; omega), ?_, Hgr.out.trans p2⟩
    rw [marksL_succ, List.append_assoc]
    have ee : (⟨(k0 + 4 * k : Nat), (k0 + 4 * k + 1 : Nat), (k0 + 4 * k + 2 : Nat), (k0 + 4 * k + 3 : Nat)⟩ : Rc) = ⟨t, t + 1, t + 1 + 1, t + 1 + 1 + 1⟩ := rc_ext (by have := Ht.out; dsimp only; omega)
    rw [ee]
    exact p1
   case measure => simp [intOf]; omega
  ·obtain rfl : k = n := by omega
   have hown2 : wr.ownsRow B e 4 (.slice A k c) k (rcsCells (marksL k0 k)) := by
    have h := hown
    rw [List.drop_of_length_le (by rw [← Hn.out]; exact Nat.le_refl _), List.append_nil] at h
    exact h
   have Hown2 := Lib.hid hown2
   clear hown hown2
   go_wp2_with fail
   go_ret
   exact ⟨ret_int Ht.out, Hown2.out, hgr⟩
end Go.Proofs.YtdgagooldlnpeaaGreat
namespace Go.Proofs.YtdgagooldlnpeaaGreat
open Go.RowKit
theorem markRg (B : Nat) (v : Value) (L : List Rc) (k0 : Nat) (w : World) (hm : k0 + L.length ≤ 1000000000) (hown : w.ownsRow B 113 4 v L.length (rcsCells L)) :
  Calls Tryz.prog 22 #[.agg #[v], .int .i64 k0] w fun ed w' => ed = .returned (.int .i64 ((k0 + 4 * L.length : Nat) : Int)) ∧ w'.ownsRow B 113 4 v L.length (rcsCells (marksL k0 L.length)) ∧ w.grownBy w' v.ownBlock := by
 have hown2 := hown.alloc (.cells #[v] 30)
 have hg := World.grownBy_alloc w (.cells #[v] 30) v.ownBlock
 have hc : (w.alloc (.cells #[v] 30)).cell? ⟨w.heap.size, 0, none⟩ = some v := new_cell w v _
 clear hown
 go_enter Tryz.func22, Tryz.ntmps22
 go_wp2_with fail
 refine (markRS B _ v L k0 _ hm hown2).mono ?_
 rintro e w1 ⟨rfl, h1, h2⟩
 have H1 := Lib.hid h1
 have H2 := Lib.hid (hg.trans h2)
 clear h1 h2 hg hown2
 go_wp2_with fail
 go_ret
 exact ⟨rfl, H1.out, H2.out⟩
theorem eqRg_same (v u : Value) (L : List Rc) (w : World) (hv : RdR w v L) (hu : RdR w u L) :
  Calls Tryz.prog 17 #[.agg #[v], .agg #[u]] w fun e w' => e = .returned (.bool true) ∧ Below w.heap.size w w' := by
 have hv2 := (hv.alloc (.cells #[v] 30)).alloc (.cells #[u] 30)
 have hu2 := (hu.alloc (.cells #[v] 30)).alloc (.cells #[u] 30)
 have hw := ((Below.refl w.heap.size w).alloc (Nat.le_refl _) (.cells #[v] 30)).alloc (by simp) (.cells #[u] 30)
 clear hv hu
 go_enter Tryz.func17, Tryz.ntmps17
 go_wp2_with fail
 refine (eqRectS_same v u L _ hv2 hu2).mono ?_
 rintro e w1 ⟨rfl, hb⟩
 have Hw := Lib.hid (hw.trans (hb.mono hw.size))
 clear hv2 hu2 hw hb
 go_wp2_with fail
 go_ret
 exact ⟨rfl, Hw.out⟩
end Go.Proofs.YtdgagooldlnpeaaGreat
namespace Go.Proofs.YtdgagooldlnpeaaGreat
open Go.RowKit
structure A4 (w : World) (a : Addr) (r : Rc) : Prop where
 c0 : w.cell? a = some (.int .i64 r.x)
 c1 : w.cell? ⟨a.block, a.off + 1, none⟩ = some (.int .i64 r.y)
 c2 : w.cell? ⟨a.block, a.off + 2, none⟩ = some (.int .i64 r.w)
 c3 : w.cell? ⟨a.block, a.off + 3, none⟩ = some (.int .i64 r.h)
def LdR (w : World) (v : Value) (L : List Rc) : Prop :=
 L.length ≤ maxLen ∧ ∃ A c, v = .slice A L.length c ∧ (0 < L.length → ∃ a, A = some a ∧ ∀ k r, L[k]? = some r → A4 w (a.add (k * 4)) r)
theorem A4.call {w w' : World} {a : Addr} {r : Rc} (h : A4 w a r) (hb : Below w.heap.size w w') : A4 w' a r := by
 have hl := World.block_lt_of_cell? w _ h.c0
 exact ⟨(hb.cell hl).trans h.c0, (hb.cell (p := ⟨a.block, a.off + 1, none⟩) hl).trans h.c1, (hb.cell (p := ⟨a.block, a.off + 2, none⟩) hl).trans h.c2, (hb.cell (p := ⟨a.block, a.off + 3, none⟩) hl).trans h.c3⟩
theorem LdR.call {w w' : World} {v : Value} {L : List Rc} (h : LdR w v L) (hb : Below w.heap.size w w') : LdR w' v L := by
 obtain ⟨hm, A, c, rfl, hc⟩ := h
 refine ⟨hm, A, c, rfl, fun h0 => ?_⟩
 obtain ⟨a, rfl, hd⟩ := hc h0
 exact ⟨a, rfl, fun k r hr => (hd k r hr).call hb⟩
theorem LdR.form {w : World} {v : Value} {L : List Rc} (h : LdR w v L) : ∃ A c, v = .slice A L.length c := by
 obtain ⟨_, A, c, rfl, _⟩ := h; exact ⟨A, c, rfl⟩
theorem LdR.at_ {w : World} {A : Option Addr} {n c k : Nat} {L : List Rc} (h : LdR w (.slice A n c) L) (hk : k < L.length) : ∃ a r, A = some a ∧ L[k]? = some r ∧ A4 w (a.add (k * 4)) r := by
 obtain ⟨_, A', c', he, hc⟩ := h
 injection he with e1 e2 e3
 subst e1
 obtain ⟨g, rfl, hd⟩ := hc (by omega)
 exact ⟨g, L[k], rfl, List.getElem?_eq_getElem _, hd k _ (List.getElem?_eq_getElem _)⟩
theorem szRS_yes (n : Nat) (A : Option Addr) (c : Nat) (l : Int) (h : (n : Int) ≤ l) (hl : l ≤ 2097152) (w : World) :
  Calls Tryz.prog 99 #[.slice A n c, .int .i64 l] w fun e w' => e = .returned (.int .i64 (l - n)) ∧ w = w' := by
 have h1 : ¬ (l - (n : Int) < 0) := by omega
 go_enter Tryz.func99, Tryz.ntmps99
 go_wp2
 go_ret
 exact ⟨rfl, rfl⟩
theorem szRS_no (n : Nat) (A : Option Addr) (c : Nat) (hn : n ≤ maxLen) (l : Int) (h0 : 0 ≤ l) (h : l < (n : Int)) (w : World) :
  Calls Tryz.prog 99 #[.slice A n c, .int .i64 l] w fun e w' => e = .returned (.int .i64 (-1)) ∧ w = w' := by
 unfold maxLen at hn
 have h1 : l - (n : Int) < 0 := by omega
 go_enter Tryz.func99, Tryz.ntmps99
 go_wp2
 go_ret
 exact ⟨rfl, rfl⟩
theorem szRg_yes (n : Nat) (A : Option Addr) (c : Nat) (l : Int) (h : (n : Int) ≤ l) (hl : l ≤ 2097152) (w : World) :
  Calls Tryz.prog 46 #[.agg #[.slice A n c], .int .i64 l] w fun e w' => e = .returned (.int .i64 (l - n)) ∧ Below w.heap.size w w' := by
 have h1 : ¬ (l - (n : Int) < 0) := by omega
 go_enter Tryz.func46, Tryz.ntmps46
 go_wp2_with fail
 refine (szRS_yes n A c l h hl _).mono ?_
 rintro e w1 ⟨rfl, rfl⟩
 go_wp2_with fail
 go_ret
 exact ⟨rfl, (Below.refl _ _).alloc (Nat.le_refl _) _⟩
theorem szRg_no (n : Nat) (A : Option Addr) (c : Nat) (hn : n ≤ maxLen) (l : Int) (h0 : 0 ≤ l) (h : l < (n : Int)) (w : World) :
  Calls Tryz.prog 46 #[.agg #[.slice A n c], .int .i64 l] w fun e w' => e = .returned (.int .i64 (-1)) ∧ Below w.heap.size w w' := by
 go_enter Tryz.func46, Tryz.ntmps46
 go_wp2_with fail
 refine (szRS_no n A c hn l h0 h _).mono ?_
 rintro e w1 ⟨rfl, rfl⟩
 go_wp2_with fail
 go_ret
 exact ⟨rfl, (Below.refl _ _).alloc (Nat.le_refl _) _⟩
theorem made_rects (n : Nat) : (madeCells #[.int .i64 0, .int .i64 0, .int .i64 0, .int .i64 0] (n * 4)).toList = rcsCells (List.replicate n ⟨0, 0, 0, 0⟩) := by
 have h1 : (madeCells #[.int .i64 0, .int .i64 0, .int .i64 0, .int .i64 0] (n * 4)).toList = List.replicate (n * 4) (.int .i64 0) := by
  rw [List.eq_replicate_iff]
  refine ⟨by simp [size_madeCells], fun b hb => ?_⟩
  simp only [madeCells, Array.toList_map, Array.toList_range, List.mem_map] at hb
  obtain ⟨i, _, rfl⟩ := hb
  have : i % 4 < 4 := Nat.mod_lt _ (by omega)
  show (#[Value.int .i64 0, .int .i64 0, .int .i64 0, .int .i64 0] : Array Value)[i % 4]! = _
  obtain ⟨j, hj⟩ : ∃ j, j = i % 4 := ⟨_, rfl⟩
  rw [← hj] at this ⊢
  match j, this with
  | 0, _ => rfl
  | 1, _ => rfl
  | 2, _ => rfl
  | 3, _ => rfl
 have h2 : rcsCells (List.replicate n ⟨0, 0, 0, 0⟩) = List.replicate (n * 4) (.int .i64 0) := by
  rw [List.eq_replicate_iff]
  refine ⟨by rw [rcsCells_length, List.length_replicate], fun b hb => ?_⟩
  simp only [rcsCells, List.mem_flatMap] at hb
  obtain ⟨r, hr, hb⟩ := hb
  obtain rfl := List.eq_of_mem_replicate hr
  simp [rcCells] at hb
  exact hb
 rw [h1, h2]
theorem make_rects (n : Nat) (hn : n ≤ 2097152) (W : World) : (Instr.makeSlice 28 (.int .i64 (n : Int)) (.int .i64 (n : Int))).run Tryz.prog W =
  .ok (.slice (some ⟨W.heap.size, 0, none⟩) n n) (W.alloc (.cells (madeCells #[.int .i64 0, .int .i64 0, .int .i64 0, .int .i64 0] (n * 4)) 113)) := by
 obtain ⟨i0, hi, hz0, hz1, hz2⟩ := info_parts infoRect
 have h := run_make (P := Tryz.prog) W 28 113 i0 _ Tryz.underlying28 hi hz0 .i64 .i64 n n (by omega) (by omega) (by rw [hz2]; omega) (by omega)
 rw [hz1] at h
 simpa [Value.cells] using h
theorem own_made_rects (W : World) (B n : Nat) (hB : B ≤ W.heap.size) (hn : n ≤ 2097152) :
  (W.alloc (.cells (madeCells #[.int .i64 0, .int .i64 0, .int .i64 0, .int .i64 0] (n * 4)) 113)).ownsRow B 113 4 (.slice (some ⟨W.heap.size, 0, none⟩) n n) n (rcsCells (List.replicate n ⟨0, 0, 0, 0⟩)) := by
 refine ⟨by rw [rcsCells_length, List.length_replicate], .inr ⟨W.heap.size, n, _, rfl, hB, heap_alloc_new W _, Nat.le_refl _, by unfold maxLen; omega, size_madeCells _ _, ?_⟩⟩
 rw [made_rects, List.take_of_length_le (by rw [rcsCells_length, List.length_replicate]; exact Nat.le_refl _)]
def ToRS (L : List Rc) (w : World) (e : Ending) (w' : World) : Prop :=
 ∃ v, e = .returned v ∧ w'.ownsRow w.heap.size 113 4 v L.length (rcsCells L) ∧ Below w.heap.size w w'
set_option maxHeartbeats 1000000 in
set_option maxRecDepth 10000 in
theorem toRS (v : Value) (L : List Rc) (w : World) (hm : L.length ≤ 1048576) (h : LdR w v L) : Calls Tryz.prog 102 #[v] w (ToRS L w) := by
 obtain ⟨A, c, rfl⟩ := h.form
 obtain ⟨n, hn⟩ : ∃ n, n = L.length := ⟨_, rfl⟩
 rw [← hn] at hm h ⊢
 have Hn := Lib.hid hn
 have H := Lib.hid h
 have hmk := fun W => make_rects n (by omega) W
 clear h hn
 go_enter Tryz.func102, Tryz.ntmps102
 go_wp2_with fail
 go_loopw [4] (fun i wr => ∃ k : Nat, k ≤ n ∧ i = .int .i64 k ∧ wr.ownsRow w.heap.size 113 4 (.slice (some ⟨w.heap.size, 0, none⟩) n n) n (rcsCells (L.take k ++ List.replicate (n - k) ⟨0, 0, 0, 0⟩)) ∧ Below w.heap.size w wr) (fun i _ => n - (intOf i).toNat)
 case atStart => exact ⟨0, Nat.zero_le _, rfl, by simpa using own_made_rects w w.heap.size n (Nat.le_refl _) (by omega), (Below.refl _ _).alloc (Nat.le_refl _) _⟩
 case round =>
  obtain ⟨k, hk, rfl, hown, hb⟩ := hrel
  clear hmk
  by_cases hlt : k < n
  ·obtain ⟨a, r, rfl, hr, hA⟩ := (H.out.call hb).at_ (k := k) (by rw [← Hn.out]; exact hlt)
   have Hr := Lib.hid hr
   clear hr
   obtain ⟨c0, c1, c2, c3⟩ := hA
   have k0' : (0 : Int) ≤ (k : Int) := by omega
   have k1' : (k : Int) < (n : Int) := by omega
   go_wp2_with fail
   refine (toRect_any r _).mono ?_
   rintro e w1 ⟨rfl, hb1⟩
   have hb2 := hb.trans (hb1.mono hb.size)
   have hown2 := own_below hown hb1 (Nat.le_refl _)
   rw [show n - k = (n - (k + 1)) + 1 by omega, List.replicate_succ] at hown2
   have hlk : k = (L.take k).length := by rw [List.length_take, ← Hn.out]; omega
   have hC : C4 w1 w.heap.size (k * 4) ⟨0, 0, 0, 0⟩ := by
    obtain ⟨g', r', e1, e2, e3⟩ := (RdR.of_own hown2).at_ (k := k) (by rw [← own_len hown2]; exact hlt)
    injection e1 with e1
    injection e1 with e1
    rw [List.getElem?_append_right (by omega), ← hlk, Nat.sub_self] at e2
    injection e2 with e2
    rw [e1, e2]; exact e3
   have Hlk := Lib.hid hlk
   obtain ⟨d0, d1, d2, d3⟩ := hC.cells
   have f0 := hown2.frozenAt (k * 4)
   have f1 := hown2.frozenAt (k * 4 + 1)
   have f2 := hown2.frozenAt (k * 4 + 2)
   have f3 := hown2.frozenAt (k * 4 + 3)
   have Hown := Lib.hid hown2
   have Hb2 := Lib.hid hb2
   clear hown hown2 hb hb1 hb2 hC hlk c0 c1 c2 c3
   go_wp2_with fail
   go_roundw
   case rel =>
    obtain ⟨p1, p2⟩ := own_put4 Hown.out (j := k) Hlk.out r.x r.y r.w r.h
    refine ⟨k + 1, by omega, by go_num, ?_, Hb2.out.grown p2 Hb2.out.size (fun k hk => by injection hk with hk; omega)⟩
    rw [List.take_add_one, Hr.out, List.append_assoc]
    exact p1
   case measure => simp [intOf]; omega
  ·obtain rfl : k = n := by omega
   rw [Nat.sub_self, List.replicate_zero, List.append_nil, List.take_of_length_le (by rw [← Hn.out]; exact Nat.le_refl _)] at hown
   have Hown := Lib.hid hown
   clear hown
   go_wp2_with fail
   go_ret
   exact ⟨_, rfl, by rw [← Hn.out]; exact Hown.out, hb⟩
def ToRg (L : List Rc) (w : World) (e : Ending) (w' : World) : Prop :=
 ∃ v, e = .returned (.agg #[v]) ∧ w'.ownsRow w.heap.size 113 4 v L.length (rcsCells L) ∧ Below w.heap.size w w'
set_option maxHeartbeats 1000000 in
set_option maxRecDepth 10000 in
theorem toRg (v : Value) (L : List Rc) (w : World) (hm : L.length ≤ 1048576) (h : LdR w v L) : Calls Tryz.prog 49 #[.agg #[v]] w (ToRg L w) := by
 have hb0 := (((Below.refl w.heap.size w).alloc (Nat.le_refl _) (.cells #[v] 77)).alloc (by simp) (.cells #[.slice none 0 0] 30)).alloc (by simp; omega) (.cells #[.slice none 0 0] 30)
 have h2 := h.call hb0
 have hin := new_cell w v 77
 clear h
 go_enter Tryz.func49, Tryz.ntmps49
 go_wp2_with fail
 refine (toRS v L _ hm h2).mono ?_
 rintro e w1 ⟨u, rfl, hown, hb1⟩
 have h1 : w1.heap[w.heap.size + 1]? = some (.cells #[.slice none 0 0] 30 (0, 0)) := (hb1.block _ (by simp)).trans ((Below.heap_alloc _ _ _ (by simp)).trans (by have := heap_alloc_new (w.alloc (.cells #[v] 77)) (.cells #[.slice none 0 0] 30); simpa using this))
 have h3 : w1.heap[w.heap.size + 2]? = some (.cells #[.slice none 0 0] 30 (0, 0)) := (hb1.block _ (by simp)).trans (by have := heap_alloc_new ((w.alloc (.cells #[v] 77)).alloc (.cells #[.slice none 0 0] 30)) (.cells #[.slice none 0 0] 30); simpa using this)
 have r1 : w1.cell? ⟨w.heap.size + 1, 0, none⟩ = some (.slice none 0 0) := by simp [World.cell?, h1]
 have r3 : w1.cell? ⟨w.heap.size + 2, 0, none⟩ = some (.slice none 0 0) := by simp [World.cell?, h3]
 have f1 : w1.frozen? ⟨w.heap.size + 1, 0, none⟩ = false := by simp [World.frozen?, h1]
 have f3 : w1.frozen? ⟨w.heap.size + 2, 0, none⟩ = false := by simp [World.frozen?, h3]
 obtain ⟨A, c, hu⟩ := own_shape hown
 subst hu
 have hz := hb1.size
 simp at hz
 have Hb := Lib.hid (hb0.trans (hb1.mono hb0.size))
 have Hown := Lib.hid hown
 clear hown hb1 hb0 h1 h3
 go_wp2_with fail
 exact bodyPost_ret (v := .agg #[.slice A L.length c]) (by simp [results, Tryz.results49, go_sem, r1]) rfl ⟨_, rfl, own_set (own_set Hown.out (show w.heap.size + 2 ≤ _ by simp) (by simp) _) (Nat.le_add_right _ _) (by omega) _, (Hb.out.setCell (by simp; omega) _).setCell (by simp) _⟩
end Go.Proofs.YtdgagooldlnpeaaGreat
