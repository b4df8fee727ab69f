/- Texts of mine in one file: Rd, IntR, ImR, Var, ImL. No statement is proved here. -/
import Derived.Test.YtdgagooldlnpeaaMA
import Derived.Test.YtdgagooldlnpeaaProg
import Derived.WalkKit
import Derived.ProofKit
import Derived.OpenShut
import Derived.WalkLawsBesides
import Derived.WalkSpells
import Derived.ShutString
import Derived.ChangeOld
import Derived.Below
import Derived.Lib.Hide
import Derived.BigQuiet
import Derived.Deep.QuietTactic
import Derived.Maps.AppendAt
import Derived.Deep.OwnRows
import Derived.Handy
import Derived.Deep.Draws
import Derived.OwnWalk
import Derived.Deep.AppendLies
import Derived.Deep.LoopGhost
import Derived.Deep.Onto
import Derived.Deep.MidRow
import Derived.Deep.WholeRow
namespace Go.Proofs.Ytdgagooldlnpeaa
open Go.RowKit
theorem Rd.drewN {w : World} {v : Value} {n : Nat} {xs : List Value} (h : Rd w v n xs) (k : Nat) : Rd (w.drewN k) v n xs := h
end Go.Proofs.Ytdgagooldlnpeaa
namespace Go.Proofs.Ytdgagooldlnpeaa
open Go.RowKit
set_option maxHeartbeats 1000000 in
theorem eqIS_same (v u : Value) (L : List Int) (w : World) (hv : Rd w v L.length (intCells L)) (hu : Rd w u L.length (intCells L)) :
  Calls Try.prog 117 #[v, u] w fun e w' => e = .returned (.bool true) ∧ ∃ q, w' = w.drewN q := by
 obtain ⟨A, c, rfl⟩ := hv.form
 obtain ⟨A', c', rfl⟩ := hu.form
 have hn1 : L.length ≤ 9223372036854775807 := by have := hv.len.2; unfold maxLen at this; omega
 obtain ⟨n, hn⟩ : ∃ n, n = L.length := ⟨_, rfl⟩
 rw [← hn] at hn1 hv hu ⊢
 have Hv := Lib.hid hv
 have Hu := Lib.hid hu
 clear hv hu hn
 go_enter Try.func117, Try.ntmps117
 go_wp2_with fail
 go_loopw [5] (fun i wr => ∃ k : Nat, k ≤ n ∧ i = .int .i64 k ∧ ∃ q, wr = w.drewN q) (fun i _ => n - (intOf i).toNat)
 case atStart => exact ⟨0, Nat.zero_le _, rfl, 0, rfl⟩
 case round =>
  obtain ⟨k, hk, rfl, q, rfl⟩ := hrel
  by_cases hlt : k < n
  ·obtain ⟨a, x, rfl, hx, hcx⟩ := Hv.out.int_at hlt
   obtain ⟨a', y, rfl, hy, hcy⟩ := Hu.out.int_at hlt
   rw [hx] at hy
   injection hy with hy
   subst hy
   clear hx
   have k0 : (0 : Int) ≤ (k : Int) := by omega
   have k1 : (k : Int) < (n : Int) := by omega
   go_wp2_with fail
   go_quiet (fail)
   go_wp2_with fail
   rename_i nq
   go_roundw
   case rel => exact ⟨k + 1, by omega, by go_num, _, rfl⟩
   case measure => simp [intOf]; omega
  ·obtain rfl : k = n := by omega
   go_wp2_with fail
   go_ret
   exact ⟨rfl, _, rfl⟩
end Go.Proofs.Ytdgagooldlnpeaa
namespace Go.Proofs.Ytdgagooldlnpeaa
open Go.RowKit
theorem RdI.drewN {w : World} {v : Value} {L : List Int} (h : RdI w v L) (k : Nat) : RdI (w.drewN k) v L := h.kept fun _ _ _ => rfl
theorem ImAt.drewN {w : World} {g : Nat} {t : TypeId} {W H : Int} {v : Value} (h : ImAt w g t W H v) (n : Nat) : ImAt (w.drewN n) g t W H v := h
def ToIO (L : List Int) (w : World) (e : Ending) (w' : World) : Prop :=
 ∃ v, e = .returned v ∧ w'.ownsRow w.heap.size 3 1 v L.length (intCells L) ∧ Below w.heap.size w w'
set_option maxHeartbeats 1000000 in
theorem toIO (v : Value) (L : List Int) (w : World) (hm : L.length ≤ 1048576) (h : Rd w v L.length (intCells L)) : Calls Try.prog 115 #[v] w (ToIO L w) := by
 obtain ⟨A, c, rfl⟩ := h.form
 obtain ⟨n, hn⟩ : ∃ n, n = L.length := ⟨_, rfl⟩
 rw [← hn] at hm h
 have Hn := Lib.hid hn
 have H := Lib.hid h
 rw [← hn]
 have hmk := fun W => run_make_row' (P := Try.prog) 39 3 (.int .i64 0) 8 Try.underlying39 infoInt rfl .i64 .i64 n (by omega) (by omega) W
 clear h hn
 go_enter Try.func115, Try.ntmps115
 go_wp2_with fail
 go_loopw [4] (fun i wr => ∃ k : Nat, k ≤ n ∧ i = .int .i64 k ∧ wr.rowIs w.heap.size 3 n (fun j => if j < k then .int .i64 (L.getD j 0) else .int .i64 0) ∧ Below w.heap.size w wr) (fun i _ => n - (intOf i).toNat)
 case atStart => exact ⟨0, Nat.zero_le _, rfl, (World.rowIs_made _ _ _ _).congr (fun j hj => by simp), (Below.refl _ _).alloc (Nat.le_refl _) _⟩
 case round =>
  obtain ⟨k, hk, rfl, hrow, hb⟩ := hrel
  clear hmk
  have Hrow := Lib.hid hrow
  have Hb := Lib.hid hb
  clear hrow hb
  by_cases hlt : k < n
  ·obtain ⟨a, x, rfl, hx, hc⟩ := (H.out.call Hb.out).int_at hlt
   have Hx := Lib.hid hx
   clear hx
   have k0 : (0 : Int) ≤ (k : Int) := by omega
   have k1 : (k : Int) < (n : Int) := by omega
   have hcl0 : wr.cell? ⟨w.heap.size, k, none⟩ = some (.int .i64 0) := by have := Hrow.out.cell hlt; simpa using this
   have hfz0 : wr.frozen? ⟨w.heap.size, k, none⟩ = false := Hrow.out.frozen k
   go_wp2_with fail
   go_roundw
   case rel =>
    refine ⟨k + 1, by omega, by go_num, ?_, Hb.out.setCell (by simp) _⟩
    refine (Hrow.out.set k _).congr fun j hj => ?_
    by_cases e : j = k
    ·subst e
     rw [if_pos rfl, if_pos (by omega), List.getD_eq_getElem?_getD, Hx.out]
     rfl
    ·rw [if_neg e]
     by_cases e2 : j < k
     ·rw [if_pos e2, if_pos (by omega)]
     ·rw [if_neg e2, if_neg (by omega)]
   case measure => simp [intOf]; omega
  ·obtain rfl : k = n := by omega
   go_wp2_with fail
   go_ret
   refine ⟨_, rfl, ?_, Hb.out⟩
   rw [← Hn.out]
   refine own_of_rowIs Hrow.out (Nat.le_refl _) (by unfold maxLen; omega) Hn.out.symm fun j x hx => ?_
   have hj : j < k := by have := (List.getElem?_eq_some_iff.1 hx).1; rw [Hn.out]; exact this
   rw [if_pos hj, List.getD_eq_getElem?_getD, hx]
   rfl
theorem szIS_yes (n : Nat) (A : Option Addr) (c : Nat) (l : Int) (h : (n : Int) ≤ l) (hl : l ≤ 2097152) (w : World) :
  Calls Try.prog 113 #[.slice A n c, .int .i64 l] w fun e w' => e = .returned (.int .i64 (l - n)) ∧ w = w' := by
 have h1 : ¬ (l - (n : Int) < 0) := by omega
 go_enter Try.func113, Try.ntmps113
 go_wp2
 go_ret
 exact ⟨rfl, rfl⟩
theorem szIS_no (n : Nat) (A : Option Addr) (c : Nat) (hn : n ≤ maxLen) (l : Int) (h0 : 0 ≤ l) (h : l < (n : Int)) (w : World) :
  Calls Try.prog 113 #[.slice A n c, .int .i64 l] w fun e w' => e = .returned (.int .i64 (-1)) ∧ w = w' := by
 unfold maxLen at hn
 have h1 : l - (n : Int) < 0 := by omega
 go_enter Try.func113, Try.ntmps113
 go_wp2
 go_ret
 exact ⟨rfl, rfl⟩
end Go.Proofs.Ytdgagooldlnpeaa
namespace Go.Proofs.Ytdgagooldlnpeaa
open Go.RowKit
structure ArgB {α : Type} (F : Wk α) (t : TypeId) (b : Nat) (a : α) (vs : List Value) (W : World) : Prop where
 at_ : BkAt W b t vs.toArray
 rd : F.R W a vs
section
variable {α : Type} {F : Wk α} {t : TypeId} {b : Nat} {a : α} {vs : List Value} {W W' : World}
theorem ArgB.call (h : ArgB F t b a vs W) (hb : Below W.heap.size W W') : ArgB F t b a vs W' := ⟨h.at_.call hb, F.call h.rd hb⟩
theorem ArgB.lt (h : ArgB F t b a vs W) : b < W.heap.size := h.at_.lt
theorem ArgB.born {w : World} (hw : F.R w a vs) (t : TypeId) : ArgB F t w.heap.size a vs (w.alloc (.cells vs.toArray t)) := ⟨BkAt.new _ _ _, F.call hw ((Below.refl _ _).alloc (Nat.le_refl _) _)⟩
theorem ArgB.bornAt {w : World} {g : Nat} (h : w.heap.size = g) (hw : F.R w a vs) (t : TypeId) : ArgB F t g a vs (w.alloc (.cells vs.toArray t)) := h ▸ ArgB.born hw t
end
structure VarB {α : Type} (E : Rep α) (t : TypeId) (lo hi b : Nat) (a : α) (vs : List Value) (bs : List Nat) (W : World) : Prop where
 at_ : BkAt W b t vs.toArray
 own : E.Own lo W a vs bs
 lb : lo ≤ b
 hb : b < hi
 hbs : ∀ k ∈ bs, k < hi ∧ k ≠ b
 hs : hi ≤ W.heap.size
section
variable {α : Type} {E : Rep α} {t : TypeId} {lo hi b : Nat} {a a' : α} {vs : List Value} {bs cs : List Nat} {W W' : World}
theorem VarB.call (h : VarB E t lo hi b a vs bs W) (k : Below W.heap.size W W') : VarB E t lo hi b a vs bs W' := ⟨h.at_.call k, h.own.call k, h.lb, h.hb, h.hbs, Nat.le_trans h.hs k.size⟩
theorem VarB.r (h : VarB E t lo hi b a vs bs W) : E.R W a vs bs := h.own.r
theorem VarB.rng (h : VarB E t lo hi b a vs bs W) : ∀ k ∈ bs, lo ≤ k ∧ k < hi := fun k hk => ⟨h.own.lo k hk, (h.hbs k hk).1⟩
theorem VarB.born {w : World} (hk : Below w.heap.size w W) (ho : E.Own w.heap.size W a vs bs) (t : TypeId) : VarB E t w.heap.size (W.heap.size + 1) W.heap.size a vs bs (W.alloc (.cells vs.toArray t)) :=
 ⟨BkAt.new _ _ _, ho.call ((Below.refl _ _).alloc (Nat.le_refl _) _), hk.size, Nat.lt_succ_self _, fun k hk => by have := E.ex ho.r k hk; omega, by simp⟩
theorem VarB.below {w : World} (h : VarB E t lo hi b a vs bs W) (hw : Below w.heap.size w W) (hlo : w.heap.size ≤ lo) (hc : Chg W W' bs) : Below w.heap.size w W' :=
 hc.below hw hw.size fun k hk => Nat.le_trans hlo (h.rng k hk).1
end
end Go.Proofs.Ytdgagooldlnpeaa
namespace Go.Proofs.Ytdgagooldlnpeaa
open Go.RowKit
theorem szIm_yes (W H : Int) (n : Nat) (A : Option Addr) (c : Nat) (l : Int) (h : (n : Int) ≤ l) (hl : l ≤ 2097152) (w : World) :
  Calls Try.prog 64 #[.agg #[.int .i64 W, .int .i64 H, .slice A n c], .int .i64 l] w fun e w' => e = .returned (.int .i64 (l - n)) ∧ Below w.heap.size w w' := by
 have h1 : ¬ (l - (n : Int) < 0) := by omega
 go_enter Try.func64, Try.ntmps64
 go_wp2_with fail
 refine (szIS_yes n A c l h hl _).mono ?_
 rintro e w1 ⟨rfl, rfl⟩
 go_wp2_with fail
 go_ret
 exact ⟨rfl, (Below.refl _ _).alloc (Nat.le_refl _) _⟩
theorem szIm_no (W H : Int) (n : Nat) (A : Option Addr) (c : Nat) (hn : n ≤ maxLen) (l : Int) (h0 : 0 ≤ l) (h : l < (n : Int)) (w : World) :
  Calls Try.prog 64 #[.agg #[.int .i64 W, .int .i64 H, .slice A n c], .int .i64 l] w fun e w' => e = .returned (.int .i64 (-1)) ∧ Below w.heap.size w w' := by
 go_enter Try.func64, Try.ntmps64
 go_wp2_with fail
 refine (szIS_no n A c hn l h0 h _).mono ?_
 rintro e w1 ⟨rfl, rfl⟩
 go_wp2_with fail
 go_ret
 exact ⟨rfl, (Below.refl _ _).alloc (Nat.le_refl _) _⟩
set_option maxHeartbeats 600000 in
set_option maxRecDepth 10000 in
theorem toIm (W H : Int) (v : Value) (L : List Int) (w : World) (hm : L.length ≤ 1048576) (h : Rd w v L.length (intCells L)) :
  Calls Try.prog 66 #[.agg #[.int .i64 W, .int .i64 H, v]] w (ImAns W H L w) := by
 obtain ⟨A0, c0, rfl⟩ := h.form
 have Hm := Lib.hid hm
 have HR := Lib.hid h
 obtain ⟨n, hn⟩ : ∃ n, n = L.length := ⟨_, rfl⟩
 rw [← hn]
 have Hn := Lib.hid hn
 clear hm h hn
 go_enter Try.func66, Try.ntmps66
 go_wp2_with fail
 refine (toIO _ L _ Hm.out (by rw [Hn.out]; exact HR.out.call (by repeat (first | exact Below.refl _ _ | refine Below.setCell ?_ (by simp; try omega) _ | refine Below.alloc ?_ (by simp; try omega) _)))).mono ?_
 rintro e w1 ⟨u, rfl, hown, hb1⟩
 have i2 : ImAt w1 (w.heap.size + 2) 46 W H (.slice none 0 0) := ImAt.call (ImAt.newAt (by simp) _ _ _ _) hb1
 have i1 : ImAt w1 (w.heap.size + 1) 46 0 0 (.slice none 0 0) := ImAt.call (ImAt.alloc (ImAt.newAt (by simp) _ _ _ _) _) hb1
 have K : Below w.heap.size w w1 := Below.trans (by repeat (first | exact Below.refl _ _ | refine Below.setCell ?_ (by simp; try omega) _ | refine Below.alloc ?_ (by simp; try omega) _)) (hb1.mono (by simp; try omega))
 obtain ⟨A, c, hu⟩ := ownI_shape hown
 subst hu
 have hlt := fun g hg => (hown.lt g hg).1
 have hown := hown.mono (show w.heap.size ≤ _ by simp; try omega)
 have Hown := Lib.hid hown
 have Hlt := Lib.hid hlt
 have HK := Lib.hid K
 clear hown hlt K hb1
 obtain ⟨a0, a1, a2⟩ := i2.cells
 obtain ⟨b0, b1, b2⟩ := i1.cells
 have f2 := i2.frozen 2
 have g0 := i1.frozen 0
 have g1 := i1.frozen 1
 have g2 := i1.frozen 2
 go_wp2_with fail
 have j2 := i2.set2 (.slice A L.length c)
 have j1 := (i1.far (p := ⟨w.heap.size + 2, 2, none⟩) (by simp) (.slice A L.length c)).set3 W H (.slice A L.length c)
 obtain ⟨x0, x1, x2⟩ := j1.cells
 exact bodyPost_ret (v := .agg #[.int .i64 W, .int .i64 H, .slice A L.length c]) (by simp [results, Try.results66, go_sem, x0, x1, x2]) rfl ⟨_, rfl, ownI_far (ownI_far (ownI_far (ownI_far Hown.out (fun g hg => by have := Hlt.out g hg; simp at this ⊢; omega) _) (fun g hg => by have := Hlt.out g hg; simp at this ⊢; omega) _) (fun g hg => by have := Hlt.out g hg; simp at this ⊢; omega) _) (fun g hg => by have := Hlt.out g hg; simp at this ⊢; omega) _, (((HK.out.setCell (by simp; try omega) _).setCell (by simp; try omega) _).setCell (by simp; try omega) _).setCell (by simp; try omega) _⟩
set_option maxHeartbeats 600000 in
theorem eqIm_same (W H : Int) (v u : Value) (L : List Int) (w : World) (hv : RdI w v L) (hu : RdI w u L) :
  Calls Try.prog 68 #[.agg #[.int .i64 W, .int .i64 H, v], .agg #[.int .i64 W, .int .i64 H, u]] w fun e w' => e = .returned (.bool true) ∧ Below w.heap.size w w' := by
 have hv2 := (hv.alloc (.cells #[.int .i64 W, .int .i64 H, v] 46)).alloc (.cells #[.int .i64 W, .int .i64 H, u] 46)
 have hu2 := (hu.alloc (.cells #[.int .i64 W, .int .i64 H, v] 46)).alloc (.cells #[.int .i64 W, .int .i64 H, u] 46)
 have Hw := Lib.hid (((Below.refl w.heap.size w).alloc (Nat.le_refl _) (.cells #[.int .i64 W, .int .i64 H, v] 46)).alloc (by simp) (.cells #[.int .i64 W, .int .i64 H, u] 46))
 have Hv := Lib.hid hv2
 have Hu := Lib.hid hu2
 obtain ⟨A, c, rfl⟩ := hv.form
 obtain ⟨A', c', rfl⟩ := hu.form
 obtain ⟨n, hn⟩ : ∃ n, n = L.length := ⟨_, rfl⟩
 rw [← hn] at Hv Hu Hw ⊢
 have Hn := Lib.hid hn
 clear hv hu hv2 hu2 hn
 go_enter Try.func68, Try.ntmps68
 go_wp2_with fail
 refine (eqIS_same _ _ L _ Hv.out.rd Hu.out.rd).mono ?_
 rintro e w1 ⟨rfl, q, rfl⟩
 go_wp2_with fail
 go_ret
 exact ⟨rfl, below_drewN Hw.out q⟩
end Go.Proofs.Ytdgagooldlnpeaa
