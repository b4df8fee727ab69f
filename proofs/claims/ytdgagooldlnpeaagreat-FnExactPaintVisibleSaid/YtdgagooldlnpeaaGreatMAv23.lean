/- Texts of mine in one file: IntR, ImR, Rep, Var, SfM, ImL. No statement is proved here. -/
import Derived.Test.YtdgagooldlnpeaaGreatMA
import Derived.Test.YtdgagooldlnpeaaGreatProg
import Derived.WalkKit
import Derived.ProofKit
import Derived.OpenShut
import Derived.WalkLawsBesides
import Derived.WalkSpells
import Derived.ShutString
import Derived.ChangeOld
import Derived.Below
import Derived.Lib.Hide
import Derived.BigQuiet
import Derived.Deep.QuietTactic
import Derived.Maps.AppendAt
import Derived.Deep.OwnRows
import Derived.Handy
import Derived.Deep.Draws
import Derived.OwnWalk
import Derived.Deep.AppendLies
import Derived.Deep.LoopGhost
import Derived.Deep.Onto
import Derived.Deep.MidRow
import Derived.Deep.WholeRow
import Derived.Laws.BitsAllLaws
import Derived.Lib.QuoteBits
namespace Go.Proofs.YtdgagooldlnpeaaGreat
open Go.RowKit
set_option maxHeartbeats 1000000 in
theorem eqIS_same (v u : Value) (L : List Int) (w : World) (hv : Rd w v L.length (intCells L)) (hu : Rd w u L.length (intCells L)) :
  Calls Tryz.prog 40 #[v, u] w fun e w' => e = .returned (.bool true) ∧ ∃ q, w' = w.drewN q := by
 obtain ⟨A, c, rfl⟩ := hv.form
 obtain ⟨A', c', rfl⟩ := hu.form
 have hn1 : L.length ≤ 9223372036854775807 := by have := hv.len.2; unfold maxLen at this; omega
 obtain ⟨n, hn⟩ : ∃ n, n = L.length := ⟨_, rfl⟩
 rw [← hn] at hn1 hv hu ⊢
 have Hv := Lib.hid hv
 have Hu := Lib.hid hu
 clear hv hu hn
 go_enter Tryz.func40, Tryz.ntmps40
 go_wp2_with fail
 go_loopw [5] (fun i wr => ∃ k : Nat, k ≤ n ∧ i = .int .i64 k ∧ ∃ q, wr = w.drewN q) (fun i _ => n - (intOf i).toNat)
 case atStart => exact ⟨0, Nat.zero_le _, rfl, 0, rfl⟩
 case round =>
  obtain ⟨k, hk, rfl, q, rfl⟩ := hrel
  by_cases hlt : k < n
  ·obtain ⟨a, x, rfl, hx, hcx⟩ := Hv.out.int_at hlt
   obtain ⟨a', y, rfl, hy, hcy⟩ := Hu.out.int_at hlt
   rw [hx] at hy
   injection hy with hy
   subst hy
   clear hx
   have k0 : (0 : Int) ≤ (k : Int) := by omega
   have k1 : (k : Int) < (n : Int) := by omega
   go_wp2_with fail
   go_quiet (fail)
   go_wp2_with fail
   rename_i nq
   go_roundw
   case rel => exact ⟨k + 1, by omega, by go_num, _, rfl⟩
   case measure => simp [intOf]; omega
  ·obtain rfl : k = n := by omega
   go_wp2_with fail
   go_ret
   exact ⟨rfl, _, rfl⟩
end Go.Proofs.YtdgagooldlnpeaaGreat
namespace Go.Proofs.YtdgagooldlnpeaaGreat
open Go.RowKit
def ToIO (L : List Int) (w : World) (e : Ending) (w' : World) : Prop :=
 ∃ v, e = .returned v ∧ w'.ownsRow w.heap.size 3 1 v L.length (intCells L) ∧ Below w.heap.size w w'
set_option maxHeartbeats 1000000 in
theorem toIO (v : Value) (L : List Int) (w : World) (hm : L.length ≤ 1048576) (h : Rd w v L.length (intCells L)) : Calls Tryz.prog 96 #[v] w (ToIO L w) := by
 obtain ⟨A, c, rfl⟩ := h.form
 obtain ⟨n, hn⟩ : ∃ n, n = L.length := ⟨_, rfl⟩
 rw [← hn] at hm h
 have Hn := Lib.hid hn
 have H := Lib.hid h
 rw [← hn]
 have hmk := fun W => run_make_row' (P := Tryz.prog) 53 3 (.int .i64 0) 8 Tryz.underlying53 infoInt rfl .i64 .i64 n (by omega) (by omega) W
 clear h hn
 go_enter Tryz.func96, Tryz.ntmps96
 go_wp2_with fail
 go_loopw [4] (fun i wr => ∃ k : Nat, k ≤ n ∧ i = .int .i64 k ∧ wr.rowIs w.heap.size 3 n (fun j => if j < k then .int .i64 (L.getD j 0) else .int .i64 0) ∧ Below w.heap.size w wr) (fun i _ => n - (intOf i).toNat)
 case atStart => exact ⟨0, Nat.zero_le _, rfl, (World.rowIs_made _ _ _ _).congr (fun j hj => by simp), (Below.refl _ _).alloc (Nat.le_refl _) _⟩
 case round =>
  obtain ⟨k, hk, rfl, hrow, hb⟩ := hrel
  clear hmk
  have Hrow := Lib.hid hrow
  have Hb := Lib.hid hb
  clear hrow hb
  by_cases hlt : k < n
  ·obtain ⟨a, x, rfl, hx, hc⟩ := (H.out.call Hb.out).int_at hlt
   have Hx := Lib.hid hx
   clear hx
   have k0 : (0 : Int) ≤ (k : Int) := by omega
   have k1 : (k : Int) < (n : Int) := by omega
   have hcl0 : wr.cell? ⟨w.heap.size, k, none⟩ = some (.int .i64 0) := by have := Hrow.out.cell hlt; simpa using this
   have hfz0 : wr.frozen? ⟨w.heap.size, k, none⟩ = false := Hrow.out.frozen k
   go_wp2_with fail
   go_roundw
   case rel =>
    refine ⟨k + 1, by omega, by go_num, ?_, Hb.out.setCell (by simp) _⟩
    refine (Hrow.out.set k _).congr fun j hj => ?_
    by_cases e : j = k
    ·subst e
     rw [if_pos rfl, if_pos (by omega), List.getD_eq_getElem?_getD, Hx.out]
     rfl
    ·rw [if_neg e]
     by_cases e2 : j < k
     ·rw [if_pos e2, if_pos (by omega)]
     ·rw [if_neg e2, if_neg (by omega)]
   case measure => simp [intOf]; omega
  ·obtain rfl : k = n := by omega
   go_wp2_with fail
   go_ret
   refine ⟨_, rfl, ?_, Hb.out⟩
   rw [← Hn.out]
   refine own_of_rowIs Hrow.out (Nat.le_refl _) (by unfold maxLen; omega) Hn.out.symm fun j x hx => ?_
   have hj : j < k := by have := (List.getElem?_eq_some_iff.1 hx).1; rw [Hn.out]; exact this
   rw [if_pos hj, List.getD_eq_getElem?_getD, hx]
   rfl
def marksI (k n : Nat) : List Int := tabI n fun j => ((k + j : Nat) : Int)
theorem marksI_length (k n : Nat) : (marksI k n).length = n := tabI_length _ _
set_option maxHeartbeats 1000000 in
set_option maxRecDepth 10000 in
theorem markIS (B : Nat) (e : TypeId) (v : Value) (L : List Int) (k0 : Nat) (w : World) (hm : k0 + L.length ≤ 1000000000) (hown : w.ownsRow B e 1 v L.length (intCells L)) :
  Calls Tryz.prog 43 #[v, .int .i64 k0] w fun ed w' => ed = .returned (.int .i64 ((k0 + L.length : Nat) : Int)) ∧ w'.ownsRow B e 1 v L.length (intCells (marksI k0 L.length)) ∧ w.grownBy w' v.ownBlock := by
 obtain ⟨A, c, rfl⟩ := ownI_shape hown
 obtain ⟨n, hn⟩ : ∃ n, n = L.length := ⟨_, rfl⟩
 rw [← hn] at hm hown ⊢
 have Hn := Lib.hid hn
 have Hown0 := Lib.hid hown
 clear hn hown
 go_enter Tryz.func43, Tryz.ntmps43
 go_wp2_with fail
 go_loopw [1, 5] (fun s1 i wr => ∃ (k : Nat) (t : Int), k ≤ n ∧ i = .int .i64 k ∧ s1 = .int .i64 t ∧ Hid (t = ((k0 + k : Nat) : Int)) ∧ wr.ownsRow B e 1 (.slice A n c) n (intCells (tabI n (fun j => if j < k then ((k0 + j : Nat) : Int) else L.getD j 0))) ∧ w.grownBy wr (Value.slice A n c).ownBlock) (fun _ i _ => n - (intOf i).toNat)
 case atStart => exact ⟨0, k0, Nat.zero_le _, rfl, rfl, Lib.hid (by simp), by have := Hown0.out; rw [tabI_self L, ← Hn.out] at this; simpa using this, World.grownBy.refl _ _⟩
 case round =>
  obtain ⟨k, t, hk, rfl, rfl, Ht, hown, hgr⟩ := hrel
  have ht0 : 0 ≤ t := by have := Ht.out; omega
  have ht1 : t ≤ 5000000000 := by have := Ht.out; omega
  by_cases hlt : k < n
  ·obtain ⟨gq, cap, hv, hgB, hgl⟩ := hown.form (by omega)
   cases hv
   have f0 := hown.frozenAt k
   have c0 : wr.cell? ⟨gq, k, none⟩ = some (.int .i64 (L.getD k 0)) := by
    rw [hown.cellAt k (by omega), intCells_get, tabI_get n _ k hlt, if_neg (by omega)]
    rfl
   have k0' : (0 : Int) ≤ (k : Int) := by omega
   have k1' : (k : Int) < (n : Int) := by omega
   have Hown := Lib.hid hown
   have Hgr := Lib.hid hgr
   clear hown hgr
   go_wp2_with fail
   go_roundw
   case rel =>
    obtain ⟨p1, p2⟩ := ownI_put Hown.out k t
    refine ⟨k + 1, _, by omega, by go_num, rfl, Lib.hid (by have := Ht.out; omega), ?_, Hgr.out.trans p2⟩
    rw [tabI_set] at p1
    rw [tabI_congr n (g := fun j => if j = k then t else if j < k then ((k0 + j : Nat) : Int) else L.getD j 0)]
    ·exact p1
    ·intro j hj
     by_cases e : j = k
     ·subst e; rw [if_pos rfl, if_pos (by omega), Ht.out]
     ·rw [if_neg e]
      by_cases e2 : j < k
      ·rw [if_pos e2, if_pos (by omega)]
      ·rw [if_neg e2, if_neg (by omega)]
   case measure => simp [intOf]; omega
  ·obtain rfl : k = n := by omega
   have hown2 : wr.ownsRow B e 1 (.slice A k c) k (intCells (marksI k0 k)) := by
    have h := hown
    rw [tabI_congr k (g := fun j => ((k0 + j : Nat) : Int)) (fun j hj => if_pos hj)] at h
    exact h
   have Hown2 := Lib.hid hown2
   clear hown hown2
   go_wp2_with fail
   go_ret
   exact ⟨ret_int Ht.out, Hown2.out, hgr⟩
set_option maxHeartbeats 1000000 in
set_option maxRecDepth 10000 in
theorem heldIS (v : Value) (k0 n : Nat) (w : World) (hm : k0 + n ≤ 1000000000) (hrd : RdI w v (marksI k0 n)) :
  Calls Tryz.prog 44 #[v, .int .i64 k0] w fun ed w' => ed = .returned (.int .i64 ((k0 + n : Nat) : Int)) ∧ w' = w := by
 obtain ⟨A, c, rfl⟩ := hrd.form
 rw [marksI_length] at hrd ⊢
 have Hrd := Lib.hid hrd
 clear hrd
 go_enter Tryz.func44, Tryz.ntmps44
 go_wp2_with fail
 go_loopw [1, 5] (fun s1 i wr => ∃ (k : Nat) (t : Int), k ≤ n ∧ i = .int .i64 k ∧ s1 = .int .i64 t ∧ Hid (t = ((k0 + k : Nat) : Int)) ∧ wr = w) (fun _ i _ => n - (intOf i).toNat)
 case atStart => exact ⟨0, k0, Nat.zero_le _, rfl, rfl, Lib.hid (by simp), rfl⟩
 case round =>
  obtain ⟨k, t, hk, rfl, rfl, Ht, rfl⟩ := hrel
  have ht0 : 0 ≤ t := by have := Ht.out; omega
  have ht1 : t ≤ 5000000000 := by have := Ht.out; omega
  by_cases hlt : k < n
  ·obtain ⟨gq, r, rfl, hr, c0⟩ := Hrd.out.at_ (k := k) (by rw [marksI_length]; exact hlt)
   unfold marksI at hr
   rw [tabI_get n _ k hlt] at hr
   injection hr with hr
   have e0 : r = t := by rw [← hr, Ht.out]
   rw [e0] at c0
   have k0' : (0 : Int) ≤ (k : Int) := by omega
   have k1' : (k : Int) < (n : Int) := by omega
   clear hr e0
   go_wp2_with fail
   go_roundw
   case rel => exact ⟨k + 1, _, by omega, by go_num, rfl, Lib.hid (by have := Ht.out; omega), by first | rfl | trivial⟩
   case measure => simp [intOf]; omega
  ·obtain rfl : k = n := by omega
   go_wp2_with fail
   go_ret
   exact ⟨ret_int Ht.out, rfl⟩
theorem szIS_yes (n : Nat) (A : Option Addr) (c : Nat) (l : Int) (h : (n : Int) ≤ l) (hl : l ≤ 2097152) (w : World) :
  Calls Tryz.prog 92 #[.slice A n c, .int .i64 l] w fun e w' => e = .returned (.int .i64 (l - n)) ∧ w = w' := by
 have h1 : ¬ (l - (n : Int) < 0) := by omega
 go_enter Tryz.func92, Tryz.ntmps92
 go_wp2
 go_ret
 exact ⟨rfl, rfl⟩
theorem szIS_no (n : Nat) (A : Option Addr) (c : Nat) (hn : n ≤ maxLen) (l : Int) (h0 : 0 ≤ l) (h : l < (n : Int)) (w : World) :
  Calls Tryz.prog 92 #[.slice A n c, .int .i64 l] w fun e w' => e = .returned (.int .i64 (-1)) ∧ w = w' := by
 unfold maxLen at hn
 have h1 : l - (n : Int) < 0 := by omega
 go_enter Tryz.func92, Tryz.ntmps92
 go_wp2
 go_ret
 exact ⟨rfl, rfl⟩
end Go.Proofs.YtdgagooldlnpeaaGreat
namespace Go.Proofs.YtdgagooldlnpeaaGreat
open Go.RowKit
section
variable {α : Type} {E : Rep α} {w w' : World} {a : α} {vs : List Value} {bs cs : List Nat}
end
section
variable {α : Type} {E : Rep α} {w w' : World}
end
theorem flat_len {s : Nat} : ∀ {xs : List (List Value)}, (∀ x ∈ xs, x.length = s) → xs.flatten.length = xs.length * s
 | [], _ => by simp
 | x :: xs, h => by rw [List.flatten_cons, List.length_append, flat_len fun y hy => h y (by simp [hy]), h x (by simp), List.length_cons, Nat.add_mul]; omega
end Go.Proofs.YtdgagooldlnpeaaGreat
namespace Go.Proofs.YtdgagooldlnpeaaGreat
open Go.RowKit
structure ArgB {α : Type} (F : Wk α) (t : TypeId) (b : Nat) (a : α) (vs : List Value) (W : World) : Prop where
 at_ : BkAt W b t vs.toArray
 rd : F.R W a vs
section
variable {α : Type} {F : Wk α} {t : TypeId} {b : Nat} {a : α} {vs : List Value} {W W' : World}
theorem ArgB.call (h : ArgB F t b a vs W) (hb : Below W.heap.size W W') : ArgB F t b a vs W' := ⟨h.at_.call hb, F.call h.rd hb⟩
theorem ArgB.lt (h : ArgB F t b a vs W) : b < W.heap.size := h.at_.lt
theorem ArgB.born {w : World} (hw : F.R w a vs) (t : TypeId) : ArgB F t w.heap.size a vs (w.alloc (.cells vs.toArray t)) := ⟨BkAt.new _ _ _, F.call hw ((Below.refl _ _).alloc (Nat.le_refl _) _)⟩
theorem ArgB.bornAt {w : World} {g : Nat} (h : w.heap.size = g) (hw : F.R w a vs) (t : TypeId) : ArgB F t g a vs (w.alloc (.cells vs.toArray t)) := h ▸ ArgB.born hw t
theorem ArgB.chg {w : World} {cs : List Nat} (h : ArgB F t b a vs W) (h0 : F.R w a vs) (hw : Below w.heap.size w W') (hc : Chg W W' cs) (hn : b ∉ cs) : ArgB F t b a vs W' := ⟨(hc.block b h.lt hn).trans h.at_, F.call h0 hw⟩
end
structure VarB {α : Type} (E : Rep α) (t : TypeId) (lo hi b : Nat) (a : α) (vs : List Value) (bs : List Nat) (W : World) : Prop where
 at_ : BkAt W b t vs.toArray
 own : E.Own lo W a vs bs
 lb : lo ≤ b
 hb : b < hi
 hbs : ∀ k ∈ bs, k < hi ∧ k ≠ b
 hs : hi ≤ W.heap.size
section
variable {α : Type} {E : Rep α} {t : TypeId} {lo hi b : Nat} {a a' : α} {vs : List Value} {bs cs : List Nat} {W W' : World}
theorem VarB.call (h : VarB E t lo hi b a vs bs W) (k : Below W.heap.size W W') : VarB E t lo hi b a vs bs W' := ⟨h.at_.call k, h.own.call k, h.lb, h.hb, h.hbs, Nat.le_trans h.hs k.size⟩
theorem VarB.r (h : VarB E t lo hi b a vs bs W) : E.R W a vs bs := h.own.r
theorem VarB.rng (h : VarB E t lo hi b a vs bs W) : ∀ k ∈ bs, lo ≤ k ∧ k < hi := fun k hk => ⟨h.own.lo k hk, (h.hbs k hk).1⟩
theorem VarB.chg (h : VarB E t lo hi b a vs bs W) (hc : Chg W W' cs) (hn : ∀ k ∈ cs, k < lo ∨ hi ≤ k) : VarB E t lo hi b a vs bs W' :=
 ⟨(hc.block b h.at_.lt fun e => by have := hn b e; have := h.lb; have := h.hb; omega).trans h.at_, h.own.chg hc fun k hk e => by have := hn k e; have := h.rng k hk; omega, h.lb, h.hb, h.hbs, Nat.le_trans h.hs hc.size⟩
theorem VarB.mark (h : VarB E t lo hi b a vs bs W) (hr : E.R W' a' vs bs) (hc : Chg W W' bs) : VarB E t lo hi b a' vs bs W' :=
 ⟨(hc.block b h.at_.lt fun e => (h.hbs b e).2 rfl).trans h.at_, ⟨hr, h.own.nd, h.own.lo⟩, h.lb, h.hb, h.hbs, Nat.le_trans h.hs hc.size⟩
theorem VarB.born {w : World} (hk : Below w.heap.size w W) (ho : E.Own w.heap.size W a vs bs) (t : TypeId) : VarB E t w.heap.size (W.heap.size + 1) W.heap.size a vs bs (W.alloc (.cells vs.toArray t)) :=
 ⟨BkAt.new _ _ _, ho.call ((Below.refl _ _).alloc (Nat.le_refl _) _), hk.size, Nat.lt_succ_self _, fun k hk => by have := E.ex ho.r k hk; omega, by simp⟩
theorem VarB.below {w : World} (h : VarB E t lo hi b a vs bs W) (hw : Below w.heap.size w W) (hlo : w.heap.size ≤ lo) (hc : Chg W W' bs) : Below w.heap.size w W' :=
 hc.below hw hw.size fun k hk => Nat.le_trans hlo (h.rng k hk).1
end
theorem rows_nodup {bss : List (List Nat)} (h : bss.flatten.Nodup) {k j : Nat} {b c : List Nat} (hk : bss[k]? = some b) (hj : bss[j]? = some c) (hne : k ≠ j) : ∀ x ∈ b, x ∉ c := by
  induction bss generalizing k j with
  | nil => simp at hk
  | cons d t ih =>
    rw [List.flatten_cons, List.nodup_append] at h
    obtain ⟨h1, h2, h3⟩ := h
    cases k with
    | zero =>
      obtain rfl : d = b := by simpa using hk
      cases j with
      | zero => exact absurd rfl hne
      | succ j => intro x hx hc; exact h3 x hx x (List.mem_flatten.2 ⟨c, List.mem_of_getElem? (by simpa using hj), hc⟩) rfl
    | succ k =>
      cases j with
      | zero =>
        obtain rfl : d = c := by simpa using hj
        intro x hx hc
        exact h3 x hc x (List.mem_flatten.2 ⟨b, List.mem_of_getElem? (by simpa using hk), hx⟩) rfl
      | succ j => exact ih h2 (by simpa using hk) (by simpa using hj) (by omega)
end Go.Proofs.YtdgagooldlnpeaaGreat
namespace Go.Proofs.YtdgagooldlnpeaaGreat
open Go.RowKit
theorem rep_ints_own {B : Nat} {w : World} {L : List Int} {d : Value} {bs : List Nat} (h : repInts.Own B w L [d] bs) : w.ownsRow B 3 1 d L.length (intCells L) ∧ bs = d.ownBlock.toList := by
 obtain ⟨v, e, ho, rfl⟩ := h.r
 obtain rfl : d = v := by simpa using e
 exact ⟨own_rebase ho fun b hb => h.lo b hb, rfl⟩
end Go.Proofs.YtdgagooldlnpeaaGreat
namespace Go.Proofs.YtdgagooldlnpeaaGreat
open Go.RowKit
theorem szIm_yes (W H : Int) (n : Nat) (A : Option Addr) (c : Nat) (l : Int) (h : (n : Int) ≤ l) (hl : l ≤ 2097152) (w : World) :
  Calls Tryz.prog 45 #[.agg #[.int .i64 W, .int .i64 H, .slice A n c], .int .i64 l] w fun e w' => e = .returned (.int .i64 (l - n)) ∧ Below w.heap.size w w' := by
 have h1 : ¬ (l - (n : Int) < 0) := by omega
 go_enter Tryz.func45, Tryz.ntmps45
 go_wp2_with fail
 refine (szIS_yes n A c l h hl _).mono ?_
 rintro e w1 ⟨rfl, rfl⟩
 go_wp2_with fail
 go_ret
 exact ⟨rfl, (Below.refl _ _).alloc (Nat.le_refl _) _⟩
theorem szIm_no (W H : Int) (n : Nat) (A : Option Addr) (c : Nat) (hn : n ≤ maxLen) (l : Int) (h0 : 0 ≤ l) (h : l < (n : Int)) (w : World) :
  Calls Tryz.prog 45 #[.agg #[.int .i64 W, .int .i64 H, .slice A n c], .int .i64 l] w fun e w' => e = .returned (.int .i64 (-1)) ∧ Below w.heap.size w w' := by
 go_enter Tryz.func45, Tryz.ntmps45
 go_wp2_with fail
 refine (szIS_no n A c hn l h0 h _).mono ?_
 rintro e w1 ⟨rfl, rfl⟩
 go_wp2_with fail
 go_ret
 exact ⟨rfl, (Below.refl _ _).alloc (Nat.le_refl _) _⟩
set_option maxHeartbeats 600000 in
set_option maxRecDepth 10000 in
theorem toIm (W H : Int) (v : Value) (L : List Int) (w : World) (hm : L.length ≤ 1048576) (h : Rd w v L.length (intCells L)) :
  Calls Tryz.prog 48 #[.agg #[.int .i64 W, .int .i64 H, v]] w (ImAns W H L w) := by
 obtain ⟨A0, c0, rfl⟩ := h.form
 have Hm := Lib.hid hm
 have HR := Lib.hid h
 obtain ⟨n, hn⟩ : ∃ n, n = L.length := ⟨_, rfl⟩
 rw [← hn]
 have Hn := Lib.hid hn
 clear hm h hn
 go_enter Tryz.func48, Tryz.ntmps48
 go_wp2_with fail
 refine (toIO _ L _ Hm.out (by rw [Hn.out]; exact HR.out.call (by repeat (first | exact Below.refl _ _ | refine Below.setCell ?_ (by simp; try omega) _ | refine Below.alloc ?_ (by simp; try omega) _)))).mono ?_
 rintro e w1 ⟨u, rfl, hown, hb1⟩
 have i2 : ImAt w1 (w.heap.size + 2) 55 W H (.slice none 0 0) := ImAt.call (ImAt.newAt (by simp) _ _ _ _) hb1
 have i1 : ImAt w1 (w.heap.size + 1) 55 0 0 (.slice none 0 0) := ImAt.call (ImAt.alloc (ImAt.newAt (by simp) _ _ _ _) _) hb1
 have K : Below w.heap.size w w1 := Below.trans (by repeat (first | exact Below.refl _ _ | refine Below.setCell ?_ (by simp; try omega) _ | refine Below.alloc ?_ (by simp; try omega) _)) (hb1.mono (by simp; try omega))
 obtain ⟨A, c, hu⟩ := ownI_shape hown
 subst hu
 have hlt := fun g hg => (hown.lt g hg).1
 have hown := hown.mono (show w.heap.size ≤ _ by simp; try omega)
 have Hown := Lib.hid hown
 have Hlt := Lib.hid hlt
 have HK := Lib.hid K
 clear hown hlt K hb1
 obtain ⟨a0, a1, a2⟩ := i2.cells
 obtain ⟨b0, b1, b2⟩ := i1.cells
 have f2 := i2.frozen 2
 have g0 := i1.frozen 0
 have g1 := i1.frozen 1
 have g2 := i1.frozen 2
 go_wp2_with fail
 have j2 := i2.set2 (.slice A L.length c)
 have j1 := (i1.far (p := ⟨w.heap.size + 2, 2, none⟩) (by simp) (.slice A L.length c)).set3 W H (.slice A L.length c)
 obtain ⟨x0, x1, x2⟩ := j1.cells
 exact bodyPost_ret (v := .agg #[.int .i64 W, .int .i64 H, .slice A L.length c]) (by simp [results, Tryz.results48, go_sem, x0, x1, x2]) rfl ⟨_, rfl, ownI_far (ownI_far (ownI_far (ownI_far Hown.out (fun g hg => by have := Hlt.out g hg; simp at this ⊢; omega) _) (fun g hg => by have := Hlt.out g hg; simp at this ⊢; omega) _) (fun g hg => by have := Hlt.out g hg; simp at this ⊢; omega) _) (fun g hg => by have := Hlt.out g hg; simp at this ⊢; omega) _, (((HK.out.setCell (by simp; try omega) _).setCell (by simp; try omega) _).setCell (by simp; try omega) _).setCell (by simp; try omega) _⟩
set_option maxHeartbeats 600000 in
theorem eqIm_same (W H : Int) (v u : Value) (L : List Int) (w : World) (hv : RdI w v L) (hu : RdI w u L) :
  Calls Tryz.prog 50 #[.agg #[.int .i64 W, .int .i64 H, v], .agg #[.int .i64 W, .int .i64 H, u]] w fun e w' => e = .returned (.bool true) ∧ Below w.heap.size w w' := by
 have hv2 := (hv.alloc (.cells #[.int .i64 W, .int .i64 H, v] 55)).alloc (.cells #[.int .i64 W, .int .i64 H, u] 55)
 have hu2 := (hu.alloc (.cells #[.int .i64 W, .int .i64 H, v] 55)).alloc (.cells #[.int .i64 W, .int .i64 H, u] 55)
 have Hw := Lib.hid (((Below.refl w.heap.size w).alloc (Nat.le_refl _) (.cells #[.int .i64 W, .int .i64 H, v] 55)).alloc (by simp) (.cells #[.int .i64 W, .int .i64 H, u] 55))
 have Hv := Lib.hid hv2
 have Hu := Lib.hid hu2
 obtain ⟨A, c, rfl⟩ := hv.form
 obtain ⟨A', c', rfl⟩ := hu.form
 obtain ⟨n, hn⟩ : ∃ n, n = L.length := ⟨_, rfl⟩
 rw [← hn] at Hv Hu Hw ⊢
 have Hn := Lib.hid hn
 clear hv hu hv2 hu2 hn
 go_enter Tryz.func50, Tryz.ntmps50
 go_wp2_with fail
 refine (eqIS_same _ _ L _ Hv.out.rd Hu.out.rd).mono ?_
 rintro e w1 ⟨rfl, q, rfl⟩
 go_wp2_with fail
 go_ret
 exact ⟨rfl, below_drewN Hw.out q⟩
theorem markIm (B : Nat) (W H : Int) (v : Value) (L : List Int) (k0 : Nat) (w : World) (hm : k0 + L.length ≤ 1000000000) (hown : w.ownsRow B 3 1 v L.length (intCells L)) :
  Calls Tryz.prog 51 #[.agg #[.int .i64 W, .int .i64 H, v], .int .i64 k0] w fun ed w' => ed = .returned (.int .i64 ((k0 + L.length : Nat) : Int)) ∧ w'.ownsRow B 3 1 v L.length (intCells (marksI k0 L.length)) ∧ w.grownBy w' v.ownBlock := by
 have hown2 := hown.alloc (.cells #[.int .i64 W, .int .i64 H, v] 55)
 have hg := World.grownBy_alloc w (.cells #[.int .i64 W, .int .i64 H, v] 55) v.ownBlock
 obtain ⟨A, c, rfl⟩ := ownI_shape hown
 clear hown
 go_enter Tryz.func51, Tryz.ntmps51
 go_wp2_with fail
 refine (markIS B _ _ L k0 _ hm hown2).mono ?_
 rintro e w1 ⟨rfl, h1, h2⟩
 have H1 := Lib.hid h1
 have H2 := Lib.hid (hg.trans h2)
 clear h1 h2 hg hown2
 go_wp2_with fail
 go_ret
 exact ⟨rfl, H1.out, H2.out⟩
theorem heldIm (W H : Int) (v : Value) (k0 n : Nat) (w : World) (hm : k0 + n ≤ 1000000000) (hrd : RdI w v (marksI k0 n)) :
  Calls Tryz.prog 52 #[.agg #[.int .i64 W, .int .i64 H, v], .int .i64 k0] w fun ed w' => ed = .returned (.int .i64 ((k0 + n : Nat) : Int)) ∧ Below w.heap.size w w' := by
 have h2 := hrd.alloc (.cells #[.int .i64 W, .int .i64 H, v] 55)
 obtain ⟨A, c, rfl⟩ := hrd.form
 clear hrd
 have c1 : ¬ ((k0 + n : Nat) : Int) < 0 := by omega
 go_enter Tryz.func52, Tryz.ntmps52
 go_wp2_with fail
 refine (heldIS _ k0 n _ hm h2).mono ?_
 rintro e w1 ⟨rfl, rfl⟩
 clear h2
 go_wp2_with fail
 go_ret
 exact ⟨rfl, (Below.refl _ _).alloc (Nat.le_refl _) _⟩
end Go.Proofs.YtdgagooldlnpeaaGreat
