/- Texts of mine in one file: FormA, Jn2. No statement is proved here. -/
import Derived.Test.YtdgagooldlnpeaaGreatMA
import Derived.Test.YtdgagooldlnpeaaGreatMC
import Derived.Test.YtdgagooldlnpeaaGreatMAv013
import Derived.Test.YtdgagooldlnpeaaGreatCombIv013
import Derived.Test.YtdgagooldlnpeaaGreatProg
import Derived.WalkKit
import Derived.ProofKit
import Derived.OpenShut
import Derived.WalkLawsBesides
import Derived.WalkSpells
import Derived.ShutString
import Derived.ChangeOld
import Derived.Below
import Derived.Lib.Hide
import Derived.BigQuiet
import Derived.Deep.QuietTactic
import Derived.Maps.AppendAt
import Derived.Handy
import Derived.Deep.RegionHeld3
import Derived.Deep.DeepCutAuto
import Derived.Deep.RegionWith
import Derived.Deep.Draws
import Derived.Deep.MidRow
import Derived.Deep.WholeRow
import Derived.Deep.OwnRows
import Derived.Deep.LoopGhost
import Derived.OwnWalk
import Derived.Deep.AppendLies
import Derived.Deep.Onto
import Derived.Laws.AppendOwn
import Derived.Great.BuildSlice
namespace Go.Proofs.YtdgagooldlnpeaaGreat
open Go.RowKit
theorem wp_append_row {P : Program} {o : Oper} {a : Act} {w : World} {K : Act → World → Prop} {Q : Exit → Act → World → Prop} (s x : Operand) (t : TypeId)
  (ho : o.op = .call { callee := .builtin .append, args := #[s, x], argTypes := #[t, t] })
  (base base' : Nat) (e : TypeId) (i : TypeInfo) (z : Value) (size bytes : Nat) (ht : P.underlying t = some (.slice e)) (hi : P.info? e = some i) (hz : i.zero = some z)
  (hsize : i.size = size) (hby : i.bytes = bytes) (hzs : z.cells.size = size) (hsz : 0 < size)
  (v : Value) (n : Nat) (xs : List Value) (hs : a.eval s = v) (hown : w.ownsRow base e size v n xs)
  (u : Value) (m : Nat) (news : List Value) (hx : a.eval x = u) (hu : w.ownsRow base' e size u m news) (h1 : ∀ u ∈ news, u.oneCell' = true)
  (h63 : n + m ≤ maxLen) (hbytes : (n + m) * bytes ≤ 140737488355328) (hbase : base ≤ w.heap.size)
  (h : ∀ v' w', w'.ownsRow base e size v' (n + m) (xs ++ news) → w.grownBy w' v.ownBlock → (v'.ownBlock = v.ownBlock ∨ v'.ownBlock = some w.heap.size) → K (a.put o.dst v') w') : o.wp P a w K Q := by
 rcases hu.2 with ⟨rfl, rfl⟩ | ⟨g, cap, cur, rfl, _, _, hn, _, _, _⟩
 ·have hnil : news = [] := List.eq_nil_of_length_eq_zero (by have := hu.1; omega)
  subst hnil
  have hr := run_append_none w base t o.type e i size ht hi v n xs hown
  unfold Oper.wp execOp
  simp only [ho, resolve, invoke, builtin, Sem.run_bind, Sem.run_pure, Result.andThen_ok, List.map_toArray, List.map_cons, List.map_nil, hs, hx, hr]
  exact h v w (by simpa using hown) ⟨rfl, rfl, rfl, Nat.le_refl _, fun _ _ _ => rfl⟩ (.inl rfl)
 ·obtain ⟨v', w', hr, h2, h3, _, h5⟩ := run_append_own_at (P := P) w base t o.type e i z size bytes ht hi hz hsize hby hzs hsz v n xs hown ⟨g, 0, none⟩ m cap news hu.1 (hu.cells rfl) h1 h63 hbytes hbase
  unfold Oper.wp execOp
  simp only [ho, resolve, invoke, builtin, Sem.run_bind, Sem.run_pure, Result.andThen_ok, List.map_toArray, List.map_cons, List.map_nil, hs, hx, hr]
  exact h v' w' h2 h3 h5
theorem BxR.grown {w w' : World} {b : Nat} {row : Option Nat} (h : BxR w b) (hg : w.grownBy w' row) (hr : some b ≠ row) : BxR w' b := (hg.block b h.lt hr).trans h
theorem own_call2 {w w' : World} {B n : Nat} {e : TypeId} {v : Value} {xs : List Value} (h : w.ownsRow B e 4 v n xs) (hb : Below w.heap.size w w') : w'.ownsRow B e 4 v n xs :=
 h.kept (row := none) ⟨hb.os, hb.tape, hb.output, hb.size, fun k hk _ => hb.block k hk⟩ (by
  by_cases hv : v.ownBlock = none
  ·exact .inl hv
  ·exact .inr hv)
end Go.Proofs.YtdgagooldlnpeaaGreat
namespace Go.Proofs.YtdgagooldlnpeaaGreat
open Go.RowKit
theorem enter2 (args : Array Value) (w : World) : (callFunc 88 args).run Tryz.prog w = .ok (.enter 88 args) w := by
 simp [go_sem]
theorem kept2 (p q : Bool) (w : World) : Calls Tryz.prog 88 #[.bool p, .bool q] w fun e w' => e = .returned (.bool ((fun p q => p && !q) p q)) ∧ w = w' := by
 cases p
 ·go_enter Tryz.func88, Tryz.ntmps88
  go_wp2
  go_ret
  exact ⟨ret_bool (by cases q <;> rfl), rfl⟩
 ·go_enter Tryz.func88, Tryz.ntmps88
  go_wp2
  go_ret
  exact ⟨ret_bool (by cases q <;> rfl), rfl⟩
set_option maxHeartbeats 1000000 in
set_option maxRecDepth 10000 in
theorem jnI2 (va vb : Value) (A B : List Rc) (w : World) (ha : RdR w va A) (hb : RdR w vb B) :
  Calls Tryz.prog 31 #[.agg #[va], .agg #[vb]] w (JoinAns (fun p q => p && !q) A B w) := by
 have hS := CbSt.born w va vb ha hb
 clear ha hb
 have ca := hS.ca
 have cb := hS.cb
 go_enter Tryz.func31, Tryz.ntmps31
 go_wp2_with fail
 refine (combI 88 (fun p q => p && !q) enter2 kept2 va vb A B _ hS.ra hS.rb).mono ?_
 rintro e w1 ⟨v, rfl, hown, hb⟩
 have hrl := hS.rs.lt
 replace hS := hS.call hb
 obtain ⟨Av, cv, hv⟩ := own_shape hown
 subst hv
 have rc := hS.rs.cell
 have rf := hS.rs.frozen
 have Hown := Lib.hid hown
 clear hown hb ca cb
 go_wp2_with fail
 exact bodyPost_ret (v := .agg #[.slice Av (joinL (fun p q => p && !q) A B).length cv]) (by simp [results, Tryz.results31, go_sem, rc]) rfl ⟨_, rfl, own_set Hown.out (by omega) (by omega) _, hS.bw.setCell (by simp; omega) _⟩
end Go.Proofs.YtdgagooldlnpeaaGreat
