/- Texts of mine in one file: FormA, JnP, JnS0, Jn0. No statement is proved here. -/
import Derived.Test.YtnndifemkichmaaGreatMAv1
import Derived.Test.YtnndifemkichmaaGreatMA
import Derived.Test.YtnndifemkichmaaGreatCombIv1
import Derived.Test.YtnndifemkichmaaGreatProg
import Derived.WalkKit
import Derived.ProofKit
import Derived.OpenShut
import Derived.WalkLawsBesides
import Derived.WalkSpells
import Derived.ShutString
import Derived.ChangeOld
import Derived.Below
import Derived.Lib.Hide
import Derived.BigQuiet
import Derived.Deep.QuietTactic
import Derived.Maps.AppendAt
import Derived.Handy
import Derived.Deep.RegionHeld3
import Derived.Deep.DeepCutAuto
import Derived.Deep.RegionWith
import Derived.Deep.Draws
import Derived.Deep.MidRow
import Derived.Deep.WholeRow
import Derived.Deep.OwnRows
import Derived.Deep.LoopGhost
import Derived.OwnWalk
import Derived.Deep.AppendLies
import Derived.Deep.Onto
import Derived.Laws.AppendOwn
import Derived.Great.BuildSlice
namespace Go.Proofs.YtnndifemkichmaaGreat
open Go.RowKit
theorem wp_append_row {P : Program} {o : Oper} {a : Act} {w : World} {K : Act → World → Prop} {Q : Exit → Act → World → Prop} (s x : Operand) (t : TypeId)
  (ho : o.op = .call { callee := .builtin .append, args := #[s, x], argTypes := #[t, t] })
  (base base' : Nat) (e : TypeId) (i : TypeInfo) (z : Value) (size bytes : Nat) (ht : P.underlying t = some (.slice e)) (hi : P.info? e = some i) (hz : i.zero = some z)
  (hsize : i.size = size) (hby : i.bytes = bytes) (hzs : z.cells.size = size) (hsz : 0 < size)
  (v : Value) (n : Nat) (xs : List Value) (hs : a.eval s = v) (hown : w.ownsRow base e size v n xs)
  (u : Value) (m : Nat) (news : List Value) (hx : a.eval x = u) (hu : w.ownsRow base' e size u m news) (h1 : ∀ u ∈ news, u.oneCell' = true)
  (h63 : n + m ≤ maxLen) (hbytes : (n + m) * bytes ≤ 140737488355328) (hbase : base ≤ w.heap.size)
  (h : ∀ v' w', w'.ownsRow base e size v' (n + m) (xs ++ news) → w.grownBy w' v.ownBlock → (v'.ownBlock = v.ownBlock ∨ v'.ownBlock = some w.heap.size) → K (a.put o.dst v') w') : o.wp P a w K Q := by
 rcases hu.2 with ⟨rfl, rfl⟩ | ⟨g, cap, cur, rfl, _, _, hn, _, _, _⟩
 ·have hnil : news = [] := List.eq_nil_of_length_eq_zero (by have := hu.1; omega)
  subst hnil
  have hr := run_append_none w base t o.type e i size ht hi v n xs hown
  unfold Oper.wp execOp
  simp only [ho, resolve, invoke, builtin, Sem.run_bind, Sem.run_pure, Result.andThen_ok, List.map_toArray, List.map_cons, List.map_nil, hs, hx, hr]
  exact h v w (by simpa using hown) ⟨rfl, rfl, rfl, Nat.le_refl _, fun _ _ _ => rfl⟩ (.inl rfl)
 ·obtain ⟨v', w', hr, h2, h3, _, h5⟩ := run_append_own_at (P := P) w base t o.type e i z size bytes ht hi hz hsize hby hzs hsz v n xs hown ⟨g, 0, none⟩ m cap news hu.1 (hu.cells rfl) h1 h63 hbytes hbase
  unfold Oper.wp execOp
  simp only [ho, resolve, invoke, builtin, Sem.run_bind, Sem.run_pure, Result.andThen_ok, List.map_toArray, List.map_cons, List.map_nil, hs, hx, hr]
  exact h v' w' h2 h3 h5
theorem BxR.grown {w w' : World} {b : Nat} {row : Option Nat} (h : BxR w b) (hg : w.grownBy w' row) (hr : some b ≠ row) : BxR w' b := (hg.block b h.lt hr).trans h
theorem own_call2 {w w' : World} {B n : Nat} {e : TypeId} {v : Value} {xs : List Value} (h : w.ownsRow B e 4 v n xs) (hb : Below w.heap.size w w') : w'.ownsRow B e 4 v n xs :=
 h.kept (row := none) ⟨hb.os, hb.tape, hb.output, hb.size, fun k hk _ => hb.block k hk⟩ (by
  by_cases hv : v.ownBlock = none
  ·exact .inl hv
  ·exact .inr hv)
end Go.Proofs.YtnndifemkichmaaGreat
namespace Go.Proofs.YtnndifemkichmaaGreat
open Go.RowKit
structure CgB (w : World) (g h : Nat → Bool) (b c : Nat) (W : World) : Prop where
 g1 : GrAt W b 4 g
 g2 : GrAt W c 4 h
 ne : b ≠ c
 l1 : w.heap.size + 3 ≤ b
 l2 : w.heap.size + 3 ≤ c
 rs : BxR W (w.heap.size + 2)
 bw : Below w.heap.size w W
theorem CgB.call {w W W' : World} {g h : Nat → Bool} {b c : Nat} (k : CgB w g h b c W) (hb : Below W.heap.size W W') : CgB w g h b c W' :=
 ⟨k.g1.call hb, k.g2.call hb, k.ne, k.l1, k.l2, k.rs.call hb, k.bw.trans (hb.mono k.bw.size)⟩
theorem CgB.congr {w W : World} {g g' h : Nat → Bool} {b c : Nat} (k : CgB w g h b c W) (e : ∀ i, i < 256 → g i = g' i) : CgB w g' h b c W :=
 ⟨k.g1.congr e, k.g2, k.ne, k.l1, k.l2, k.rs, k.bw⟩
theorem CgB.set {w W : World} {g h : Nat → Bool} {b c : Nat} (k : CgB w g h b c W) (n : Nat) (v : Bool) : CgB w (gSet g n v) h b c (W.setCell ⟨b, n, none⟩ (.bool v)) :=
 ⟨k.g1.set n v, k.g2.far (Ne.symm k.ne) _, k.ne, k.l1, k.l2, (Below.heap_setCell W _ _ _ (by have := k.l1; simp; omega)).trans k.rs, k.bw.setCell (by have := k.l1; simp; omega) _⟩
end Go.Proofs.YtnndifemkichmaaGreat
namespace Go.Proofs.YtnndifemkichmaaGreat
open Go.RowKit
set_option maxHeartbeats 4000000 in
set_option maxRecDepth 10000 in
theorem joinS0 (va vb : Value) (A B : List Rc) (w : World) (ha : RdR w va A) (hb : RdR w vb B) :
  Calls Tryz.prog 165 #[.agg #[va], .agg #[vb], .int .i64 0] w (JoinAns (fun p q => p || q) A B w) := by
 have hS := CbSt.born w va vb ha hb
 clear ha hb
 rcases hA : okL A with _ | _
 ·have Hj := Lib.hid (joinL_no (f := (fun p q => p || q)) (A := A) (B := B) (by rw [hA]; simp))
  have R := fun W hv => rokS va A W hv
  unfold RokAns at R
  rw [hA] at R
  clear hA
  have ca := hS.ca
  go_enter Tryz.func165, Tryz.ntmps165
  go_wp2_with fail
  refine (R _ hS.ra).mono ?_
  rintro e w1 ⟨rfl, hb⟩
  replace hS := hS.call hb
  have rc := hS.rs.cell
  have rf := hS.rs.frozen
  clear hb R ca
  go_wp2_with fail
  exact bodyPost_ret (v := .agg #[.slice none 0 0]) (by simp [results, Tryz.results165, go_sem, rc]) rfl ⟨_, rfl, by rw [Hj.out]; exact World.ownsRow_nil _ _ _ _, hS.bw.setCell (by simp; omega) _⟩
 ·rcases hB : okL B with _ | _
  ·have Hj := Lib.hid (joinL_no (f := (fun p q => p || q)) (A := A) (B := B) (by rw [hB]; simp))
   have R := fun W hv => rokS va A W hv
   have R2 := fun W hv => rokS vb B W hv
   unfold RokAns at R R2
   rw [hA] at R
   rw [hB] at R2
   clear hA hB
   have ca := hS.ca
   go_enter Tryz.func165, Tryz.ntmps165
   go_wp2_with fail
   refine (R _ hS.ra).mono ?_
   rintro e w1 ⟨rfl, hb⟩
   replace hS := hS.call hb
   have cb := hS.cb
   clear hb R ca
   go_wp2_with fail
   refine (R2 _ hS.rb).mono ?_
   rintro e w1 ⟨rfl, hb⟩
   replace hS := hS.call hb
   have rc := hS.rs.cell
   have rf := hS.rs.frozen
   clear hb R2 cb
   go_wp2_with fail
   exact bodyPost_ret (v := .agg #[.slice none 0 0]) (by simp [results, Tryz.results165, go_sem, rc]) rfl ⟨_, rfl, by rw [Hj.out]; exact World.ownsRow_nil _ _ _ _, hS.bw.setCell (by simp; omega) _⟩
  ·have Hj := Lib.hid (joinL_yes (f := (fun p q => p || q)) ⟨hA, hB⟩)
   have R := fun W hv => rokS va A W hv
   have R2 := fun W hv => rokS vb B W hv
   unfold RokAns at R R2
   rw [hA] at R
   rw [hB] at R2
   clear hA hB
   have ca := hS.ca
   go_enter Tryz.func165, Tryz.ntmps165
   go_wp2_with fail
   refine (R _ hS.ra).mono ?_
   rintro e w1 ⟨rfl, hb⟩
   replace hS := hS.call hb
   have cb := hS.cb
   clear hb R ca
   go_wp2_with fail
   refine (R2 _ hS.rb).mono ?_
   rintro e w1 ⟨rfl, hb⟩
   replace hS := hS.call hb
   have ca := hS.ca
   clear hb R2 cb
   go_wp2_with fail
   refine (gridS va A _ hS.ra).mono ?_
   rintro e w2 ⟨b, rfl, hb0, hG, hb⟩
   have hl1 : w.heap.size + 3 ≤ b := by have := hS.rs.lt; omega
   replace hS := hS.call hb
   have cb := hS.cb
   clear hb ca hb0
   go_wp2_with fail
   refine (gridS vb B _ hS.rb).mono ?_
   rintro e w3 ⟨c, rfl, hc0, hH, hb⟩
   have hne : b ≠ c := by have := hG.lt; omega
   have hl2 : w.heap.size + 3 ≤ c := by have := hS.rs.lt; omega
   replace hS := hS.call hb
   have hT : CgB w (gridOf A) (gridOf B) b c w3 := ⟨hG.call hb, hH, hne, hl1, hl2, hS.rs, hS.bw⟩
   clear hb cb hc0 hG hH hS hne hl2
   go_wp2_with fail
   go_loopg [9] 256 (fun gk i wr => ∃ k : Nat, k ≤ 256 ∧ gk = 256 - k ∧ i = .int .i64 k ∧ CgB w (joinTo (fun p q => p || q) (gridOf A) (gridOf B) k) (gridOf B) b c wr)
   case atStart => exact ⟨0, Nat.zero_le _, rfl, rfl, hT.congr (fun i _ => (joinTo_zero _ _ _ _).symm)⟩
   case round =>
    clear hT
    obtain ⟨k, hk, rfl, rfl, hT⟩ := hrel
    by_cases hlt : k < 256
    ·have hki : (k : Int) < 256 := by omega
     have hk0 : (0 : Int) ≤ (k : Int) := by omega
     have c1 := hT.g1.cell k hlt
     rw [joinTo_at] at c1
     have c2 := hT.g2.cell k hlt
     have cf := hT.g1.frozen k
     obtain ⟨p, hp⟩ : ∃ p, p = gridOf A k := ⟨_, rfl⟩
     obtain ⟨q, hq⟩ : ∃ q, q = gridOf B k := ⟨_, rfl⟩
     rw [← hp] at c1
     rw [← hq] at c2
     have hT2 := hT.set k ((fun p q => p || q) p q)
     rw [hp, hq] at hT2
     have hT3 := hT2.congr (fun i _ => joinTo_next (fun p q => p || q) (gridOf A) (gridOf B) k i)
     rw [← hp, ← hq] at hT3
     have HT := Lib.hid hT3
     clear hT hT2 hT3 hp hq
     cases p
     ·cases q
      ·go_wp2_with fail
       go_roundg (256 - (k + 1))
       case measure => omega
       case rel => exact ⟨k + 1, by omega, rfl, by go_num, HT.out⟩
      ·go_wp2_with fail
       go_roundg (256 - (k + 1))
       case measure => omega
       case rel => exact ⟨k + 1, by omega, rfl, by go_num, HT.out⟩
     ·cases q
      ·go_wp2_with fail
       go_roundg (256 - (k + 1))
       case measure => omega
       case rel => exact ⟨k + 1, by omega, rfl, by go_num, HT.out⟩
      ·go_wp2_with fail
       go_roundg (256 - (k + 1))
       case measure => omega
       case rel => exact ⟨k + 1, by omega, rfl, by go_num, HT.out⟩
    ·have hki : ¬ (k : Int) < 256 := by omega
     have hG := hT.congr (g' := joinG (fun p q => p || q) (gridOf A) (gridOf B)) (fun i hi => by rw [show k = 256 by omega, joinTo_end _ _ _ _ hi])
     go_wp2_with fail
     refine (canS b (joinG (fun p q => p || q) (gridOf A) (gridOf B)) _ hG.g1).mono ?_
     rintro e w4 ⟨v, rfl, hown, hb⟩
     have hrl := hG.rs.lt
     have hG := hG.call hb
     obtain ⟨Av, cv, hv⟩ := own_shape hown
     subst hv
     have rc := hG.rs.cell
     have rf := hG.rs.frozen
     have Hown := Lib.hid hown
     clear hown hb
     go_wp2_with fail
     exact bodyPost_ret (v := .agg #[.slice Av (canon (joinG (fun p q => p || q) (gridOf A) (gridOf B))).length cv]) (by simp [results, Tryz.results165, go_sem, rc]) rfl ⟨_, rfl, own_set (by rw [Hj.out]; exact Hown.out) (by omega) (by omega) _, hG.bw.setCell (by simp; omega) _⟩
end Go.Proofs.YtnndifemkichmaaGreat
namespace Go.Proofs.YtnndifemkichmaaGreat
open Go.RowKit
theorem enter0 (args : Array Value) (w : World) : (callFunc 170 args).run Tryz.prog w = .ok (.enter 170 args) w := by
 simp [go_sem]
theorem kept0 (p q : Bool) (w : World) : Calls Tryz.prog 170 #[.bool p, .bool q] w fun e w' => e = .returned (.bool ((fun p q => p || q) p q)) ∧ w = w' := by
 cases p
 ·go_enter Tryz.func170, Tryz.ntmps170
  go_wp2
  go_ret
  exact ⟨ret_bool (by cases q <;> rfl), rfl⟩
 ·go_enter Tryz.func170, Tryz.ntmps170
  go_wp2
  go_ret
  exact ⟨ret_bool (by cases q <;> rfl), rfl⟩
set_option maxHeartbeats 1000000 in
set_option maxRecDepth 10000 in
theorem jnS0 (va vb : Value) (A B : List Rc) (w : World) (ha : RdR w va A) (hb : RdR w vb B) :
  Calls Tryz.prog 86 #[.agg #[va], .agg #[vb]] w (JoinAns (fun p q => p || q) A B w) := by
 have hS := CbSt.born w va vb ha hb
 clear ha hb
 have ca := hS.ca
 have cb := hS.cb
 go_enter Tryz.func86, Tryz.ntmps86
 go_wp2_with fail
 refine (joinS0 va vb A B _ hS.ra hS.rb).mono ?_
 rintro e w1 ⟨v, rfl, hown, hb⟩
 have hrl := hS.rs.lt
 replace hS := hS.call hb
 obtain ⟨Av, cv, hv⟩ := own_shape hown
 subst hv
 have rc := hS.rs.cell
 have rf := hS.rs.frozen
 have Hown := Lib.hid hown
 clear hown hb ca cb
 go_wp2_with fail
 exact bodyPost_ret (v := .agg #[.slice Av (joinL (fun p q => p || q) A B).length cv]) (by simp [results, Tryz.results86, go_sem, rc]) rfl ⟨_, rfl, own_set Hown.out (by omega) (by omega) _, hS.bw.setCell (by simp; omega) _⟩
set_option maxHeartbeats 1000000 in
set_option maxRecDepth 10000 in
theorem jnI0 (va vb : Value) (A B : List Rc) (w : World) (ha : RdR w va A) (hb : RdR w vb B) :
  Calls Tryz.prog 92 #[.agg #[va], .agg #[vb]] w (JoinAns (fun p q => p || q) A B w) := by
 have hS := CbSt.born w va vb ha hb
 clear ha hb
 have ca := hS.ca
 have cb := hS.cb
 go_enter Tryz.func92, Tryz.ntmps92
 go_wp2_with fail
 refine (combI 170 (fun p q => p || q) enter0 kept0 va vb A B _ hS.ra hS.rb).mono ?_
 rintro e w1 ⟨v, rfl, hown, hb⟩
 have hrl := hS.rs.lt
 replace hS := hS.call hb
 obtain ⟨Av, cv, hv⟩ := own_shape hown
 subst hv
 have rc := hS.rs.cell
 have rf := hS.rs.frozen
 have Hown := Lib.hid hown
 clear hown hb ca cb
 go_wp2_with fail
 exact bodyPost_ret (v := .agg #[.slice Av (joinL (fun p q => p || q) A B).length cv]) (by simp [results, Tryz.results92, go_sem, rc]) rfl ⟨_, rfl, own_set Hown.out (by omega) (by omega) _, hS.bw.setCell (by simp; omega) _⟩
end Go.Proofs.YtnndifemkichmaaGreat
