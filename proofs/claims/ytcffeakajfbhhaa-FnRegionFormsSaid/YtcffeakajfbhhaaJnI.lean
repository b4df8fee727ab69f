/- The contracts of impl.UnionOf, CommonOf, WithoutOf by themselves. No statement is proved here. -/
import Derived.Test.YtcffeakajfbhhaaCombI
namespace Go.Proofs.Ytcffeakajfbhhaa
open Go.RowKit
theorem enterI0 (args : Array Value) (w : World) : (callFunc 48 args).run Try.prog w = .ok (.enter 48 args) w := by
  simp [go_sem]
theorem keptI0 (p q : Bool) (w : World) : Calls Try.prog 48 #[.bool p, .bool q] w fun e w' => e = .returned (.bool ((fun p q => p || q) p q)) ∧ w = w' := by
  cases p
  · go_enter Try.func48, Try.ntmps48
    go_wp2
    go_ret
    exact ⟨ret_bool (by cases q <;> rfl), rfl⟩
  · go_enter Try.func48, Try.ntmps48
    go_wp2
    go_ret
    exact ⟨ret_bool (by cases q <;> rfl), rfl⟩
set_option maxHeartbeats 1000000 in
set_option maxRecDepth 10000 in
theorem joinI0 (va vb : Value) (A B : List Rc) (w : World) (ha : RdR w va A) (hb : RdR w vb B) :
    Calls Try.prog 16 #[.agg #[va], .agg #[vb]] w (JoinAns (fun p q => p || q) A B w) := by
  have hS := CbSt.born w va vb ha hb
  clear ha hb
  have ca := hS.ca
  have cb := hS.cb
  go_enter Try.func16, Try.ntmps16
  go_wp2_with fail
  refine (combI 48 (fun p q => p || q) enterI0 keptI0 va vb A B _ hS.ra hS.rb).mono ?_
  rintro e w1 ⟨v, rfl, hown, hb⟩
  have hrl := hS.rs.lt
  replace hS := hS.call hb
  obtain ⟨Av, cv, hv⟩ := own_shape hown
  subst hv
  have rc := hS.rs.cell
  have rf := hS.rs.frozen
  have Hown := Lib.hid hown
  clear hown hb ca cb
  go_wp2_with fail
  exact bodyPost_ret (v := .agg #[.slice Av (joinL (fun p q => p || q) A B).length cv]) (by simp [results, Try.results16, go_sem, rc]) rfl ⟨_, rfl, own_set Hown.out (by omega) (by omega) _, hS.bw.setCell (by simp; omega) _⟩
theorem enterI1 (args : Array Value) (w : World) : (callFunc 49 args).run Try.prog w = .ok (.enter 49 args) w := by
  simp [go_sem]
theorem keptI1 (p q : Bool) (w : World) : Calls Try.prog 49 #[.bool p, .bool q] w fun e w' => e = .returned (.bool ((fun p q => p && q) p q)) ∧ w = w' := by
  cases p
  · go_enter Try.func49, Try.ntmps49
    go_wp2
    go_ret
    exact ⟨ret_bool (by cases q <;> rfl), rfl⟩
  · go_enter Try.func49, Try.ntmps49
    go_wp2
    go_ret
    exact ⟨ret_bool (by cases q <;> rfl), rfl⟩
set_option maxHeartbeats 1000000 in
set_option maxRecDepth 10000 in
theorem joinI1 (va vb : Value) (A B : List Rc) (w : World) (ha : RdR w va A) (hb : RdR w vb B) :
    Calls Try.prog 17 #[.agg #[va], .agg #[vb]] w (JoinAns (fun p q => p && q) A B w) := by
  have hS := CbSt.born w va vb ha hb
  clear ha hb
  have ca := hS.ca
  have cb := hS.cb
  go_enter Try.func17, Try.ntmps17
  go_wp2_with fail
  refine (combI 49 (fun p q => p && q) enterI1 keptI1 va vb A B _ hS.ra hS.rb).mono ?_
  rintro e w1 ⟨v, rfl, hown, hb⟩
  have hrl := hS.rs.lt
  replace hS := hS.call hb
  obtain ⟨Av, cv, hv⟩ := own_shape hown
  subst hv
  have rc := hS.rs.cell
  have rf := hS.rs.frozen
  have Hown := Lib.hid hown
  clear hown hb ca cb
  go_wp2_with fail
  exact bodyPost_ret (v := .agg #[.slice Av (joinL (fun p q => p && q) A B).length cv]) (by simp [results, Try.results17, go_sem, rc]) rfl ⟨_, rfl, own_set Hown.out (by omega) (by omega) _, hS.bw.setCell (by simp; omega) _⟩
theorem enterI2 (args : Array Value) (w : World) : (callFunc 50 args).run Try.prog w = .ok (.enter 50 args) w := by
  simp [go_sem]
theorem keptI2 (p q : Bool) (w : World) : Calls Try.prog 50 #[.bool p, .bool q] w fun e w' => e = .returned (.bool ((fun p q => p && !q) p q)) ∧ w = w' := by
  cases p
  · go_enter Try.func50, Try.ntmps50
    go_wp2
    go_ret
    exact ⟨ret_bool (by cases q <;> rfl), rfl⟩
  · go_enter Try.func50, Try.ntmps50
    go_wp2
    go_ret
    exact ⟨ret_bool (by cases q <;> rfl), rfl⟩
set_option maxHeartbeats 1000000 in
set_option maxRecDepth 10000 in
theorem joinI2 (va vb : Value) (A B : List Rc) (w : World) (ha : RdR w va A) (hb : RdR w vb B) :
    Calls Try.prog 18 #[.agg #[va], .agg #[vb]] w (JoinAns (fun p q => p && !q) A B w) := by
  have hS := CbSt.born w va vb ha hb
  clear ha hb
  have ca := hS.ca
  have cb := hS.cb
  go_enter Try.func18, Try.ntmps18
  go_wp2_with fail
  refine (combI 50 (fun p q => p && !q) enterI2 keptI2 va vb A B _ hS.ra hS.rb).mono ?_
  rintro e w1 ⟨v, rfl, hown, hb⟩
  have hrl := hS.rs.lt
  replace hS := hS.call hb
  obtain ⟨Av, cv, hv⟩ := own_shape hown
  subst hv
  have rc := hS.rs.cell
  have rf := hS.rs.frozen
  have Hown := Lib.hid hown
  clear hown hb ca cb
  go_wp2_with fail
  exact bodyPost_ret (v := .agg #[.slice Av (joinL (fun p q => p && !q) A B).length cv]) (by simp [results, Try.results18, go_sem, rc]) rfl ⟨_, rfl, own_set Hown.out (by omega) (by omega) _, hS.bw.setCell (by simp; omega) _⟩
end Go.Proofs.Ytcffeakajfbhhaa
