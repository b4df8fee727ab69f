/- The contracts of WithoutOf, of the model and of the program. No statement is proved here. -/
import Derived.Test.YtcffeakajfbhhaaJnS2
import Derived.Test.YtcffeakajfbhhaaCombI
namespace Go.Proofs.Ytcffeakajfbhhaa
open Go.RowKit
theorem enter2 (args : Array Value) (w : World) : (callFunc 50 args).run Try.prog w = .ok (.enter 50 args) w := by
  simp [go_sem]
theorem kept2 (p q : Bool) (w : World) : Calls Try.prog 50 #[.bool p, .bool q] w fun e w' => e = .returned (.bool ((fun p q => p && !q) p q)) ∧ w = w' := by
  cases p
  · go_enter Try.func50, Try.ntmps50
    go_wp2
    go_ret
    exact ⟨ret_bool (by cases q <;> rfl), rfl⟩
  · go_enter Try.func50, Try.ntmps50
    go_wp2
    go_ret
    exact ⟨ret_bool (by cases q <;> rfl), rfl⟩
set_option maxHeartbeats 1000000 in
set_option maxRecDepth 10000 in
theorem jnS2 (va vb : Value) (A B : List Rc) (w : World) (ha : RdR w va A) (hb : RdR w vb B) :
    Calls Try.prog 40 #[.agg #[va], .agg #[vb]] w (JoinAns (fun p q => p && !q) A B w) := by
  have hS := CbSt.born w va vb ha hb
  clear ha hb
  have ca := hS.ca
  have cb := hS.cb
  go_enter Try.func40, Try.ntmps40
  go_wp2_with fail
  refine (joinS2 va vb A B _ hS.ra hS.rb).mono ?_
  rintro e w1 ⟨v, rfl, hown, hb⟩
  have hrl := hS.rs.lt
  replace hS := hS.call hb
  obtain ⟨Av, cv, hv⟩ := own_shape hown
  subst hv
  have rc := hS.rs.cell
  have rf := hS.rs.frozen
  have Hown := Lib.hid hown
  clear hown hb ca cb
  go_wp2_with fail
  exact bodyPost_ret (v := .agg #[.slice Av (joinL (fun p q => p && !q) A B).length cv]) (by simp [results, Try.results40, go_sem, rc]) rfl ⟨_, rfl, own_set Hown.out (by omega) (by omega) _, hS.bw.setCell (by simp; omega) _⟩
set_option maxHeartbeats 1000000 in
set_option maxRecDepth 10000 in
theorem jnI2 (va vb : Value) (A B : List Rc) (w : World) (ha : RdR w va A) (hb : RdR w vb B) :
    Calls Try.prog 18 #[.agg #[va], .agg #[vb]] w (JoinAns (fun p q => p && !q) A B w) := by
  have hS := CbSt.born w va vb ha hb
  clear ha hb
  have ca := hS.ca
  have cb := hS.cb
  go_enter Try.func18, Try.ntmps18
  go_wp2_with fail
  refine (combI 50 (fun p q => p && !q) enter2 kept2 va vb A B _ hS.ra hS.rb).mono ?_
  rintro e w1 ⟨v, rfl, hown, hb⟩
  have hrl := hS.rs.lt
  replace hS := hS.call hb
  obtain ⟨Av, cv, hv⟩ := own_shape hown
  subst hv
  have rc := hS.rs.cell
  have rf := hS.rs.frozen
  have Hown := Lib.hid hown
  clear hown hb ca cb
  go_wp2_with fail
  exact bodyPost_ret (v := .agg #[.slice Av (joinL (fun p q => p && !q) A B).length cv]) (by simp [results, Try.results18, go_sem, rc]) rfl ⟨_, rfl, own_set Hown.out (by omega) (by omega) _, hS.bw.setCell (by simp; omega) _⟩
end Go.Proofs.Ytcffeakajfbhhaa
