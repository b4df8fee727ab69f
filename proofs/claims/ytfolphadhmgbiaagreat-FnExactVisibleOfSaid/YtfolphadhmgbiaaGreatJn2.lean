/- The contracts of WithoutOf, of the model and of the program. No statement is proved here. -/
import Derived.Test.YtfolphadhmgbiaaGreatMA
import Derived.Test.YtfolphadhmgbiaaGreatMC
import Derived.Test.YtfolphadhmgbiaaGreatCombI
import Derived.Test.YtfolphadhmgbiaaGreatJnP
import Derived.Test.YtfolphadhmgbiaaGreatJnS2
import Derived.Test.YtfolphadhmgbiaaGreatProg
import Derived.WalkKit
import Derived.ProofKit
import Derived.OpenShut
import Derived.WalkLawsBesides
import Derived.WalkSpells
import Derived.ShutString
import Derived.ChangeOld
import Derived.Below
import Derived.Lib.Hide
import Derived.BigQuiet
import Derived.Deep.QuietTactic
import Derived.Maps.AppendAt
import Derived.Deep.Draws
import Derived.Deep.MidRow
import Derived.Deep.WholeRow
import Derived.Deep.OwnRows
import Derived.Deep.RegionHeld3
import Derived.Deep.DeepCutAuto
import Derived.Deep.LoopGhost
import Derived.OwnWalk
import Derived.Deep.AppendLies
import Derived.Deep.Onto
import Derived.Laws.AppendOwn
import Derived.Deep.RegionWith
namespace Go.Proofs.YtfolphadhmgbiaaGreat
open Go.RowKit
theorem enter2 (args : Array Value) (w : World) : (callFunc 158 args).run Tryz.prog w = .ok (.enter 158 args) w := by
  simp [go_sem]
theorem kept2 (p q : Bool) (w : World) : Calls Tryz.prog 158 #[.bool p, .bool q] w fun e w' => e = .returned (.bool ((fun p q => p && !q) p q)) ∧ w = w' := by
  cases p
  · go_enter Tryz.func158, Tryz.ntmps158
    go_wp2
    go_ret
    exact ⟨ret_bool (by cases q <;> rfl), rfl⟩
  · go_enter Tryz.func158, Tryz.ntmps158
    go_wp2
    go_ret
    exact ⟨ret_bool (by cases q <;> rfl), rfl⟩
set_option maxHeartbeats 1000000 in
set_option maxRecDepth 10000 in
theorem jnS2 (va vb : Value) (A B : List Rc) (w : World) (ha : RdR w va A) (hb : RdR w vb B) :
    Calls Tryz.prog 86 #[.agg #[va], .agg #[vb]] w (JoinAns (fun p q => p && !q) A B w) := by
  have hS := CbSt.born w va vb ha hb
  clear ha hb
  have ca := hS.ca
  have cb := hS.cb
  go_enter Tryz.func86, Tryz.ntmps86
  go_wp2_with fail
  refine (joinS2 va vb A B _ hS.ra hS.rb).mono ?_
  rintro e w1 ⟨v, rfl, hown, hb⟩
  have hrl := hS.rs.lt
  replace hS := hS.call hb
  obtain ⟨Av, cv, hv⟩ := own_shape hown
  subst hv
  have rc := hS.rs.cell
  have rf := hS.rs.frozen
  have Hown := Lib.hid hown
  clear hown hb ca cb
  go_wp2_with fail
  exact bodyPost_ret (v := .agg #[.slice Av (joinL (fun p q => p && !q) A B).length cv]) (by simp [results, Tryz.results86, go_sem, rc]) rfl ⟨_, rfl, own_set Hown.out (by omega) (by omega) _, hS.bw.setCell (by simp; omega) _⟩
set_option maxHeartbeats 1000000 in
set_option maxRecDepth 10000 in
theorem jnI2 (va vb : Value) (A B : List Rc) (w : World) (ha : RdR w va A) (hb : RdR w vb B) :
    Calls Tryz.prog 105 #[.agg #[va], .agg #[vb]] w (JoinAns (fun p q => p && !q) A B w) := by
  have hS := CbSt.born w va vb ha hb
  clear ha hb
  have ca := hS.ca
  have cb := hS.cb
  go_enter Tryz.func105, Tryz.ntmps105
  go_wp2_with fail
  refine (combI 158 (fun p q => p && !q) enter2 kept2 va vb A B _ hS.ra hS.rb).mono ?_
  rintro e w1 ⟨v, rfl, hown, hb⟩
  have hrl := hS.rs.lt
  replace hS := hS.call hb
  obtain ⟨Av, cv, hv⟩ := own_shape hown
  subst hv
  have rc := hS.rs.cell
  have rf := hS.rs.frozen
  have Hown := Lib.hid hown
  clear hown hb ca cb
  go_wp2_with fail
  exact bodyPost_ret (v := .agg #[.slice Av (joinL (fun p q => p && !q) A B).length cv]) (by simp [results, Tryz.results105, go_sem, rc]) rfl ⟨_, rfl, own_set Hown.out (by omega) (by omega) _, hS.bw.setCell (by simp; omega) _⟩
end Go.Proofs.YtfolphadhmgbiaaGreat
