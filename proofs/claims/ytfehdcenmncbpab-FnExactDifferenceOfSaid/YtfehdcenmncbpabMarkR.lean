/- The contracts of laws.heldRectS, markRegion, heldRegion, eqRegion. No statement is proved here. -/
import Derived.Test.YtfehdcenmncbpabBase
import Derived.Test.YtfehdcenmncbpabRd
import Derived.Test.YtfehdcenmncbpabRectC
import Derived.Test.YtfehdcenmncbpabBlk4
import Derived.Test.YtfehdcenmncbpabGrid
import Derived.Test.YtfehdcenmncbpabHasC
import Derived.Test.YtfehdcenmncbpabRectEq
import Derived.Test.YtfehdcenmncbpabRds
import Derived.Test.YtfehdcenmncbpabCanS
import Derived.Test.YtfehdcenmncbpabEqR
import Derived.Test.YtfehdcenmncbpabProg
import Derived.WalkKit
import Derived.ProofKit
import Derived.OpenShut
import Derived.WalkLawsBesides
import Derived.WalkSpells
import Derived.ShutString
import Derived.ChangeOld
import Derived.Below
import Derived.Lib.Hide
import Derived.BigQuiet
import Derived.Deep.QuietTactic
import Derived.Maps.AppendAt
import Derived.Deep.Draws
import Derived.Deep.RegionHeld3
import Derived.Deep.DeepCutAuto
import Derived.OwnWalk
import Derived.Deep.AppendLies
import Derived.Deep.LoopGhost
import Derived.Deep.MidRow
import Derived.Deep.WholeRow
import Derived.Deep.OwnRows
import Derived.Deep.Onto
namespace Go.Proofs.Ytfehdcenmncbpab
open Go.RowKit
set_option maxHeartbeats 1000000 in
set_option maxRecDepth 10000 in
theorem heldRS (v : Value) (k0 n : Nat) (w : World) (hm : k0 + n ≤ 1000000000) (hrd : RdR w v (marksL k0 n)) :
    Calls Try.prog 83 #[v, .int .i64 k0] w fun ed w' => ed = .returned (.int .i64 ((k0 + 4 * n : Nat) : Int)) ∧ w' = w := by
  obtain ⟨A, c, rfl⟩ := hrd.form
  rw [marksL_length] at hrd ⊢
  have Hrd := Lib.hid hrd
  clear hrd
  go_enter Try.func83, Try.ntmps83
  go_wp2_with fail
  go_loopw [1, 5] (fun s1 i wr => ∃ (k : Nat) (t : Int), k ≤ n ∧ i = .int .i64 k ∧ s1 = .int .i64 t ∧ Hid (t = ((k0 + 4 * k : Nat) : Int)) ∧ wr = w) (fun _ i _ => n - (intOf i).toNat)
  case atStart => exact ⟨0, k0, Nat.zero_le _, rfl, rfl, Lib.hid (by simp), rfl⟩
  case round =>
    obtain ⟨k, t, hk, rfl, rfl, Ht, rfl⟩ := hrel
    have ht0 : 0 ≤ t := by have := Ht.out; omega
    have ht1 : t ≤ 5000000000 := by have := Ht.out; omega
    by_cases hlt : k < n
    · obtain ⟨gq, r, rfl, hr, hC⟩ := Hrd.out.at_ (k := k) (by rw [marksL_length]; exact hlt)
      rw [marksL_get k0 n k hlt] at hr
      injection hr with hr
      have e0 : r.x = t := by rw [← hr, Ht.out]
      have e1 : r.y = t + 1 := by rw [← hr]; have := Ht.out; dsimp only; omega
      have e2 : r.w = t + 2 := by rw [← hr]; have := Ht.out; dsimp only; omega
      have e3 : r.h = t + 3 := by rw [← hr]; have := Ht.out; dsimp only; omega
      obtain ⟨c0, c1, c2, c3⟩ := hC.cells
      rw [e0] at c0
      rw [e1] at c1
      rw [e2] at c2
      rw [e3] at c3
      have k0' : (0 : Int) ≤ (k : Int) := by omega
      have k1' : (k : Int) < (n : Int) := by omega
      clear hr e0 e1 e2 e3 hC
      go_wp2_with fail
      go_roundw
      case rel => exact ⟨k + 1, _, by omega, by go_num, rfl, Lib.hid (by have := Ht.out; omega), by first | rfl | trivial⟩
      case measure => simp [intOf]; omega
    · obtain rfl : k = n := by omega
      go_wp2_with fail
      go_ret
      exact ⟨ret_int Ht.out, rfl⟩
/-- What markRegion leaves. -/
theorem markRg (B : Nat) (v : Value) (L : List Rc) (k0 : Nat) (w : World) (hm : k0 + L.length ≤ 1000000000) (hown : w.ownsRow B 31 4 v L.length (rcsCells L)) :
    Calls Try.prog 33 #[.agg #[v], .int .i64 k0] w fun ed w' => ed = .returned (.int .i64 ((k0 + 4 * L.length : Nat) : Int)) ∧ w'.ownsRow B 31 4 v L.length (rcsCells (marksL k0 L.length)) ∧ w.grownBy w' v.ownBlock := by
  have hown2 := hown.alloc (.cells #[v] 34)
  have hg := World.grownBy_alloc w (.cells #[v] 34) v.ownBlock
  have hc : (w.alloc (.cells #[v] 34)).cell? ⟨w.heap.size, 0, none⟩ = some v := new_cell w v _
  clear hown
  go_enter Try.func33, Try.ntmps33
  go_wp2_with fail
  refine (markRS B _ v L k0 _ hm hown2).mono ?_
  rintro e w1 ⟨rfl, h1, h2⟩
  have H1 := Lib.hid h1
  have H2 := Lib.hid (hg.trans h2)
  clear h1 h2 hg hown2
  go_wp2_with fail
  go_ret
  exact ⟨rfl, H1.out, H2.out⟩
theorem heldRg (v : Value) (k0 n : Nat) (w : World) (hm : k0 + n ≤ 1000000000) (hrd : RdR w v (marksL k0 n)) :
    Calls Try.prog 35 #[.agg #[v], .int .i64 k0] w fun ed w' => ed = .returned (.int .i64 ((k0 + 4 * n : Nat) : Int)) ∧ Below w.heap.size w w' := by
  have h2 := hrd.alloc (.cells #[v] 34)
  clear hrd
  have c1 : ¬ ((k0 + 4 * n : Nat) : Int) < 0 := by omega
  go_enter Try.func35, Try.ntmps35
  go_wp2_with fail
  refine (heldRS v k0 n _ hm h2).mono ?_
  rintro e w1 ⟨rfl, rfl⟩
  clear h2
  go_wp2_with fail
  go_ret
  exact ⟨rfl, (Below.refl _ _).alloc (Nat.le_refl _) _⟩
theorem eqRg_same (v u : Value) (L : List Rc) (w : World) (hv : RdR w v L) (hu : RdR w u L) :
    Calls Try.prog 32 #[.agg #[v], .agg #[u]] w fun e w' => e = .returned (.bool true) ∧ Below w.heap.size w w' := by
  have hv2 := (hv.alloc (.cells #[v] 34)).alloc (.cells #[u] 34)
  have hu2 := (hu.alloc (.cells #[v] 34)).alloc (.cells #[u] 34)
  have hw := ((Below.refl w.heap.size w).alloc (Nat.le_refl _) (.cells #[v] 34)).alloc (by simp) (.cells #[u] 34)
  clear hv hu
  go_enter Try.func32, Try.ntmps32
  go_wp2_with fail
  refine (eqRectS_same v u L _ hv2 hu2).mono ?_
  rintro e w1 ⟨rfl, hb⟩
  have Hw := Lib.hid (hw.trans (hb.mono hw.size))
  clear hv2 hu2 hw hb
  go_wp2_with fail
  go_ret
  exact ⟨rfl, Hw.out⟩
end Go.Proofs.Ytfehdcenmncbpab
