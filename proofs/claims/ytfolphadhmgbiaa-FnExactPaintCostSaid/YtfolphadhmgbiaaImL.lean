/- The laws' helpers over images: szImage, toImage, eqImage at equal images, markImage, heldImage. No statement is proved here. -/
import Derived.Test.YtfolphadhmgbiaaMA
import Derived.Test.YtfolphadhmgbiaaImR
import Derived.Test.YtfolphadhmgbiaaProg
import Derived.WalkKit
import Derived.ProofKit
import Derived.OpenShut
import Derived.WalkLawsBesides
import Derived.WalkSpells
import Derived.ShutString
import Derived.ChangeOld
import Derived.Below
import Derived.Lib.Hide
import Derived.BigQuiet
import Derived.Deep.QuietTactic
import Derived.Maps.AppendAt
import Derived.Deep.OwnRows
import Derived.Handy
import Derived.Deep.Draws
import Derived.OwnWalk
import Derived.Deep.AppendLies
import Derived.Deep.LoopGhost
import Derived.Deep.Onto
namespace Go.Proofs.Ytfolphadhmgbiaa
open Go.RowKit
theorem szIm_yes (W H : Int) (n : Nat) (A : Option Addr) (c : Nat) (l : Int) (h : (n : Int) ≤ l) (hl : l ≤ 2097152) (w : World) :
    Calls Try.prog 82 #[.agg #[.int .i64 W, .int .i64 H, .slice A n c], .int .i64 l] w fun e w' => e = .returned (.int .i64 (l - n)) ∧ Below w.heap.size w w' := by
  have h1 : ¬ (l - (n : Int) < 0) := by omega
  go_enter Try.func82, Try.ntmps82
  go_wp2_with fail
  refine (szIS_yes n A c l h hl _).mono ?_
  rintro e w1 ⟨rfl, rfl⟩
  go_wp2_with fail
  go_ret
  exact ⟨rfl, (Below.refl _ _).alloc (Nat.le_refl _) _⟩
theorem szIm_no (W H : Int) (n : Nat) (A : Option Addr) (c : Nat) (hn : n ≤ maxLen) (l : Int) (h0 : 0 ≤ l) (h : l < (n : Int)) (w : World) :
    Calls Try.prog 82 #[.agg #[.int .i64 W, .int .i64 H, .slice A n c], .int .i64 l] w fun e w' => e = .returned (.int .i64 (-1)) ∧ Below w.heap.size w w' := by
  go_enter Try.func82, Try.ntmps82
  go_wp2_with fail
  refine (szIS_no n A c hn l h0 h _).mono ?_
  rintro e w1 ⟨rfl, rfl⟩
  go_wp2_with fail
  go_ret
  exact ⟨rfl, (Below.refl _ _).alloc (Nat.le_refl _) _⟩
/-- What answers an image of content L, its memory owned. -/
def ImAns (W H : Int) (L : List Int) (w : World) (e : Ending) (w' : World) : Prop :=
  ∃ v, e = .returned (.agg #[.int .i64 W, .int .i64 H, v]) ∧ w'.ownsRow w.heap.size 3 1 v L.length (intCells L) ∧ Below w.heap.size w w'
theorem ownI_far {w : World} {B n : Nat} {e : TypeId} {v : Value} {xs : List Value} (h : w.ownsRow B e 1 v n xs) {p : Addr} (hp : ∀ g, v.ownBlock = some g → g ≠ p.block) (u : Value) : (w.setCell p u).ownsRow B e 1 v n xs :=
  h.kept (row := some p.block) ⟨rfl, rfl, rfl, by simp, fun k _ hk => Below.heap_setCell w p u k (fun e => hk (by rw [e]))⟩ (by
    by_cases hv : v.ownBlock = none
    · exact .inl hv
    · obtain ⟨k, hk⟩ := Option.ne_none_iff_exists'.1 hv
      exact .inr fun e => hp k hk (by rw [hk] at e; exact Option.some.inj e))
set_option maxHeartbeats 600000 in
set_option maxRecDepth 10000 in
theorem toIm (W H : Int) (v : Value) (L : List Int) (w : World) (hm : L.length ≤ 1048576) (h : Rd w v L.length (intCells L)) :
    Calls Try.prog 88 #[.agg #[.int .i64 W, .int .i64 H, v]] w (ImAns W H L w) := by
  obtain ⟨A0, c0, rfl⟩ := h.form
  have Hm := Lib.hid hm
  have HR := Lib.hid h
  obtain ⟨n, hn⟩ : ∃ n, n = L.length := ⟨_, rfl⟩
  rw [← hn]
  have Hn := Lib.hid hn
  clear hm h hn
  go_enter Try.func88, Try.ntmps88
  go_wp2_with fail
  refine (toIO _ L _ Hm.out (by rw [Hn.out]; exact HR.out.call (by repeat (first | exact Below.refl _ _ | refine Below.setCell ?_ (by simp; try omega) _ | refine Below.alloc ?_ (by simp; try omega) _)))).mono ?_
  rintro e w1 ⟨u, rfl, hown, hb1⟩
  have i2 : ImAt w1 (w.heap.size + 2) 35 W H (.slice none 0 0) := ImAt.call (ImAt.newAt (by simp) _ _ _ _) hb1
  have i1 : ImAt w1 (w.heap.size + 1) 35 0 0 (.slice none 0 0) := ImAt.call (ImAt.alloc (ImAt.newAt (by simp) _ _ _ _) _) hb1
  have K : Below w.heap.size w w1 := Below.trans (by repeat (first | exact Below.refl _ _ | refine Below.setCell ?_ (by simp; try omega) _ | refine Below.alloc ?_ (by simp; try omega) _)) (hb1.mono (by simp; try omega))
  obtain ⟨A, c, hu⟩ := ownI_shape hown
  subst hu
  have hlt := fun g hg => (hown.lt g hg).1
  have hown := hown.mono (show w.heap.size ≤ _ by simp; try omega)
  have Hown := Lib.hid hown
  have Hlt := Lib.hid hlt
  have HK := Lib.hid K
  clear hown hlt K hb1
  obtain ⟨a0, a1, a2⟩ := i2.cells
  obtain ⟨b0, b1, b2⟩ := i1.cells
  have f2 := i2.frozen 2
  have g0 := i1.frozen 0
  have g1 := i1.frozen 1
  have g2 := i1.frozen 2
  go_wp2_with fail
  have j2 := i2.set2 (.slice A L.length c)
  have j1 := (i1.far (p := ⟨w.heap.size + 2, 2, none⟩) (by simp) (.slice A L.length c)).set3 W H (.slice A L.length c)
  obtain ⟨x0, x1, x2⟩ := j1.cells
  exact bodyPost_ret (v := .agg #[.int .i64 W, .int .i64 H, .slice A L.length c]) (by simp [results, Try.results88, go_sem, x0, x1, x2]) rfl ⟨_, rfl, ownI_far (ownI_far (ownI_far (ownI_far Hown.out (fun g hg => by have := Hlt.out g hg; simp at this ⊢; omega) _) (fun g hg => by have := Hlt.out g hg; simp at this ⊢; omega) _) (fun g hg => by have := Hlt.out g hg; simp at this ⊢; omega) _) (fun g hg => by have := Hlt.out g hg; simp at this ⊢; omega) _, (((HK.out.setCell (by simp; try omega) _).setCell (by simp; try omega) _).setCell (by simp; try omega) _).setCell (by simp; try omega) _⟩
set_option maxHeartbeats 600000 in
theorem eqIm_same (W H : Int) (v u : Value) (L : List Int) (w : World) (hv : RdI w v L) (hu : RdI w u L) :
    Calls Try.prog 44 #[.agg #[.int .i64 W, .int .i64 H, v], .agg #[.int .i64 W, .int .i64 H, u]] w fun e w' => e = .returned (.bool true) ∧ Below w.heap.size w w' := by
  have hv2 := (hv.alloc (.cells #[.int .i64 W, .int .i64 H, v] 35)).alloc (.cells #[.int .i64 W, .int .i64 H, u] 35)
  have hu2 := (hu.alloc (.cells #[.int .i64 W, .int .i64 H, v] 35)).alloc (.cells #[.int .i64 W, .int .i64 H, u] 35)
  have Hw := Lib.hid (((Below.refl w.heap.size w).alloc (Nat.le_refl _) (.cells #[.int .i64 W, .int .i64 H, v] 35)).alloc (by simp) (.cells #[.int .i64 W, .int .i64 H, u] 35))
  have Hv := Lib.hid hv2
  have Hu := Lib.hid hu2
  obtain ⟨A, c, rfl⟩ := hv.form
  obtain ⟨A', c', rfl⟩ := hu.form
  obtain ⟨n, hn⟩ : ∃ n, n = L.length := ⟨_, rfl⟩
  rw [← hn] at Hv Hu Hw ⊢
  have Hn := Lib.hid hn
  clear hv hu hv2 hu2 hn
  go_enter Try.func44, Try.ntmps44
  go_wp2_with fail
  refine (eqIS_same _ _ L _ Hv.out.rd Hu.out.rd).mono ?_
  rintro e w1 ⟨rfl, q, rfl⟩
  go_wp2_with fail
  go_ret
  exact ⟨rfl, below_drewN Hw.out q⟩
theorem markIm (B : Nat) (W H : Int) (v : Value) (L : List Int) (k0 : Nat) (w : World) (hm : k0 + L.length ≤ 1000000000) (hown : w.ownsRow B 3 1 v L.length (intCells L)) :
    Calls Try.prog 45 #[.agg #[.int .i64 W, .int .i64 H, v], .int .i64 k0] w fun ed w' => ed = .returned (.int .i64 ((k0 + L.length : Nat) : Int)) ∧ w'.ownsRow B 3 1 v L.length (intCells (marksI k0 L.length)) ∧ w.grownBy w' v.ownBlock := by
  have hown2 := hown.alloc (.cells #[.int .i64 W, .int .i64 H, v] 35)
  have hg := World.grownBy_alloc w (.cells #[.int .i64 W, .int .i64 H, v] 35) v.ownBlock
  obtain ⟨A, c, rfl⟩ := ownI_shape hown
  clear hown
  go_enter Try.func45, Try.ntmps45
  go_wp2_with fail
  refine (markIS B _ _ L k0 _ hm hown2).mono ?_
  rintro e w1 ⟨rfl, h1, h2⟩
  have H1 := Lib.hid h1
  have H2 := Lib.hid (hg.trans h2)
  clear h1 h2 hg hown2
  go_wp2_with fail
  go_ret
  exact ⟨rfl, H1.out, H2.out⟩
theorem heldIm (W H : Int) (v : Value) (k0 n : Nat) (w : World) (hm : k0 + n ≤ 1000000000) (hrd : RdI w v (marksI k0 n)) :
    Calls Try.prog 46 #[.agg #[.int .i64 W, .int .i64 H, v], .int .i64 k0] w fun ed w' => ed = .returned (.int .i64 ((k0 + n : Nat) : Int)) ∧ Below w.heap.size w w' := by
  have h2 := hrd.alloc (.cells #[.int .i64 W, .int .i64 H, v] 35)
  obtain ⟨A, c, rfl⟩ := hrd.form
  clear hrd
  have c1 : ¬ ((k0 + n : Nat) : Int) < 0 := by omega
  go_enter Try.func46, Try.ntmps46
  go_wp2_with fail
  refine (heldIS _ k0 n _ hm h2).mono ?_
  rintro e w1 ⟨rfl, rfl⟩
  clear h2
  go_wp2_with fail
  go_ret
  exact ⟨rfl, (Below.refl _ _).alloc (Nat.le_refl _) _⟩
end Go.Proofs.Ytfolphadhmgbiaa
