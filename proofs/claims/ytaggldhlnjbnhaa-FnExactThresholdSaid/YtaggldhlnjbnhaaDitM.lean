/- Plain mathematics of dithering: thresholds, levels, dots and their levels. No statement is proved here. -/
import Derived.Test.YtaggldhlnjbnhaaImR
import Derived.Test.YtaggldhlnjbnhaaPixM
import Derived.Test.YtaggldhlnjbnhaaAllR
import Derived.Test.YtaggldhlnjbnhaaImO
import Derived.Test.YtaggldhlnjbnhaaProg
import Derived.WalkKit
import Derived.ProofKit
import Derived.OpenShut
import Derived.WalkLawsBesides
import Derived.WalkSpells
import Derived.ShutString
import Derived.ChangeOld
import Derived.Below
import Derived.Lib.Hide
import Derived.Laws.BitsAllLaws
import Derived.Lib.QuoteBits
import Derived.BigQuiet
import Derived.Deep.QuietTactic
import Derived.Maps.AppendAt
import Derived.Deep.OwnRows
import Derived.Handy
import Derived.Deep.Draws
import Derived.OwnWalk
import Derived.Deep.AppendLies
import Derived.Deep.LoopGhost
import Derived.Deep.Onto
namespace Go.Proofs.Ytaggldhlnjbnhaa
open Go.RowKit
theorem and1 (x : Int) : bits .and .i64 x 1 = x % 2 := by
  show IntKind.i64.wrap ((BitVec.ofInt 64 x &&& BitVec.ofInt 64 1).toNat : Int) = _
  rw [BitVec.toNat_and, BitVec.toNat_ofInt, show (BitVec.ofInt 64 1).toNat = 1 from rfl, Nat.and_one_is_mod]
  rw [Go.Lib.wrap_i64_small _ (by omega)]
  omega
theorem and63 (x : Int) (h0 : 0 ≤ x) (h1 : x ≤ 9223372036854775807) : bits .and .i64 x 63 = x % 64 := by
  obtain ⟨n, rfl⟩ := Int.eq_ofNat_of_zero_le h0
  show IntKind.i64.wrap ((BitVec.ofInt 64 (n : Int) &&& BitVec.ofInt 64 ((63 : Nat) : Int)).toNat : Int) = _
  rw [BitVec.toNat_and, ofInt_u64 n (by omega), ofInt_u64 63 (by omega), show (63 : Nat) = 2 ^ 6 - 1 from rfl, Nat.and_two_pow_sub_one_eq_mod]
  exact Go.Lib.wrap_i64_small _ (by omega)
/-- The threshold of a place. -/
def thr (x y : Int) : Int := if x % 2 = 0 then (if y % 2 = 0 then 0 else 3) else (if y % 2 = 0 then 2 else 1)
theorem thr_bd (x y : Int) : 0 ≤ thr x y ∧ thr x y ≤ 3 := by unfold thr; split <;> split <;> omega
/-- A level of a channel at a threshold. -/
def lev (v t : Int) : Int := (252 * v + 255 * t) / 1020
theorem lev_bd {v t : Int} (h : chOk v) (h0 : 0 ≤ t) (h1 : t ≤ 3) : 0 ≤ lev v t ∧ lev v t ≤ 63 := by
  unfold chOk at h; unfold lev; omega
/-- What DitherLevel answers. -/
def levV (v x y : Int) : Int := if chOk v then lev v (thr x y) else -1
theorem levV_yes {v : Int} (h : chOk v) (x y : Int) : levV v x y = lev v (thr x y) := if_pos h
theorem levV_no {v : Int} (h : ¬ chOk v) (x y : Int) : levV v x y = -1 := if_neg h
/-- The dot of a pixel at a threshold. -/
def dotK (p t : Int) : Int := lev (p / 65536 % 256) t * 4096 + lev (p / 256 % 256) t * 64 + lev (p % 256) t
/-- What DitherPixel answers. -/
def dotV (p x y : Int) : Int := if pixOk p then dotK p (thr x y) else -1
theorem dotV_yes {p : Int} (h : pixOk p) (x y : Int) : dotV p x y = dotK p (thr x y) := if_pos h
theorem dotV_no {p : Int} (h : ¬ pixOk p) (x y : Int) : dotV p x y = -1 := if_neg h
theorem dotK_bd (p : Int) {t : Int} (h0 : 0 ≤ t) (h1 : t ≤ 3) : 0 ≤ dotK p t ∧ dotK p t ≤ 262143 := by
  have a := lev_bd (ch_1 p) h0 h1
  have b := lev_bd (ch_2 p) h0 h1
  have c := lev_bd (ch_3 p) h0 h1
  unfold dotK; omega
theorem dotV_bd {p : Int} (h : pixOk p) (x y : Int) : 0 ≤ dotV p x y ∧ dotV p x y ≤ 262143 := by
  rw [dotV_yes h]; exact dotK_bd p (thr_bd x y).1 (thr_bd x y).2
def dotOk (d : Int) : Prop := 0 ≤ d ∧ d ≤ 262143
/-- A level of a dot. -/
def levelK (d k : Int) : Int := if k = 0 then d / 4096 else if k = 1 then d / 64 % 64 else d % 64
/-- What LevelOf answers. -/
noncomputable def levelV (d k : Int) : Int := @ite _ (dotOk d ∧ 0 ≤ k ∧ k ≤ 2) (Classical.propDecidable _) (levelK d k) (-1)
theorem levelV_yes {d k : Int} (h : dotOk d) (h0 : 0 ≤ k) (h1 : k ≤ 2) : levelV d k = levelK d k := by unfold levelV; exact if_pos ⟨h, h0, h1⟩
theorem levelV_no {d k : Int} (h : ¬ (dotOk d ∧ 0 ≤ k ∧ k ≤ 2)) : levelV d k = -1 := by unfold levelV; exact if_neg h
theorem levelV_dot1 {p : Int} (h : pixOk p) (x y : Int) : levelV (dotV p x y) 1 = levV (p / 256 % 256) x y := by
  obtain ⟨t0, t1⟩ := thr_bd x y
  rw [levelV_yes (dotV_bd h x y) (by omega) (by omega), dotV_yes h, levV_yes (ch_2 p)]
  have a := lev_bd (ch_1 p) t0 t1
  have b := lev_bd (ch_2 p) t0 t1
  have c := lev_bd (ch_3 p) t0 t1
  show dotK p (thr x y) / 64 % 64 = _
  unfold dotK
  omega
/-- The four levels of a square have together the level of the value. -/
theorem lev_sum (v : Int) : lev v 0 + lev v 2 + lev v 3 + lev v 1 = 252 * v / 255 := by
  obtain ⟨q, r, hq, h0, h1⟩ : ∃ q r : Int, 21 * v = 85 * q + r ∧ 0 ≤ r ∧ r < 85 := ⟨21 * v / 85, 21 * v % 85, by omega, by omega, by omega⟩
  have e0 : lev v 0 = q := by unfold lev; omega
  have c : r < 22 ∨ (22 ≤ r ∧ r < 43) ∨ (43 ≤ r ∧ r < 64) ∨ 64 ≤ r := by omega
  rcases c with c | ⟨c, d⟩ | ⟨c, d⟩ | c
  · have e1 : lev v 1 = q := by unfold lev; omega
    have e2 : lev v 2 = q := by unfold lev; omega
    have e3 : lev v 3 = q := by unfold lev; omega
    omega
  · have e1 : lev v 1 = q := by unfold lev; omega
    have e2 : lev v 2 = q := by unfold lev; omega
    have e3 : lev v 3 = q + 1 := by unfold lev; omega
    omega
  · have e1 : lev v 1 = q := by unfold lev; omega
    have e2 : lev v 2 = q + 1 := by unfold lev; omega
    have e3 : lev v 3 = q + 1 := by unfold lev; omega
    omega
  · have e1 : lev v 1 = q + 1 := by unfold lev; omega
    have e2 : lev v 2 = q + 1 := by unfold lev; omega
    have e3 : lev v 3 = q + 1 := by unfold lev; omega
    omega
theorem lev_near {v t : Int} (h0 : 0 ≤ t) (h1 : t ≤ 3) : 63 * v / 255 ≤ lev v t ∧ lev v t ≤ 63 * v / 255 + 1 := by
  unfold lev; omega
/-- What DitherImage answers of a valid image. -/
def ditL (W H : Int) (L : List Int) : List Int := tabI (W * H).toNat (fun k => dotV (L.getD k 0) ((k : Int) % W) ((k : Int) / W))
/-- What DitherImage answers. -/
noncomputable def ditA (W H : Int) (L : List Int) : List Int := @ite _ (imOk W H L) (Classical.propDecidable _) (ditL W H L) []
theorem ditA_yes {W H : Int} {L : List Int} (h : imOk W H L) : ditA W H L = ditL W H L := by unfold ditA; exact if_pos h
theorem ditA_no {W H : Int} {L : List Int} (h : ¬ imOk W H L) : ditA W H L = [] := by unfold ditA; exact if_neg h
theorem ditL_len (W H : Int) (L : List Int) : (ditL W H L).length = (W * H).toNat := tabI_length _ _
theorem ditA_len (W H : Int) (L : List Int) : (ditA W H L).length ≤ L.length := by
  by_cases h : imOk W H L
  · rw [ditA_yes h, ditL_len]; have := h.2.1; omega
  · rw [ditA_no h]; simp
theorem ditL_fill {W H : Int} {L : List Int} (h : imOk W H L) : fillOk W H (ditL W H L) 262143 := by
  refine ⟨h.1, ?_, allIn_tab fun k hk => ?_⟩
  · rw [ditL_len]; have := (sz_mul h.1).1; omega
  · have := h.2.1
    exact dotV_bd (by rw [List.getD_eq_getElem?_getD, List.getElem?_eq_getElem (by omega)]; exact h.2.2 k _ (List.getElem?_eq_getElem (by omega))) _ _
end Go.Proofs.Ytaggldhlnjbnhaa
