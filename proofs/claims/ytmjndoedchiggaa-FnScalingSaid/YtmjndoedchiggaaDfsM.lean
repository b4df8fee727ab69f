/- What FnDifferences turns on: a filled image is valid, the difference of two images has as many points as they differ in, copying it makes them equal, the part that is the whole. No statement is proved here. -/
import Derived.Test.YtmjndoedchiggaaMA
import Derived.Test.YtmjndoedchiggaaImR
import Derived.Test.YtmjndoedchiggaaImO
import Derived.Test.YtmjndoedchiggaaImM
import Derived.Test.YtmjndoedchiggaaImP
import Derived.Test.YtmjndoedchiggaaFilB
import Derived.Test.YtmjndoedchiggaaDifB
import Derived.Test.YtmjndoedchiggaaCrpB
import Derived.Test.YtmjndoedchiggaaProg
import Derived.WalkKit
import Derived.ProofKit
import Derived.OpenShut
import Derived.WalkLawsBesides
import Derived.WalkSpells
import Derived.ShutString
import Derived.ChangeOld
import Derived.Below
import Derived.Lib.Hide
import Derived.BigQuiet
import Derived.Deep.QuietTactic
import Derived.Maps.AppendAt
import Derived.Deep.OwnRows
import Derived.Handy
import Derived.Deep.Draws
import Derived.OwnWalk
import Derived.Deep.AppendLies
import Derived.Deep.LoopGhost
import Derived.Deep.Onto
import Derived.Laws.BitsAllLaws
import Derived.Lib.QuoteBits
import Derived.Test.YtmjndoedchiggaaShelf
import Derived.Laws.CopyOwn
import Derived.Deep.RegionLaw
import Derived.Deep.RegionHeld3
import Derived.Deep.DeepCutAuto
import Derived.Great.BuildSlice
import Derived.Deep.MidRow
import Derived.Deep.WholeRow
import Derived.Laws.AppendOwn
namespace Go.Proofs.Ytmjndoedchiggaa
open Go.RowKit
theorem fill_ok {X Y : Int} {L : List Int} (r : Rc) (p : Int) (h : imOk X Y L) : ∃ M, fillIm X Y L r p = ⟨X, Y, M⟩ ∧ imOk X Y M := by
  by_cases hp : pixOk p
  · obtain ⟨W, H, rfl, rfl, wl, wh, hl, hh, hL⟩ := im_nat h
    refine ⟨_, fill_val W H L r p h hp hL wh hh, h.1, by rw [tabI_length]; exact h.2.1, fun k x hx => ?_⟩
    obtain ⟨j, hj, rfl⟩ := tabI_mem (List.mem_of_getElem? hx)
    unfold rectF
    split
    · exact hp
    · rw [List.getD_eq_getElem?_getD, List.getElem?_eq_getElem hj]; exact h.2.2 j _ (List.getElem?_eq_getElem hj)
  · exact ⟨L, fill_no fun h' => hp h'.2.2, h⟩
theorem rowCnt_pos (g : Nat → Bool) (y x : Nat) : 0 ≤ rowCnt g y x := by
  fun_induction rowCnt g y x with
  | case1 x hx ih => split <;> omega
  | case2 x hx => omega
theorem cntRows_pos (g : Nat → Bool) (y : Nat) : 0 ≤ cntRows g y := by
  fun_induction cntRows g y with
  | case1 y hy ih => have := rowCnt_pos g y 0; omega
  | case2 y hy => omega
theorem rowCnt_leW (g : Nat → Bool) (W y x : Nat) (h : ∀ p, p < 16 → g (y * 16 + p) = true → p < W) : rowCnt g y x ≤ ((W - x : Nat) : Int) := by
  fun_induction rowCnt g y x with
  | case1 x hx ih =>
    split
    · rename_i hg
      have := h x hx hg
      omega
    · omega
  | case2 x hx => omega
theorem rowCnt_none (g : Nat → Bool) (y x : Nat) (h : ∀ p, p < 16 → g (y * 16 + p) = false) : rowCnt g y x = 0 := by
  fun_induction rowCnt g y x with
  | case1 x hx ih => rw [if_neg (by rw [h x hx]; simp), ih]; rfl
  | case2 x hx => rfl
theorem rowCnt_zero (g : Nat → Bool) (y x : Nat) (h : rowCnt g y x = 0) : ∀ p, x ≤ p → p < 16 → g (y * 16 + p) = false := by
  fun_induction rowCnt g y x with
  | case1 x hx ih =>
    have hq := rowCnt_pos g y (x + 1)
    intro p h1 h2
    by_cases hg : g (y * 16 + x) = true
    · rw [if_pos hg] at h; omega
    · rw [if_neg hg] at h
      by_cases e : p = x
      · subst e; rcases hb : g (y * 16 + p) with _ | _
        · rfl
        · exact absurd hb hg
      · exact ih (by omega) p (by omega) h2
  | case2 x hx => intro p h1 h2; omega
theorem cntRows_leW (g : Nat → Bool) (W H y : Nat) (h : ∀ q p, q < 16 → p < 16 → g (q * 16 + p) = true → p < W ∧ q < H) : cntRows g y ≤ (((H - y) * W : Nat) : Int) := by
  fun_induction cntRows g y with
  | case1 y hy ih =>
    by_cases hH : y < H
    · have h1 := rowCnt_leW g W y 0 (fun p hp hg => (h y p hy hp hg).1)
      rw [show H - y = (H - (y + 1)) + 1 by omega, Nat.add_mul, Nat.one_mul]
      push_cast at *
      omega
    · have h1 := rowCnt_none g y 0 (fun p hp => by
        rcases hg : g (y * 16 + p) with _ | _
        · rfl
        · exact absurd (h y p hy hp hg).2 hH)
      rw [show H - (y + 1) = 0 by omega, Nat.zero_mul] at ih
      rw [show H - y = 0 by omega, Nat.zero_mul]
      omega
  | case2 y hy => omega
theorem cntRows_none (g : Nat → Bool) (y : Nat) (h : ∀ q p, q < 16 → p < 16 → g (q * 16 + p) = false) : cntRows g y = 0 := by
  fun_induction cntRows g y with
  | case1 y hy ih => rw [rowCnt_none g y 0 (fun p hp => h y p hy hp), ih]; rfl
  | case2 y hy => rfl
theorem cntRows_zero (g : Nat → Bool) (y : Nat) (h : cntRows g y = 0) : ∀ q p, y ≤ q → q < 16 → p < 16 → g (q * 16 + p) = false := by
  fun_induction cntRows g y with
  | case1 y hy ih =>
    have h1 := rowCnt_pos g y 0
    have h2 := cntRows_pos g (y + 1)
    intro q p hq1 hq2 hp
    by_cases e : q = y
    · subst e; exact rowCnt_zero g q 0 (by omega) p (by omega) hp
    · exact ih (by omega) q p (by omega) hq2 hp
  | case2 y hy => intro q p h1 h2; omega
theorem difG_in {W H : Nat} {L M : List Int} {q p : Nat} (hp : p < 16) : difG W H L M (q * 16 + p) = true ↔ q < H ∧ p < W ∧ L.getD (q * W + p) 0 ≠ M.getD (q * W + p) 0 := by
  unfold difG difS
  rw [decide_eq_true_iff, show (q * 16 + p) / 16 = q by omega, show (q * 16 + p) % 16 = p by omega]
  constructor
  · rintro ⟨h1, h2, h3⟩; exact ⟨by omega, h2, h3⟩
  · rintro ⟨h1, h2, h3⟩; exact ⟨.inl h1, h2, h3⟩
/-- The area of the difference. -/
theorem dif_area {X Y : Int} {L M : List Int} (h1 : imOk X Y L) (h2 : imOk X Y M) :
    ∃ a : Int, areaR (difL X Y L X Y M) = a ∧ 0 ≤ a ∧ a ≤ X * Y ∧ (a = 0 ↔ L = M) := by
  refine ⟨_, rfl, ?_⟩
  rw [dif_yes h1 h2]
  unfold areaR
  rw [if_pos (okL_canon _), canon_area]
  obtain ⟨W, H, rfl, rfl, wl, wh, hl, hh, hL⟩ := im_nat h1
  have hM : M.length = W * H := by have := h2.2.1; exact_mod_cast this
  simp only [Int.toNat_natCast]
  refine ⟨cntRows_pos _ _, ?_, ?_⟩
  · have := cntRows_leW (difG W H L M) W H 0 (fun q p _ hp hg => by have := (difG_in hp).1 hg; exact ⟨this.2.1, this.1⟩)
    rw [Nat.sub_zero, Nat.mul_comm] at this
    exact_mod_cast this
  · constructor
    · intro hz
      have hn := cntRows_zero _ _ hz
      apply List.ext_getElem?
      intro k
      by_cases hk : k < W * H
      · have e1 := plc_row hk
        have e2 := Nat.mod_lt k (plc_pos hk)
        have e3 := plc_eq k W
        have e4 := hn (k / W) (k % W) (Nat.zero_le _) (Nat.lt_of_lt_of_le e1 hh) (Nat.lt_of_lt_of_le e2 wh)
        have e5 : L.getD k 0 = M.getD k 0 := by
          by_cases e : L.getD k 0 = M.getD k 0
          · exact e
          · rw [(difG_in (Nat.lt_of_lt_of_le e2 wh)).2 ⟨e1, e2, by rw [e3]; exact e⟩] at e4; cases e4
        rw [List.getD_eq_getElem?_getD, List.getD_eq_getElem?_getD, List.getElem?_eq_getElem (by omega), List.getElem?_eq_getElem (by omega)] at e5
        rw [List.getElem?_eq_getElem (by omega), List.getElem?_eq_getElem (by omega)]
        exact congrArg some e5
      · rw [List.getElem?_eq_none (by omega), List.getElem?_eq_none (by omega)]
    · rintro rfl
      exact cntRows_none _ _ (fun q p hq hp => by
        rcases hg : difG W H L L (q * 16 + p) with _ | _
        · rfl
        · exact absurd rfl ((difG_in hp).1 hg).2.2)
/-- Copying the difference makes the images equal. -/
theorem copy_dif {X Y : Int} {L M : List Int} (h1 : imOk X Y L) (h2 : imOk X Y M) : copyIm X Y L X Y M (difL X Y L X Y M) = ⟨X, Y, M⟩ := by
  rw [dif_yes h1 h2, copy_yes h1 h2 (okL_canon _)]
  congr 1
  obtain ⟨W, H, rfl, rfl, wl, wh, hl, hh, hL⟩ := im_nat h1
  have hM : M.length = W * H := by have := h2.2.1; exact_mod_cast this
  simp only [Int.toNat_natCast]
  refine (tabI_ext (by omega) fun k x hx => ?_).symm
  have hk : k < W * H := by rw [← hM]; exact (List.getElem?_eq_some_iff.1 hx).1
  have e1 := plc_row hk
  have e2 := Nat.mod_lt k (plc_pos hk)
  have e3 := plc_eq k W
  have hx' : M.getD k 0 = x := by rw [List.getD_eq_getElem?_getD, hx]; rfl
  unfold copyF
  have e5 : k / W * 16 + k % W < 256 := by
    have := Nat.mul_le_mul_right 16 (show k / W ≤ 15 from Nat.le_of_lt_succ (Nat.lt_of_lt_of_le e1 hh))
    have := Nat.lt_of_lt_of_le e2 wh
    omega
  rw [gridOf_canon _ _ e5, e3]
  split
  · exact hx'
  · rename_i hn
    by_cases e : L.getD k 0 = M.getD k 0
    · rw [e, hx']
    · exact absurd ⟨e2, e1, (difG_in (Nat.lt_of_lt_of_le e2 wh)).2 ⟨e1, e2, by rw [e3]; exact e⟩⟩ hn
theorem rows_take (W : Nat) (M : List Int) (k : Nat) (h : k * W ≤ M.length) : rowsL W M 0 0 W k = M.take (k * W) := by
  induction k with
  | zero => simp [rowsL]
  | succ k ih =>
    rw [Nat.add_mul, Nat.one_mul] at h ⊢
    unfold rowsL
    rw [ih (by omega), List.take_add]
    congr 1
    refine (tabI_ext (by rw [List.length_take, List.length_drop]; omega) fun i x hx => ?_).symm
    rw [List.getElem?_take] at hx
    split at hx
    · rw [List.getElem?_drop] at hx
      rw [List.getD_eq_getElem?_getD, show (0 + k) * W + 0 + i = k * W + i by simp, hx]; rfl
    · cases hx
/-- The part that is the whole image. -/
theorem crop_whole {X Y : Int} {M : List Int} (h : imOk X Y M) : cropIm X Y M ⟨0, 0, X, Y⟩ = (⟨X, Y, M⟩, true) := by
  obtain ⟨W, H, rfl, rfl, wl, wh, hl, hh, hL⟩ := im_nat h
  have hf := rc_frame h.1
  have hc : covB ⟨0, 0, W, H⟩ ⟨0, 0, W, H⟩ = true := cov_of hf hf (.inr ⟨by omega, by omega, by omega, by omega⟩)
  have he : ¬ (⟨0, 0, W, H⟩ : Rc).emp := by unfold Rc.emp; dsimp only; omega
  have := crop_val (X := 0) (Y := 0) (n := W) (h := H) h (by simpa using hc) (by simpa using he)
  rw [rows_take W M H (by rw [hL, Nat.mul_comm]; exact Nat.le_refl _), Nat.mul_comm, ← hL, List.take_length] at this
  simpa using this
end Go.Proofs.Ytmjndoedchiggaa
