/- Texts of mine in one file: ImC, ImM, LwM, Lk, ImE, CpyB, CrpB, OrdS, LawS, CoK, RgK, LyN, DitI. No statement is proved here. -/
import Derived.Test.YtokniebejilcbaaMAv123
import Derived.Test.YtokniebejilcbaaMAv23
import Derived.Test.YtokniebejilcbaaMBv23
import Derived.Test.YtokniebejilcbaaMBv012
import Derived.Test.YtokniebejilcbaaMBv12
import Derived.Test.YtokniebejilcbaaMAv2
import Derived.Test.YtokniebejilcbaaProg
import Derived.WalkKit
import Derived.ProofKit
import Derived.OpenShut
import Derived.WalkLawsBesides
import Derived.WalkSpells
import Derived.ShutString
import Derived.ChangeOld
import Derived.Below
import Derived.Lib.Hide
import Derived.BigQuiet
import Derived.Deep.QuietTactic
import Derived.Maps.AppendAt
import Derived.Deep.OwnRows
import Derived.Handy
import Derived.Deep.Draws
import Derived.OwnWalk
import Derived.Deep.AppendLies
import Derived.Deep.LoopGhost
import Derived.Deep.Onto
import Derived.Test.YtokniebejilcbaaShelf
import Derived.Laws.CopyOwn
import Derived.Deep.RegionLaw
import Derived.Deep.RegionHeld3
import Derived.Deep.DeepCutAuto
import Derived.Great.BuildSlice
import Derived.Laws.BitsAllLaws
import Derived.Lib.QuoteBits
import Derived.Deep.MidRow
import Derived.Deep.WholeRow
import Derived.Laws.AppendOwn
import Derived.ChangeKeysEq
import Derived.Carry
import Derived.Maps.Own
namespace Go.Proofs.Ytokniebejilcbaa
open Go.RowKit
theorem wrap_in (x : Int) (h0 : -9223372036854775808 ≤ x) (h1 : x ≤ 9223372036854775807) : IntKind.i64.wrap x = x := by
 simp [IntKind.wrap, IntKind.bits, IntKind.signed]; omega
end Go.Proofs.Ytokniebejilcbaa
namespace Go.Proofs.Ytokniebejilcbaa
open Go.RowKit
theorem plc_div {W x : Nat} (y : Nat) (hx : x < W) : (y * W + x) / W = y := by
 rw [Nat.mul_comm, Nat.mul_add_div (by omega), Nat.div_eq_of_lt hx, Nat.add_zero]
theorem plc_mod {W x : Nat} (y : Nat) (hx : x < W) : (y * W + x) % W = x := by
 rw [Nat.mul_comm, Nat.mul_add_mod, Nat.mod_eq_of_lt hx]
theorem mul_256 {W H : Nat} (h1 : W ≤ 16) (h2 : H ≤ 16) : W * H ≤ 256 := Nat.mul_le_mul h1 h2
end Go.Proofs.Ytokniebejilcbaa
namespace Go.Proofs.Ytokniebejilcbaa
open Go.RowKit
noncomputable def stR (W H l : Int) (L : List Int) : Nat → List Int
 | 0 => List.replicate (wct W H l).toNat 0
 | k + 1 => (stR W H l L k).set (wpl W H l ((k : Int) % W) ((k : Int) / W)).toNat (L.getD k 0)
theorem stR_len (W H l : Int) (L : List Int) (k : Nat) : (stR W H l L k).length = (wct W H l).toNat := by
 induction k with
 | zero => exact List.length_replicate
 | succ k ih => unfold stR; rw [List.length_set]; exact ih
def rlen : List Int → Nat
 | [] => 0
 | x :: r => (r.takeWhile (· == x)).length + 1
theorem rlen_pos {L : List Int} (h : L ≠ []) : 1 ≤ rlen L := by
 cases L with
 | nil => exact absurd rfl h
 | cons x r => exact Nat.le_add_left 1 _
theorem rlen_le (L : List Int) : rlen L ≤ L.length := by
 cases L with
 | nil => exact Nat.le_refl _
 | cons x r => exact Nat.succ_le_succ (List.takeWhile_sublist _).length_le
def runF : Nat → List Int → List Int
 | 0, _ => []
 | n + 1, L => if L = [] then [] else (rlen L : Int) :: L.headD 0 :: runF n (L.drop (rlen L))
theorem runF_more (n : Nat) (L : List Int) (m : Nat) (h : L.length ≤ n) (h2 : L.length ≤ m) : runF n L = runF m L := by
  induction n generalizing L m with
  | zero =>
    have : L = [] := List.length_eq_zero_iff.1 (by omega)
    subst this
    cases m with
    | zero => rfl
    | succ m => simp [runF]
  | succ n ih =>
    by_cases hL : L = []
    · subst hL
      cases m with
      | zero => rfl
      | succ m => simp [runF]
    · have h3 := rlen_pos hL
      have h4 : 0 < L.length := List.length_pos_iff.2 hL
      cases m with
      | zero => omega
      | succ m =>
        unfold runF
        rw [if_neg hL, if_neg hL, ih (L.drop (rlen L)) m (by rw [List.length_drop]; omega) (by rw [List.length_drop]; omega)]
def runL (L : List Int) : List Int := runF L.length L
theorem runL_step {L : List Int} (h : L ≠ []) : runL L = (rlen L : Int) :: L.headD 0 :: runL (L.drop (rlen L)) := by
 have h4 : 0 < L.length := List.length_pos_iff.2 h
 have h3 := rlen_pos h
 unfold runL
 obtain ⟨n, hn⟩ : ∃ n, L.length = n + 1 := ⟨L.length - 1, by omega⟩
 rw [hn]
 show runF (n + 1) L = _
 rw [runF, if_neg h, runF_more n (L.drop (rlen L)) (L.drop (rlen L)).length (by rw [List.length_drop]; omega) (Nat.le_refl _)]
theorem runL_len (L : List Int) : (runL L).length ≤ 2 * L.length := by
  unfold runL
  have : ∀ n (M : List Int), M.length ≤ n → (runF n M).length ≤ 2 * M.length := by
    intro n
    induction n with
    | zero => intro M _; simp [runF]
    | succ n ih =>
      intro M hM
      unfold runF
      by_cases h : M = []
      · simp [h]
      · rw [if_neg h]
        have h3 := rlen_pos h
        have h4 : 0 < M.length := List.length_pos_iff.2 h
        have h5 := rlen_le M
        have h6 := ih (M.drop (rlen M)) (by rw [List.length_drop]; omega)
        rw [List.length_drop] at h6
        simp only [List.length_cons]
        omega
  exact this _ L (Nat.le_refl _)
def runR (W : Nat) (L : List Int) : Nat → List Int
 | 0 => []
 | y + 1 => runR W L y ++ runL ((L.drop (y * W)).take W)
theorem runR_len (W : Nat) (L : List Int) (y : Nat) : (runR W L y).length ≤ 2 * (y * W) := by
  induction y with
  | zero => simp [runR]
  | succ y ih =>
    unfold runR
    rw [List.length_append, Nat.add_mul, Nat.one_mul]
    have h1 := runL_len ((L.drop (y * W)).take W)
    have h2 : ((L.drop (y * W)).take W).length ≤ W := List.length_take_le _ _
    omega
open Classical in
noncomputable def stM (W H : Int) (L : List Int) (l : Int) : List Int :=
 if imOk W H L ∧ (l = 0 ∨ l = 1) then stR W H l L L.length else if imOk W H L ∧ l = 2 then runR W.toNat L H.toNat else []
noncomputable def stB (W H : Int) (L : List Int) (l : Int) : Bool := @decide (imOk W H L ∧ 0 ≤ l ∧ l ≤ 2) (Classical.propDecidable _)
theorem stM_01 {W H l : Int} {L : List Int} (h : imOk W H L) (hl : l = 0 ∨ l = 1) : stM W H L l = stR W H l L L.length := if_pos ⟨h, hl⟩
theorem stM_2 {W H : Int} {L : List Int} (h : imOk W H L) : stM W H L 2 = runR W.toNat L H.toNat := by
 unfold stM; rw [if_neg (fun k => by have := k.2; omega), if_pos ⟨h, rfl⟩]
theorem stM_no {W H l : Int} {L : List Int} (h : ¬ (imOk W H L ∧ 0 ≤ l ∧ l ≤ 2)) : stM W H L l = [] := by
 unfold stM; rw [if_neg (fun k => h ⟨k.1, by have := k.2; omega⟩), if_neg (fun k => h ⟨k.1, by have := k.2; omega⟩)]
theorem stB_yes {W H l : Int} {L : List Int} (h : imOk W H L) (h0 : 0 ≤ l) (h2 : l ≤ 2) : stB W H L l = true := by unfold stB; simp [h, h0, h2]
theorem stB_no {W H l : Int} {L : List Int} (h : ¬ (imOk W H L ∧ 0 ≤ l ∧ l ≤ 2)) : stB W H L l = false := by unfold stB; simp only [decide_eq_false_iff_not]; exact h
theorem stM_len (W H : Int) (L : List Int) (l : Int) : (stM W H L l).length ≤ 512 := by
 by_cases h : imOk W H L ∧ 0 ≤ l ∧ l ≤ 2
 ·obtain ⟨hi, h0, h2⟩ := h
  by_cases hl : l = 2
  ·subst hl
   rw [stM_2 hi]
   obtain ⟨X, Y, rfl, rfl, _, h1, _, h3, h4⟩ := im_nat hi
   have h5 := runR_len X L Y
   have h6 : Y * X ≤ 256 := mul_256 h3 h1
   rw [show (Int.toNat (X : Int)) = X from rfl, show (Int.toNat (Y : Int)) = Y from rfl]
   omega
  ·rw [stM_01 hi (by omega), stR_len]
   have := wct_bd hi.1 (show l = 0 ∨ l = 1 by omega)
   omega
 ·rw [stM_no h]; exact Nat.zero_le _
end Go.Proofs.Ytokniebejilcbaa
namespace Go.Proofs.Ytokniebejilcbaa
open Go.RowKit
def imCells (I : Im) (d : Value) : List Value := [.int .i64 I.w, .int .i64 I.h, d]
def repIm : Rep Im where
 R := fun w I vs bs => ∃ d, vs = imCells I d ∧ repInts.R w I.d [d] bs
 ex := by rintro w f vs bs ⟨d, rfl, h⟩; exact repInts.ex h
 keep := by rintro w w' f vs bs ⟨d, rfl, h⟩ hk; exact ⟨d, rfl, repInts.keep h hk⟩
theorem chg_own {w w' : World} {d : Value} (h : w.grownBy w' d.ownBlock) : Chg w w' d.ownBlock.toList := Chg.of_grown h
def mkIm (k : Nat) (f : Im) : Im := { f with d := marksI k f.d.length }
theorem r_im {w : World} {f : Im} {d : Value} {bs : List Nat} (h : repIm.R w f [.int .i64 f.w, .int .i64 f.h, d] bs) : repInts.R w f.d [d] bs := by
 obtain ⟨d', e, h⟩ := h
 have e2 : d = d' := by simpa [imCells] using e
 subst e2
 exact h
theorem form_im {w : World} {f : Im} {d : Value} {bs : List Nat} (h : repIm.R w f [.int .i64 f.w, .int .i64 f.h, d] bs) : ∃ A c, d = .slice A f.d.length c := (ints_form (r_im h)).1
theorem eq_im (f : Im) (d u : Value) (bs cs : List Nat) (w : World) (h1 : repIm.R w f [.int .i64 f.w, .int .i64 f.h, d] bs) (h2 : repIm.R w f [.int .i64 f.w, .int .i64 f.h, u] cs) : Calls Try.prog 21 #[.agg #[.int .i64 f.w, .int .i64 f.h, d], .agg #[.int .i64 f.w, .int .i64 f.h, u]] w fun e w' => e = .returned (.bool true) ∧ Below w.heap.size w w' :=
 eqIm_same f.w f.h d u f.d w (repInts_rd (r_im h1)) (repInts_rd (r_im h2))
theorem mark_im (B : Nat) (f : Im) (d : Value) (bs : List Nat) (k0 : Nat) (w : World) (hm : k0 + f.d.length ≤ 1000000000) (ho : repIm.Own B w f [.int .i64 f.w, .int .i64 f.h, d] bs) : Calls Try.prog 22 #[.agg #[.int .i64 f.w, .int .i64 f.h, d], .int .i64 k0] w fun e w' => e = .returned (.int .i64 ((k0 + f.d.length : Nat) : Int)) ∧ repIm.R w' (mkIm k0 f) [.int .i64 f.w, .int .i64 f.h, d] bs ∧ Chg w w' bs := by
 obtain ⟨h1, rfl⟩ := rep_ints_own (B := B) (d := d) ⟨r_im ho.r, ho.nd, ho.lo⟩
 refine (markIm B f.w f.h d f.d k0 w hm h1).mono ?_
 rintro e w1 ⟨rfl, h2, hg⟩
 refine ⟨rfl, ⟨d, rfl, ?_⟩, chg_own hg⟩
 exact ⟨d, rfl, by have := own_rebase h2 (fun _ _ => Nat.zero_le _); rwa [show (mkIm k0 f).d.length = f.d.length from marksI_length _ _], rfl⟩
end Go.Proofs.Ytokniebejilcbaa
namespace Go.Proofs.Ytokniebejilcbaa
open Go.RowKit
theorem rightI_b (r : Rc) (hr : r.ok) (w : World) :
  Calls Try.prog 105 #[.agg #[.int .i64 r.x, .int .i64 r.y, .int .i64 r.w, .int .i64 r.h]] w fun e w' => e = .returned (.int .i64 (r.x + r.w)) ∧ Below w.heap.size w w' := by
 refine (rightOf_any r hr w).mono ?_
 rintro e w' ⟨rfl, rfl⟩
 exact ⟨rfl, belI_box _ _⟩
end Go.Proofs.Ytokniebejilcbaa
namespace Go.Proofs.Ytokniebejilcbaa
open Go.RowKit
theorem grown_setI (w : World) (g o : Nat) (v : Value) : w.grownBy (w.setCell ⟨g, o, none⟩ v) (some g) :=
 ⟨rfl, rfl, rfl, by simp, fun k _ hk => Below.heap_setCell w ⟨g, o, none⟩ v k (fun e => hk (by rw [e]))⟩
theorem rd_block {w : World} {u : Value} {F : List Int} (h : RdI w u F) (h0 : 0 < F.length) : ∃ g c, u = .slice (some ⟨g, 0, none⟩) F.length c ∧ g < w.heap.size ∧ F.length ≤ c := by
 rcases h with ⟨_, rfl⟩ | ⟨g, c, rfl, hm, hlc, hc⟩
 ·simp at h0
 ·exact ⟨g, c, rfl, World.block_lt_of_cell? w _ (hc 0 _ (List.getElem?_eq_getElem h0)), hlc⟩
end Go.Proofs.Ytokniebejilcbaa
namespace Go.Proofs.Ytokniebejilcbaa
open Go.RowKit
theorem intCells_append (L M : List Int) : intCells (L ++ M) = intCells L ++ intCells M := by simp [intCells]
end Go.Proofs.Ytokniebejilcbaa
namespace Go.Proofs.Ytokniebejilcbaa
open Go.RowKit
theorem own_at_put {w : World} {B gq n cap j : Nat} {e : TypeId} {L : List Int} (h : w.ownsRow B e 1 (.slice (some ⟨gq, 0, none⟩) n cap) n (intCells L)) (hj : j < n) (hl : L.length = n) : w.cell? ⟨gq, j, none⟩ = some (.int .i64 (L.getD j 0)) ∧ w.frozen? ⟨gq, j, none⟩ = false := by
 refine ⟨?_, h.frozenAt j⟩
 have h2 := h.cellAt j (by omega)
 rw [h2, intCells_get, List.getD_eq_getElem?_getD, List.getElem?_eq_getElem (by omega)]
 rfl
end Go.Proofs.Ytokniebejilcbaa
namespace Go.Proofs.Ytokniebejilcbaa
open Go.RowKit
theorem eqIS_own (v u : Value) (L : List Int) (w : World) (hv : RdI w v L) (hu : RdI w u L) :
  Calls Try.prog 20 #[v, u] w fun e w' => e = .returned (.bool true) ∧ Below w.heap.size w w' :=
 (eqIS_same v u L w hv.rd hu.rd).mono fun e w' h => ⟨h.1, by obtain ⟨k, rfl⟩ := h.2; exact below_drewN (Below.refl _ _) k⟩
end Go.Proofs.Ytokniebejilcbaa
namespace Go.Proofs.Ytokniebejilcbaa
open Go.RowKit
structure VarN {α : Type} (E : Rep α) (lo hi : Nat) (a : α) (vs : List Value) (bs : List Nat) (W : World) : Prop where
 own : E.Own lo W a vs bs
 hbs : ∀ k ∈ bs, k < hi
 hs : hi ≤ W.heap.size
section
variable {α : Type} {E : Rep α} {lo hi : Nat} {a a' : α} {vs : List Value} {bs cs : List Nat} {W W' : World}
theorem VarN.call (h : VarN E lo hi a vs bs W) (k : Below W.heap.size W W') : VarN E lo hi a vs bs W' := ⟨h.own.call k, h.hbs, Nat.le_trans h.hs k.size⟩
theorem VarN.r (h : VarN E lo hi a vs bs W) : E.R W a vs bs := h.own.r
theorem VarN.rng (h : VarN E lo hi a vs bs W) : ∀ k ∈ bs, lo ≤ k ∧ k < hi := fun k hk => ⟨h.own.lo k hk, h.hbs k hk⟩
theorem VarN.chg (h : VarN E lo hi a vs bs W) (hc : Chg W W' cs) (hn : ∀ k ∈ cs, k < lo ∨ hi ≤ k) : VarN E lo hi a vs bs W' :=
 ⟨h.own.chg hc fun k hk e => by have := hn k e; have := h.rng k hk; omega, h.hbs, Nat.le_trans h.hs hc.size⟩
theorem VarN.mark (h : VarN E lo hi a vs bs W) (hr : E.R W' a' vs bs) (hc : Chg W W' bs) : VarN E lo hi a' vs bs W' := ⟨⟨hr, h.own.nd, h.own.lo⟩, h.hbs, Nat.le_trans h.hs hc.size⟩
theorem VarN.born {w : World} (_ : Below w.heap.size w W) (ho : E.Own w.heap.size W a vs bs) : VarN E w.heap.size W.heap.size a vs bs W := ⟨ho, fun k hk => E.ex ho.r k hk, Nat.le_refl _⟩
theorem VarN.below {w : World} (h : VarN E lo hi a vs bs W) (hw : Below w.heap.size w W) (hlo : w.heap.size ≤ lo) (hc : Chg W W' bs) : Below w.heap.size w W' :=
 hc.below hw hw.size fun k hk => Nat.le_trans hlo (h.rng k hk).1
end
def mkIl (k : Nat) (L : List Int) : List Int := marksI k L.length
theorem form_il {w : World} {L : List Int} {v : Value} {bs : List Nat} (h : repInts.R w L [v] bs) : ∃ A c, v = .slice A L.length c := (ints_form h).1
theorem eq_il (f : List Int) (d u : Value) (bs cs : List Nat) (w : World) (h1 : repInts.R w f [d] bs) (h2 : repInts.R w f [u] cs) : Calls Try.prog 20 #[d, u] w fun e w' => e = .returned (.bool true) ∧ Below w.heap.size w w' := eqIS_own d u f w (repInts_rd h1) (repInts_rd h2)
theorem mark_il (B : Nat) (f : List Int) (d : Value) (bs : List Nat) (k0 : Nat) (w : World) (hm : k0 + f.length ≤ 1000000000) (ho : repInts.Own B w f [d] bs) : Calls Try.prog 23 #[d, .int .i64 k0] w fun en w' => en = .returned (.int .i64 ((k0 + f.length : Nat) : Int)) ∧ repInts.R w' (mkIl k0 f) [d] bs ∧ Chg w w' bs := by
 obtain ⟨h1, rfl⟩ := rep_ints_own ho
 refine (markIS B _ d f k0 w hm h1).mono ?_
 rintro e w1 ⟨rfl, h2, hg⟩
 refine ⟨rfl, ⟨d, rfl, ?_, rfl⟩, Chg.of_grown hg⟩
 show w1.ownsRow 0 _ 1 d (marksI k0 f.length).length _
 rw [marksI_length]; exact own_rebase h2 fun _ _ => Nat.zero_le _
theorem held_il (f : List Int) (d : Value) (bs : List Nat) (k0 : Nat) (w : World) (hm : k0 + f.length ≤ 1000000000) (hr : repInts.R w (mkIl k0 f) [d] bs) : Calls Try.prog 24 #[d, .int .i64 k0] w fun e w' => e = .returned (.int .i64 ((k0 + f.length : Nat) : Int)) ∧ Below w.heap.size w w' := by
 refine (heldIS d k0 f.length w hm (repInts_rd (L := mkIl k0 f) hr)).mono ?_
 rintro e w1 ⟨rfl, rfl⟩
 exact ⟨rfl, Below.refl _ _⟩
end Go.Proofs.Ytokniebejilcbaa
namespace Go.Proofs.Ytokniebejilcbaa
open Go.RowKit
def wkIm : Wk Im where
 R := fun w I vs => ∃ d, vs = imCells I d ∧ Rd w d I.d.length (intCells I.d)
 call := by rintro w w' f vs ⟨d, rfl, h⟩ hb; exact ⟨d, rfl, h.call hb⟩
theorem wr_im {w : World} {f : Im} {d : Value} (h : wkIm.R w f [.int .i64 f.w, .int .i64 f.h, d]) : Rd w d f.d.length (intCells f.d) := by
 obtain ⟨d', e, h⟩ := h
 have e2 : d = d' := by simpa [imCells] using e
 subst e2
 exact h
theorem wform_im {w : World} {f : Im} {d : Value} (h : wkIm.R w f [.int .i64 f.w, .int .i64 f.h, d]) : ∃ A c, d = .slice A f.d.length c := (wr_im h).form
theorem sz_im_yes (f : Im) (d : Value) (l : Int) (w : World) (hr : wkIm.R w f [.int .i64 f.w, .int .i64 f.h, d]) (h : ((f.d.length : Nat) : Int) ≤ l) (hl : l ≤ 2097152) : Calls Try.prog 16 #[.agg #[.int .i64 f.w, .int .i64 f.h, d], .int .i64 l] w fun e w' => e = .returned (.int .i64 (l - ((f.d.length : Nat) : Int))) ∧ Below w.heap.size w w' := by
 obtain ⟨A, c, rfl⟩ := wform_im hr
 exact szIm_yes _ _ _ _ _ _ h hl w
theorem sz_im_no (f : Im) (d : Value) (l : Int) (w : World) (hr : wkIm.R w f [.int .i64 f.w, .int .i64 f.h, d]) (h0 : 0 ≤ l) (h : l < ((f.d.length : Nat) : Int)) (_ : l ≤ 2097152) : Calls Try.prog 16 #[.agg #[.int .i64 f.w, .int .i64 f.h, d], .int .i64 l] w fun e w' => e = .returned (.int .i64 (-1)) ∧ Below w.heap.size w w' := by
 have hl := (wr_im hr).len.2
 obtain ⟨A, c, rfl⟩ := wform_im hr
 exact szIm_no _ _ _ _ _ hl _ h0 h w
theorem to_im (f : Im) (d : Value) (w : World) (hr : wkIm.R w f [.int .i64 f.w, .int .i64 f.h, d]) (hm : f.d.length ≤ 1048576) : Calls Try.prog 18 #[.agg #[.int .i64 f.w, .int .i64 f.h, d]] w fun e w' => ∃ u bs, e = .returned (.agg #[.int .i64 f.w, .int .i64 f.h, u]) ∧ repIm.Own w.heap.size w' f [.int .i64 f.w, .int .i64 f.h, u] bs ∧ Below w.heap.size w w' := by
 refine (toIm f.w f.h d f.d w hm (wr_im hr)).mono ?_
 rintro e w1 ⟨u, rfl, ho, hb⟩
 have h := ints_own ho
 exact ⟨u, _, rfl, ⟨⟨u, rfl, h.r⟩, h.nd, h.lo⟩, hb⟩
end Go.Proofs.Ytokniebejilcbaa
namespace Go.Proofs.Ytokniebejilcbaa
open Go.RowKit
theorem plk_nat (W H l : Int) (X k : Nat) (h : W = X) : wpl W H l ((k : Int) % W) ((k : Int) / W) = wpl W H l ((k % X : Nat) : Int) ((k / X : Nat) : Int) := by
 subst h; rw [Int.natCast_emod, Int.natCast_ediv]
end Go.Proofs.Ytokniebejilcbaa
namespace Go.Proofs.Ytokniebejilcbaa
open Go.RowKit
def AnsIs (M : List Int) (w : World) (e : Ending) (w' : World) : Prop := ∃ u, e = .returned u ∧ w'.ownsRow w.heap.size 3 1 u M.length (intCells M) ∧ Below w.heap.size w w'
theorem ownI_zero (w : World) : (w.alloc (.cells #[] 3)).ownsRow w.heap.size 3 1 (.slice (some ⟨w.heap.size, 0, none⟩) 0 0) 0 (intCells []) :=
 ⟨rfl, .inr ⟨w.heap.size, 0, #[], rfl, Nat.le_refl _, heap_alloc_new w _, Nat.le_refl _, by unfold maxLen; omega, rfl, rfl⟩⟩
end Go.Proofs.Ytokniebejilcbaa
