/- Texts of mine in one file: ImC, ImN, Lk, ImM, ImD, ImE, CpyB, CrpB, SameIm, OrdS, SclB, LawS, CoK, RfK, CkI, LwM, LyC, LyN, DitI, LdM. No statement is proved here. -/
import Derived.Test.YtokniebejilcbaaMA
import Derived.Test.YtokniebejilcbaaProg
import Derived.WalkKit
import Derived.ProofKit
import Derived.OpenShut
import Derived.WalkLawsBesides
import Derived.WalkSpells
import Derived.ShutString
import Derived.ChangeOld
import Derived.Below
import Derived.Lib.Hide
import Derived.BigQuiet
import Derived.Deep.QuietTactic
import Derived.Maps.AppendAt
import Derived.Deep.OwnRows
import Derived.Handy
import Derived.Deep.Draws
import Derived.OwnWalk
import Derived.Deep.AppendLies
import Derived.Deep.LoopGhost
import Derived.Deep.Onto
import Derived.Test.YtokniebejilcbaaShelf
import Derived.Laws.CopyOwn
import Derived.Deep.RegionLaw
import Derived.Deep.RegionHeld3
import Derived.Deep.DeepCutAuto
import Derived.Great.BuildSlice
import Derived.Laws.BitsAllLaws
import Derived.Lib.QuoteBits
import Derived.Deep.MidRow
import Derived.Deep.WholeRow
import Derived.Laws.AppendOwn
import Derived.ChangeKeysEq
import Derived.RangeFuncNested
import Derived.RangeFuncCalls
import Derived.RangeFuncFrom
import Derived.Shelf.Abstract
import Derived.Shelf.RegionOpen
import Derived.OwnWalkIn
import Derived.TacticsInMore
import Derived.LoopNIn
import Derived.LoopIn
import Derived.Carry
import Derived.Maps.Own
namespace Go.Proofs.Ytokniebejilcbaa
open Go.RowKit
theorem wrap_in (x : Int) (h0 : -9223372036854775808 ≤ x) (h1 : x ≤ 9223372036854775807) : IntKind.i64.wrap x = x := by
 simp [IntKind.wrap, IntKind.bits, IntKind.signed]; omega
end Go.Proofs.Ytokniebejilcbaa
namespace Go.Proofs.Ytokniebejilcbaa
open Go.RowKit
structure Im where
 w : Int
 h : Int
 d : List Int
end Go.Proofs.Ytokniebejilcbaa
namespace Go.Proofs.Ytokniebejilcbaa
open Go.RowKit
def imCells (I : Im) (d : Value) : List Value := [.int .i64 I.w, .int .i64 I.h, d]
def repIm : Rep Im where
 R := fun w I vs bs => ∃ d, vs = imCells I d ∧ repInts.R w I.d [d] bs
 ex := by rintro w f vs bs ⟨d, rfl, h⟩; exact repInts.ex h
 keep := by rintro w w' f vs bs ⟨d, rfl, h⟩ hk; exact ⟨d, rfl, repInts.keep h hk⟩
theorem ints_form {w : World} {L : List Int} {d : Value} {bs : List Nat} (h : repInts.R w L [d] bs) : (∃ A c, d = .slice A L.length c) ∧ RdI w d L := ⟨(repInts_rd h).form, repInts_rd h⟩
theorem ints_own {w w0 : World} {L : List Int} {d : Value} (h : w.ownsRow w0.heap.size 3 1 d L.length (intCells L)) : repInts.Own w0.heap.size w L [d] d.ownBlock.toList := repInts_own h
theorem chg_own {w w' : World} {d : Value} (h : w.grownBy w' d.ownBlock) : Chg w w' d.ownBlock.toList := Chg.of_grown h
def mkIm (k : Nat) (f : Im) : Im := { f with d := marksI k f.d.length }
theorem r_im {w : World} {f : Im} {d : Value} {bs : List Nat} (h : repIm.R w f [.int .i64 f.w, .int .i64 f.h, d] bs) : repInts.R w f.d [d] bs := by
 obtain ⟨d', e, h⟩ := h
 have e2 : d = d' := by simpa [imCells] using e
 subst e2
 exact h
theorem form_im {w : World} {f : Im} {d : Value} {bs : List Nat} (h : repIm.R w f [.int .i64 f.w, .int .i64 f.h, d] bs) : ∃ A c, d = .slice A f.d.length c := (ints_form (r_im h)).1
theorem eq_im (f : Im) (d u : Value) (bs cs : List Nat) (w : World) (h1 : repIm.R w f [.int .i64 f.w, .int .i64 f.h, d] bs) (h2 : repIm.R w f [.int .i64 f.w, .int .i64 f.h, u] cs) : Calls Try.prog 21 #[.agg #[.int .i64 f.w, .int .i64 f.h, d], .agg #[.int .i64 f.w, .int .i64 f.h, u]] w fun e w' => e = .returned (.bool true) ∧ Below w.heap.size w w' :=
 eqIm_same f.w f.h d u f.d w (repInts_rd (r_im h1)) (repInts_rd (r_im h2))
theorem mark_im (B : Nat) (f : Im) (d : Value) (bs : List Nat) (k0 : Nat) (w : World) (hm : k0 + f.d.length ≤ 1000000000) (ho : repIm.Own B w f [.int .i64 f.w, .int .i64 f.h, d] bs) : Calls Try.prog 22 #[.agg #[.int .i64 f.w, .int .i64 f.h, d], .int .i64 k0] w fun e w' => e = .returned (.int .i64 ((k0 + f.d.length : Nat) : Int)) ∧ repIm.R w' (mkIm k0 f) [.int .i64 f.w, .int .i64 f.h, d] bs ∧ Chg w w' bs := by
 obtain ⟨h1, rfl⟩ := rep_ints_own (B := B) (d := d) ⟨r_im ho.r, ho.nd, ho.lo⟩
 refine (markIm B f.w f.h d f.d k0 w hm h1).mono ?_
 rintro e w1 ⟨rfl, h2, hg⟩
 refine ⟨rfl, ⟨d, rfl, ?_⟩, chg_own hg⟩
 exact ⟨d, rfl, by have := own_rebase h2 (fun _ _ => Nat.zero_le _); rwa [show (mkIm k0 f).d.length = f.d.length from marksI_length _ _], rfl⟩
theorem held_im (f : Im) (d : Value) (bs : List Nat) (k0 : Nat) (w : World) (hm : k0 + f.d.length ≤ 1000000000) (hr : repIm.R w (mkIm k0 f) [.int .i64 f.w, .int .i64 f.h, d] bs) : Calls Try.prog 28 #[.agg #[.int .i64 f.w, .int .i64 f.h, d], .int .i64 k0] w fun e w' => e = .returned (.int .i64 ((k0 + f.d.length : Nat) : Int)) ∧ Below w.heap.size w w' :=
 heldIm f.w f.h d k0 f.d.length w hm (repInts_rd (r_im (f := mkIm k0 f) hr))
end Go.Proofs.Ytokniebejilcbaa
namespace Go.Proofs.Ytokniebejilcbaa
open Go.RowKit
theorem plc_div {W x : Nat} (y : Nat) (hx : x < W) : (y * W + x) / W = y := by
 rw [Nat.mul_comm, Nat.mul_add_div (by omega), Nat.div_eq_of_lt hx, Nat.add_zero]
theorem plc_mod {W x : Nat} (y : Nat) (hx : x < W) : (y * W + x) % W = x := by
 rw [Nat.mul_comm, Nat.mul_add_mod, Nat.mod_eq_of_lt hx]
theorem plc_eq (k W : Nat) : k / W * W + k % W = k := by rw [Nat.mul_comm]; exact Nat.div_add_mod k W
theorem plc_lt {W H x y : Nat} (hx : x < W) (hy : y < H) : y * W + x < W * H := by
 have h1 : (y + 1) * W ≤ H * W := Nat.mul_le_mul_right _ hy
 rw [Nat.add_mul, Nat.one_mul, Nat.mul_comm H W] at h1
 omega
theorem plc_row {W H k : Nat} (h : k < W * H) : k / W < H := Nat.div_lt_of_lt_mul h
theorem plc_pos {W H k : Nat} (h : k < W * H) : 0 < W := by
 rcases Nat.eq_zero_or_pos W with rfl | h0
 ·simp at h
 ·exact h0
theorem im_nat {X Y : Int} {L : List Int} (h : imOk X Y L) : ∃ W H : Nat, X = W ∧ Y = H ∧ 1 ≤ W ∧ W ≤ 16 ∧ 1 ≤ H ∧ H ≤ 16 ∧ L.length = W * H := by
 obtain ⟨⟨s1, s2, s3, s4⟩, hl, _⟩ := h
 obtain ⟨W, rfl⟩ := Int.eq_ofNat_of_zero_le (show 0 ≤ X by omega)
 obtain ⟨H, rfl⟩ := Int.eq_ofNat_of_zero_le (show 0 ≤ Y by omega)
 exact ⟨W, H, rfl, rfl, by omega, by omega, by omega, by omega, by exact_mod_cast hl⟩
theorem mul_256 {W H : Nat} (h1 : W ≤ 16) (h2 : H ≤ 16) : W * H ≤ 256 := Nat.mul_le_mul h1 h2
end Go.Proofs.Ytokniebejilcbaa
namespace Go.Proofs.Ytokniebejilcbaa
open Go.RowKit
theorem run_append_noneI {P : Program} (w : World) (base : Nat) (t ty e : TypeId) (i : TypeInfo) (size : Nat) (ht : P.underlying t = some (.slice e)) (hi : P.info? e = some i)
  (v : Value) (n : Nat) (xs : List Value) (hown : w.ownsRow base e size v n xs) :
  (Builtin.append_ #[t, t] ty #[v, .slice none 0 0]).run P w = .ok v w := by
 rcases hown.2 with ⟨rfl, rfl⟩ | ⟨g, cap, cur, rfl, _, _, hn, _, _, _⟩
 ·simp [Builtin.append_, run_underlying ht, sizeOf, typeInfo, hi, Builtin.lenOf, Builtin.firstCells]
 ·simp [Builtin.append_, run_underlying ht, sizeOf, typeInfo, hi, Builtin.lenOf, Builtin.firstCells, loadCells, storeCells, hn]
theorem wp_appendI {o : Oper} {a : Act} {w : World} {K : Act → World → Prop} {Q : Exit → Act → World → Prop} (s x : Operand)
  (ho : o.op = .call { callee := .builtin .append, args := #[s, x], argTypes := #[26, 26] })
  (base : Nat) (v : Value) (n : Nat) (xs : List Value) (hs : a.eval s = v) (hown : w.ownsRow base 3 1 v n xs)
  (u : Value) (L : List Int) (hx : a.eval x = u) (hu : RdI w u L) (h63 : n + L.length ≤ 17592186044416) (hbase : base ≤ w.heap.size)
  (h : ∀ v' w', w'.ownsRow base 3 1 v' (n + L.length) (xs ++ intCells L) → w.grownBy w' v.ownBlock → (v'.ownBlock = v.ownBlock ∨ v'.ownBlock = some w.heap.size) → K (a.put o.dst v') w') : o.wp Try.prog a w K Q := by
 obtain ⟨i0, hi, hz0, hz1, hz2⟩ := info_parts infoInt
 rcases hu with ⟨rfl, rfl⟩ | ⟨g, c, rfl, hm, hlc, hc⟩
 ·have hr := run_append_noneI w base 26 o.type 3 i0 1 Try.underlying26 hi v n xs hown
  unfold Oper.wp execOp
  simp only [ho, resolve, invoke, builtin, Sem.run_bind, Sem.run_pure, Result.andThen_ok, List.map_toArray, List.map_cons, List.map_nil, hs, hx, hr]
  exact h v w (by simpa [intCells] using hown) ⟨rfl, rfl, rfl, Nat.le_refl _, fun _ _ _ => rfl⟩ (.inl rfl)
 ·obtain ⟨v', w', hr, h2, h3, _, h5⟩ := run_append_own_at (P := Try.prog) w base 26 o.type 3 i0 (.int .i64 0) 1 8 Try.underlying26 hi hz0 hz1 hz2 rfl (by decide) v n xs hown ⟨g, 0, none⟩ L.length c (intCells L) (by rw [intCells_length, Nat.mul_one])
   (fun j w' hj => by
    rw [intCells_get] at hj
    obtain ⟨y, hy, rfl⟩ := Option.map_eq_some_iff.1 hj
    rw [addr_add]
    exact hc j y hy) (intCells_one _) (by unfold maxLen; omega) (by omega) hbase
  unfold Oper.wp execOp
  simp only [ho, resolve, invoke, builtin, Sem.run_bind, Sem.run_pure, Result.andThen_ok, List.map_toArray, List.map_cons, List.map_nil, hs, hx, hr]
  exact h v' w' h2 h3 h5
end Go.Proofs.Ytokniebejilcbaa
namespace Go.Proofs.Ytokniebejilcbaa
open Go.RowKit
theorem rightI_b (r : Rc) (hr : r.ok) (w : World) :
  Calls Try.prog 105 #[.agg #[.int .i64 r.x, .int .i64 r.y, .int .i64 r.w, .int .i64 r.h]] w fun e w' => e = .returned (.int .i64 (r.x + r.w)) ∧ Below w.heap.size w w' := by
 refine (rightOf_any r hr w).mono ?_
 rintro e w' ⟨rfl, rfl⟩
 exact ⟨rfl, belI_box _ _⟩
end Go.Proofs.Ytokniebejilcbaa
namespace Go.Proofs.Ytokniebejilcbaa
open Go.RowKit
theorem grown_setI (w : World) (g o : Nat) (v : Value) : w.grownBy (w.setCell ⟨g, o, none⟩ v) (some g) :=
 ⟨rfl, rfl, rfl, by simp, fun k _ hk => Below.heap_setCell w ⟨g, o, none⟩ v k (fun e => hk (by rw [e]))⟩
theorem rd_block {w : World} {u : Value} {F : List Int} (h : RdI w u F) (h0 : 0 < F.length) : ∃ g c, u = .slice (some ⟨g, 0, none⟩) F.length c ∧ g < w.heap.size ∧ F.length ≤ c := by
 rcases h with ⟨_, rfl⟩ | ⟨g, c, rfl, hm, hlc, hc⟩
 ·simp at h0
 ·exact ⟨g, c, rfl, World.block_lt_of_cell? w _ (hc 0 _ (List.getElem?_eq_getElem h0)), hlc⟩
end Go.Proofs.Ytokniebejilcbaa
namespace Go.Proofs.Ytokniebejilcbaa
open Go.RowKit
theorem intCells_append (L M : List Int) : intCells (L ++ M) = intCells L ++ intCells M := by simp [intCells]
end Go.Proofs.Ytokniebejilcbaa
namespace Go.Proofs.Ytokniebejilcbaa
open Go.RowKit
open Classical in
noncomputable def imEq (L M : List Int) : Bool := decide (L = M)
theorem imEq_yes (L : List Int) : imEq L L = true := by unfold imEq; exact decide_eq_true rfl
theorem imEq_no {L M : List Int} (h : L ≠ M) : imEq L M = false := by unfold imEq; exact decide_eq_false h
def ImEqAns (L M : List Int) (w : World) (e : Ending) (w' : World) : Prop := e = .returned (.bool (imEq L M)) ∧ ∃ q, w' = w.drewN q
theorem ext_of {L M : List Int} (h : L.length = M.length) (hall : ∀ j, j < L.length → L[j]? = M[j]?) : L = M := by
 apply List.ext_getElem?
 intro j
 by_cases hj : j < L.length
 ·exact hall j hj
 ·rw [List.getElem?_eq_none (by omega), List.getElem?_eq_none (by omega)]
set_option maxHeartbeats 1000000 in
theorem l05Ints_any (v u : Value) (L M : List Int) (w : World) (hv : RdI w v L) (hu : RdI w u M) : Calls Try.prog 71 #[v, u] w (ImEqAns L M w) := by
 obtain ⟨A, c, rfl⟩ := hv.form
 obtain ⟨A', c', rfl⟩ := hu.form
 have h1 := hv.len
 have h2 := hu.len
 unfold maxLen at h1 h2
 obtain ⟨n, hn⟩ : ∃ n, n = L.length := ⟨_, rfl⟩
 obtain ⟨n2, hn2⟩ : ∃ n2, n2 = M.length := ⟨_, rfl⟩
 rw [← hn] at h1 hv ⊢
 rw [← hn2] at h2 hu ⊢
 have Hn := Lib.hid hn
 have Hn2 := Lib.hid hn2
 have Hv := Lib.hid hv
 have Hu := Lib.hid hu
 clear hv hu hn hn2
 by_cases hl : n = n2
 ·subst hl
  go_enter Try.func71, Try.ntmps71
  go_wp2_with fail
  go_loopw [5] (fun i wr => ∃ k : Nat, k ≤ n ∧ i = .int .i64 k ∧ Hid (∀ j, j < k → L[j]? = M[j]?) ∧ ∃ q, wr = w.drewN q) (fun i _ => n - (intOf i).toNat)
  case atStart => exact ⟨0, Nat.zero_le _, rfl, Lib.hid (fun j hj => by omega), 0, rfl⟩
  case round =>
   obtain ⟨k, hk, rfl, Hall, q, rfl⟩ := hrel
   by_cases hlt : k < n
   ·obtain ⟨a, x, rfl, hx, hcx⟩ := Hv.out.at_ (k := k) (by rw [← Hn.out]; exact hlt)
    obtain ⟨a', y, rfl, hy, hcy⟩ := Hu.out.at_ (k := k) (by rw [← Hn2.out]; exact hlt)
    have Hx := Lib.hid hx
    have Hy := Lib.hid hy
    clear hx hy
    have k0 : (0 : Int) ≤ (k : Int) := by omega
    have k1 : (k : Int) < (n : Int) := by omega
    by_cases hxy : x = y
    ·subst hxy
     go_wp2_with fail
     go_quiet (fail)
     go_wp2_with fail
     rename_i nq
     go_roundw
     case rel =>
      refine ⟨k + 1, by omega, by go_num, Lib.hid (fun j hj => ?_), _, rfl⟩
      by_cases e : j < k
      ·exact Hall.out j e
      ·obtain rfl : j = k := by omega
       rw [Hx.out, Hy.out]
     case measure => simp [intOf]; omega
    ·have hb : (x == y) = false := by rw [beq_eq_false_iff_ne]; exact hxy
     have hno : imEq L M = false := imEq_no fun h => hxy (by have h3 := Hx.out; rw [h, Hy.out] at h3; exact (Option.some.inj h3).symm)
     have Hno := Lib.hid hno
     clear hno hxy
     go_wp2_with fail
     go_quiet (fail)
     go_wp2_with fail
     go_ret
     exact ⟨ret_bool Hno.out.symm, q + _, by first | rfl | exact World.drewN_drewN _ _ _⟩
   ·obtain rfl : k = n := by omega
    have hyes : imEq L M = true := by
     have h : L = M := ext_of (by rw [← Hn.out, ← Hn2.out]) (fun j hj => Hall.out j (by rw [Hn.out]; exact hj))
     subst h; exact imEq_yes L
    have Hyes := Lib.hid hyes
    clear hyes
    go_wp2_with fail
    go_ret
    exact ⟨ret_bool Hyes.out.symm, _, rfl⟩
 ·have hno : imEq L M = false := imEq_no fun h => hl (by rw [Hn.out, Hn2.out, h])
  have Hno := Lib.hid hno
  have hli : ((n : Int) == (n2 : Int)) = false := by rw [beq_eq_false_iff_ne]; omega
  clear hno
  go_enter Try.func71, Try.ntmps71
  go_wp2_with fail
  go_ret
  exact ⟨ret_bool Hno.out.symm, 0, rfl⟩
theorem equalI (v u : Value) (L M : List Int) (w : World) (hv : RdI w v L) (hu : RdI w u M) : Calls Try.prog 73 #[v, u] w (ImEqAns L M w) := by
 have h1 := hv.len
 have h2 := hu.len
 unfold maxLen at h1 h2
 by_cases hl : L.length = M.length
 ·rcases hv with ⟨rfl, rfl⟩ | ⟨g, c, rfl, _, _, hc⟩
  ·obtain ⟨A, c, rfl⟩ := hu.form
   have hM : M = [] := List.eq_nil_of_length_eq_zero hl.symm
   subst hM
   refine (Try.slices_Equal_int_empty none A 0 0 c w (by omega)).mono ?_
   rintro e w' ⟨rfl, rfl⟩
   exact ⟨ret_bool (by rw [imEq_yes]; rfl), 0, rfl⟩
  ·rcases hu with ⟨rfl, rfl⟩ | ⟨g2, c2, rfl, _, _, hc2⟩
   ·have hL : L = [] := List.eq_nil_of_length_eq_zero hl
    subst hL
    refine (Try.slices_Equal_int_empty _ _ c 0 0 w (by omega)).mono ?_
    rintro e w' ⟨rfl, rfl⟩
    exact ⟨ret_bool (by rw [imEq_yes]; rfl), 0, rfl⟩
   ·refine (Try.slices_Equal_int g 0 L.length c g2 0 M.length c2 L M w (Nat.le_refl _) (Nat.le_refl _) h1 h2 (fun j hj => ?_) (fun j hj => ?_)).mono ?_
    ·rw [Nat.zero_add, List.getD_eq_getElem?_getD, List.getElem?_eq_getElem hj]; exact hc j _ (List.getElem?_eq_getElem hj)
    ·rw [Nat.zero_add, List.getD_eq_getElem?_getD, List.getElem?_eq_getElem hj]; exact hc2 j _ (List.getElem?_eq_getElem hj)
    ·rintro e w' ⟨rfl, q, rfl⟩
     refine ⟨ret_bool ?_, q, rfl⟩
     rw [List.take_length, List.take_length]
     by_cases h : L = M
     ·subst h; rw [imEq_yes]; exact beq_self_eq_true L
     ·rw [imEq_no h]; exact beq_eq_false_iff_ne.2 h
 ·obtain ⟨A, c, rfl⟩ := hv.form
  obtain ⟨A2, c2, rfl⟩ := hu.form
  refine (Try.slices_Equal_int_lens A A2 L.length c M.length c2 w hl).mono ?_
  rintro e w' ⟨rfl, rfl⟩
  exact ⟨ret_bool (by rw [imEq_no (fun h => hl (by rw [h]))]), 0, rfl⟩
end Go.Proofs.Ytokniebejilcbaa
namespace Go.Proofs.Ytokniebejilcbaa
open Go.RowKit
theorem own_at_put {w : World} {B gq n cap j : Nat} {e : TypeId} {L : List Int} (h : w.ownsRow B e 1 (.slice (some ⟨gq, 0, none⟩) n cap) n (intCells L)) (hj : j < n) (hl : L.length = n) : w.cell? ⟨gq, j, none⟩ = some (.int .i64 (L.getD j 0)) ∧ w.frozen? ⟨gq, j, none⟩ = false := by
 refine ⟨?_, h.frozenAt j⟩
 have h2 := h.cellAt j (by omega)
 rw [h2, intCells_get, List.getD_eq_getElem?_getD, List.getElem?_eq_getElem (by omega)]
 rfl
end Go.Proofs.Ytokniebejilcbaa
namespace Go.Proofs.Ytokniebejilcbaa
open Go.RowKit
theorem tabI_succ (n : Nat) (f : Nat → Int) : tabI (n + 1) f = tabI n f ++ [f n] := by simp [tabI, List.range_succ]
theorem RdI.cell {w : World} {g n c k : Nat} {L : List Int} {x : Int} (h : RdI w (.slice (some ⟨g, 0, none⟩) n c) L) (hx : L[k]? = some x) : w.cell? ⟨g, k, none⟩ = some (.int .i64 x) := by
 have hk : k < L.length := (List.getElem?_eq_some_iff.1 hx).1
 rcases h with ⟨_, rfl⟩ | ⟨g', c', he, hm, hlc, hc⟩
 ·simp at hk
 ·injection he with e1 e2 e3
  injection e1 with e1
  injection e1 with e1
  subst e1
  exact hc k x hx
theorem RdI.one {w : World} {g : Nat} {t : TypeId} {z : Int} (h : w.heap[g]? = some (.cells #[.int .i64 z] t (0, 0))) : RdI w (.slice (some ⟨g, 0, none⟩) 1 1) [z] := by
 refine .inr ⟨g, 1, rfl, by unfold maxLen; simp, by simp, fun k x hx => ?_⟩
 cases k with
 | zero => injection hx with hx; subst hx; simp [World.cell?, h]
 | succ k => simp at hx
theorem run_build1I (z : Int) (w : World) : (Instr.buildSlice 26 1 #[(0, .int .i64 z)]).run Try.prog w = .ok (.slice (some ⟨w.heap.size, 0, none⟩) 1 1) (w.alloc (.cells #[.int .i64 z] 3)) := by
 kernel_rfl
theorem wp_build1I {op : Oper} {a : Act} {w : World} {K : Act → World → Prop} {Q : Exit → Act → World → Prop} (d : Nat) (x : Operand) (z : Int) (ho : op.op = .buildSlice 26 1 #[(0, x)]) (hx : a.eval x = .int .i64 z) (hd : op.dst = some d)
  (h : ∀ g W', Below w.heap.size w W' → RdI W' (.slice (some ⟨g, 0, none⟩) 1 1) [z] → K (a.put (some d) (.slice (some ⟨g, 0, none⟩) 1 1)) W') : op.wp Try.prog a w K Q := by
 have h1 := h w.heap.size (w.alloc (.cells #[.int .i64 z] 3)) (belI_box _ _) (RdI.one (heap_alloc_new w _))
 have hz := run_build1I z w
 unfold Oper.wp execOp
 simp only [ho, List.map_toArray, List.map_cons, List.map_nil, hx, Sem.run_bind, hz, Result.andThen_ok, Sem.run_pure]
 rw [← hd] at h1
 exact h1
theorem wp_append1I {o : Oper} {a : Act} {w : World} {K : Act → World → Prop} {Q : Exit → Act → World → Prop} (s x : Operand)
  (ho : o.op = .call { callee := .builtin .append, args := #[s, x], argTypes := #[26, 26] })
  (base : Nat) (v : Value) (n : Nat) (M : List Int) (hs : a.eval s = v) (hown : w.ownsRow base 3 1 v n (intCells M)) (g : Nat) (z : Int)
  (hx : a.eval x = .slice (some ⟨g, 0, none⟩) 1 1) (hu : RdI w (.slice (some ⟨g, 0, none⟩) 1 1) [z]) (h63 : n ≤ 1000000) (hbase : base ≤ w.heap.size)
  (h : ∀ g' c' w', w'.ownsRow base 3 1 (.slice (some ⟨g', 0, none⟩) (n + 1) c') (n + 1) (intCells (M ++ [z])) → w.grownBy w' v.ownBlock → K (a.put o.dst (.slice (some ⟨g', 0, none⟩) (n + 1) c')) w') : o.wp Try.prog a w K Q := by
 refine wp_appendI s x ho base v n (intCells M) hs hown (.slice (some ⟨g, 0, none⟩) 1 1) [z] hx hu (by simp; omega) hbase (fun v' w' h1 h2 _ => ?_)
 rw [← intCells_append, show n + [z].length = n + 1 from rfl] at h1
 obtain ⟨g', c', rfl, _, _⟩ := h1.form (by omega)
 exact h g' c' w' h1 h2
end Go.Proofs.Ytokniebejilcbaa
namespace Go.Proofs.Ytokniebejilcbaa
open Go.RowKit
theorem eqIS_own (v u : Value) (L : List Int) (w : World) (hv : RdI w v L) (hu : RdI w u L) :
  Calls Try.prog 20 #[v, u] w fun e w' => e = .returned (.bool true) ∧ Below w.heap.size w w' :=
 (eqIS_same v u L w hv.rd hu.rd).mono fun e w' h => ⟨h.1, by obtain ⟨k, rfl⟩ := h.2; exact below_drewN (Below.refl _ _) k⟩
end Go.Proofs.Ytokniebejilcbaa
namespace Go.Proofs.Ytokniebejilcbaa
open Go.RowKit
structure VarN {α : Type} (E : Rep α) (lo hi : Nat) (a : α) (vs : List Value) (bs : List Nat) (W : World) : Prop where
 own : E.Own lo W a vs bs
 hbs : ∀ k ∈ bs, k < hi
 hs : hi ≤ W.heap.size
section
variable {α : Type} {E : Rep α} {lo hi : Nat} {a a' : α} {vs : List Value} {bs cs : List Nat} {W W' : World}
theorem VarN.call (h : VarN E lo hi a vs bs W) (k : Below W.heap.size W W') : VarN E lo hi a vs bs W' := ⟨h.own.call k, h.hbs, Nat.le_trans h.hs k.size⟩
theorem VarN.r (h : VarN E lo hi a vs bs W) : E.R W a vs bs := h.own.r
theorem VarN.rng (h : VarN E lo hi a vs bs W) : ∀ k ∈ bs, lo ≤ k ∧ k < hi := fun k hk => ⟨h.own.lo k hk, h.hbs k hk⟩
theorem VarN.chg (h : VarN E lo hi a vs bs W) (hc : Chg W W' cs) (hn : ∀ k ∈ cs, k < lo ∨ hi ≤ k) : VarN E lo hi a vs bs W' :=
 ⟨h.own.chg hc fun k hk e => by have := hn k e; have := h.rng k hk; omega, h.hbs, Nat.le_trans h.hs hc.size⟩
theorem VarN.mark (h : VarN E lo hi a vs bs W) (hr : E.R W' a' vs bs) (hc : Chg W W' bs) : VarN E lo hi a' vs bs W' := ⟨⟨hr, h.own.nd, h.own.lo⟩, h.hbs, Nat.le_trans h.hs hc.size⟩
theorem VarN.born {w : World} (_ : Below w.heap.size w W) (ho : E.Own w.heap.size W a vs bs) : VarN E w.heap.size W.heap.size a vs bs W := ⟨ho, fun k hk => E.ex ho.r k hk, Nat.le_refl _⟩
theorem VarN.below {w : World} (h : VarN E lo hi a vs bs W) (hw : Below w.heap.size w W) (hlo : w.heap.size ≤ lo) (hc : Chg W W' bs) : Below w.heap.size w W' :=
 hc.below hw hw.size fun k hk => Nat.le_trans hlo (h.rng k hk).1
end
def mkIl (k : Nat) (L : List Int) : List Int := marksI k L.length
theorem form_il {w : World} {L : List Int} {v : Value} {bs : List Nat} (h : repInts.R w L [v] bs) : ∃ A c, v = .slice A L.length c := (ints_form h).1
theorem eq_il (f : List Int) (d u : Value) (bs cs : List Nat) (w : World) (h1 : repInts.R w f [d] bs) (h2 : repInts.R w f [u] cs) : Calls Try.prog 20 #[d, u] w fun e w' => e = .returned (.bool true) ∧ Below w.heap.size w w' := eqIS_own d u f w (repInts_rd h1) (repInts_rd h2)
theorem mark_il (B : Nat) (f : List Int) (d : Value) (bs : List Nat) (k0 : Nat) (w : World) (hm : k0 + f.length ≤ 1000000000) (ho : repInts.Own B w f [d] bs) : Calls Try.prog 23 #[d, .int .i64 k0] w fun en w' => en = .returned (.int .i64 ((k0 + f.length : Nat) : Int)) ∧ repInts.R w' (mkIl k0 f) [d] bs ∧ Chg w w' bs := by
 obtain ⟨h1, rfl⟩ := rep_ints_own ho
 refine (markIS B _ d f k0 w hm h1).mono ?_
 rintro e w1 ⟨rfl, h2, hg⟩
 refine ⟨rfl, ⟨d, rfl, ?_, rfl⟩, Chg.of_grown hg⟩
 show w1.ownsRow 0 _ 1 d (marksI k0 f.length).length _
 rw [marksI_length]; exact own_rebase h2 fun _ _ => Nat.zero_le _
end Go.Proofs.Ytokniebejilcbaa
namespace Go.Proofs.Ytokniebejilcbaa
open Go.RowKit
def OwnOf (b : Nat) (W : World) (g : Nat) : Prop := ∃ v, W.cell? ⟨b, 2, none⟩ = some v ∧ v.ownBlock = some g
structure Kq (b m : Nat) (W W' : World) : Prop where
 size : W.heap.size ≤ W'.heap.size
 row : ∀ g, OwnOf b W' g → OwnOf b W g ∨ W.heap.size ≤ g
 same : ∀ (k : Nat) (o : Obj), W.heap[k]? = some o → (o.isCells = true ∨ m ≤ k) → k ≠ b → ¬ OwnOf b W k → W'.heap[k]? = some o
theorem Kq.refl (b m : Nat) (W : World) : Kq b m W W := ⟨Nat.le_refl _, fun _ h => .inl h, fun _ _ h _ _ _ => h⟩
theorem Kq.more {b m m' : Nat} {W W' : World} (h : Kq b m W W') (hm : m ≤ m') : Kq b m' W W' := ⟨h.size, h.row, fun k o h1 h2 h3 h4 => h.same k o h1 (h2.imp id fun h => by omega) h3 h4⟩
theorem Kq.trans {b m : Nat} {W1 W2 W3 : World} (h : Kq b m W1 W2) (h2 : Kq b m W2 W3) : Kq b m W1 W3 where
 size := Nat.le_trans h.size h2.size
 row g hg := by
  rcases h2.row g hg with h3 | h3
  ·exact h.row g h3
  ·exact .inr (Nat.le_trans h.size h3)
 same k o hk ho hb hn := h2.same k o (h.same k o hk ho hb hn) ho hb fun h3 => by
  rcases h.row k h3 with h4 | h4
  ·exact hn h4
  ·exact absurd (Array.getElem?_eq_some_iff.1 hk).1 (by omega)
theorem ownOf_same {b : Nat} {W W' : World} (h : W'.heap[b]? = W.heap[b]?) (g : Nat) : OwnOf b W' g ↔ OwnOf b W g := by
 unfold OwnOf World.cell?
 simp only [h]
theorem Kq.of_grown {b m : Nat} {W W' : World} {row : Option Nat} (hb : b < W.heap.size) (hg : W.grownBy W' row) (hr : ∀ r, row = some r → r ≠ b ∧ r < m ∧ ∃ o : Obj, W.heap[r]? = some o ∧ o.isCells = false) : Kq b m W W' where
 size := hg.size
 row g h := .inl ((ownOf_same (hg.block b hb (fun e => (hr b e.symm).1 rfl)) g).1 h)
 same k o hk ho _ _ := (hg.block k (Array.getElem?_eq_some_iff.1 hk).1 fun e => by
  obtain ⟨_, h0, o2, h2, h3⟩ := hr k e.symm
  rw [hk] at h2
  cases h2
  rcases ho with ho | ho
  ·rw [ho] at h3; cases h3
  ·omega).trans hk
theorem Kq.of_below {b m : Nat} {W W' : World} (hb : b < W.heap.size) (h : Below W.heap.size W W') : Kq b m W W' := Kq.of_grown hb (row := none) ⟨h.os, h.tape, h.output, h.size, fun q hq _ => h.block q hq⟩ fun r e => by cases e
theorem Kq.keep {b m : Nat} {W W' : World} (h : Kq b m W W') {k : Nat} {o : Obj} (hk : W.heap[k]? = some o) (ho : o.isCells = true ∨ m ≤ k) (hb : k ≠ b) (hn : ¬ OwnOf b W k) : W'.heap[k]? = some o ∧ ¬ OwnOf b W' k :=
 ⟨h.same k o hk ho hb hn, fun h2 => by
  rcases h.row k h2 with h3 | h3
  ·exact hn h3
  ·exact absurd (Array.getElem?_eq_some_iff.1 hk).1 (by omega)⟩
theorem grown_of_below {W W' : World} (h : Below W.heap.size W W') : W.grownBy W' none := ⟨h.os, h.tape, h.output, h.size, fun q hq _ => h.block q hq⟩
def SeqMine {α : Type} (F : Fence) (n : Nat) (P : Program) (f : Nat) (lb : Array Value) (encs : α → Array Value) (b : Nat) (L S Sp : List α → Prop) (w : World) : Prop :=
 ∀ (l : Nat) (J Jx : List α → World → Prop) (W : World), Below w.heap.size w W → OwnFrom W.heap.size J → OwnFrom W.heap.size Jx → (∀ pre V, J pre V → L pre) →
  (∀ pre x V, J pre V → YieldAt F (n - 1) P l (encs x) V fun e V' => (e = .returned (.bool true) ∧ J (pre ++ [x]) V' ∧ Kq b W.heap.size V V') ∨ (e = .returned (.bool false) ∧ Jx (pre ++ [x]) V' ∧ Kq b W.heap.size V V')) →
  J [] W → CallsIn F n P f (#[.func (.yield l) #[] #[]] ++ lb) W fun e V => (∃ v, e = .returned v) ∧ ((∃ xs, S xs ∧ J xs V) ∨ (∃ pre, Sp pre ∧ Jx pre V))
def RoundOf {α : Type} (b m : Nat) (c : Code) (I Ix : List α → World → Prop) (xs : List α) (W : World) : Exit → Act → World → Prop
 | .normal, _, V => Kq b m W V ∧ I xs V
 | .exit k, _, V => c = .exit k ∧ Kq b m W V ∧ Ix xs V
 | .ret, _, V => c = .ret ∧ Kq b m W V ∧ Ix xs V
 | _, _, _ => False
theorem range_mine {α : Type} {F : Fence} {n : Nat} {P : Program} {g : Operand} {ps : Array Tmp} {assign body : Code} {Q : Exit → Act → World → Prop} {a : Act} {w : World} (hro : F.round = none) (h1 : 1 ≤ n) {f : Nat} {lb : Array Value}
    (hg : a.eval g = .func (.func f) #[] lb) (hf : F.fn f) (hE : ∀ args W, (callFunc f args).run P W = .ok (.enter f args) W) {encs : α → Array Value} {b m : Nat} {c : Code} {L S Sp : List α → Prop} (hb : b < w.heap.size) (hm : m ≤ w.heap.size) (hown : ∀ q, OwnOf b w q → q < w.heap.size)
    (hseq : SeqMine F (n - 1) P f lb encs b L S Sp w) (hps : ∀ x, (encs x).size = ps.size) (I Ix : List α → World → Prop) (hI : OwnFrom w.heap.size I) (hIx : OwnFrom w.heap.size Ix) (hL : ∀ pre W, I pre W → L pre) (h0 : I [] w) (a₁ : α → Act)
    (hassign : ∀ (l : Nat) (x : α) (W : World) (K : Act → World → Prop), K (a₁ x) W → assign.wpIn (F.inRound l) (n - 1 - 1) P (Exit.then K (fun _ _ _ => False)) { tmps := (ps.zip (encs x)).foldl (fun t (p, v) => t.setIfInBounds p v) a.tmps, defers := [] } W)
    (hbody : ∀ (l : Nat) (pre : List α) (x : α) (W : World), I pre W → body.wpIn (F.inRound l) (n - 1 - 1) P (RoundOf b m c I Ix (pre ++ [x]) W) (a₁ x) W)
    (hdone : ∀ (D : Nat) (xs : List α) (W : World), w.heap.size ≤ D → S xs → I xs W → W.heap[D]? = some (.deferred (some [])) → Q .normal { a with defers := { target := .collected D, args := #[] } :: a.defers } W)
    (hstop : ∀ (D : Nat) (pre : List α) (W : World), w.heap.size ≤ D → Sp pre → Ix pre W → W.heap[D]? = some (.deferred (some [])) → c.wpIn F n P Q { a with defers := { target := .collected D, args := #[] } :: a.defers } W) :
    (Code.rangeFunc g ps assign body).wpIn F n P Q a w := by
  refine wpIn_rangeFunc fun fn hfn => ?_
  rw [hro]
  obtain ⟨R, hR⟩ : ∃ R : LoopState → Option Code → Loop, R = fun st pe => { state := st, pending := pe, fn, tmps := a.tmps, params := ps, assign, body, defers := w.heap.size } := ⟨_, rfl⟩
  obtain ⟨V0, hV0⟩ : ∃ V, V = (w.alloc (.deferred (some []))).alloc (.loop (R .ready none)) := ⟨_, rfl⟩
  have s0 : V0.heap.size = w.heap.size + 2 := by rw [hV0]; simp
  have r0 : V0.heap[w.heap.size + 1]? = some (.loop (R .ready none)) := by
    rw [hV0]
    have h := World.alloc_heap_new (w.alloc (.deferred (some []))) (.loop (R .ready none))
    rwa [World.size_alloc] at h
  have d0 : V0.heap[w.heap.size]? = some (.deferred (some [])) := by
    rw [hV0]
    exact (Below.heap_alloc _ _ _ (by simp)).trans (World.alloc_heap_new w _)
  have o0 : ¬ OwnOf b V0 (w.heap.size + 1) ∧ ¬ OwnOf b V0 w.heap.size := by
    have e : V0.heap[b]? = w.heap[b]? := by rw [hV0, Below.heap_alloc _ _ _ (by simp; omega), Below.heap_alloc _ _ _ hb]
    exact ⟨fun h => by have := hown _ ((ownOf_same e _).1 h); omega, fun h => by have := hown _ ((ownOf_same e _).1 h); omega⟩
  obtain ⟨B, hB⟩ : ∃ B : LoopState → Option Code → World → Prop, B = fun st pe W => W.heap[w.heap.size + 1]? = some (.loop (R st pe)) ∧ W.heap[w.heap.size]? = some (.deferred (some [])) ∧ ¬ OwnOf b W (w.heap.size + 1) ∧ ¬ OwnOf b W w.heap.size := ⟨_, rfl⟩
  have ab : ∀ (T : List α → World → Prop) (st : LoopState) (pe : Option Code), OwnFrom w.heap.size T → OwnFrom V0.heap.size fun xs W => T xs W ∧ B st pe W := by
    intro T st pe hT s W W' row ⟨t1, t2⟩ hgr hrow
    rw [hB] at t2 ⊢
    obtain ⟨t2, t3, t4, t5⟩ := t2
    have far : ∀ k, k < V0.heap.size → k < W.heap.size → W'.heap[k]? = W.heap[k]? := fun k hk hk2 => hgr.block k hk2 fun e => by have := (hrow k e.symm).1; omega
    have l2 := (Array.getElem?_eq_some_iff.1 t2).1
    have eb := ownOf_same (far b (by omega) (by omega))
    exact ⟨hT s W W' row t1 hgr fun r e => ⟨by have := (hrow r e).1; omega, (hrow r e).2⟩, (far _ (by omega) l2).trans t2, (far _ (by omega) (by omega)).trans t3, fun h => t4 ((eb _).1 h), fun h => t5 ((eb _).1 h)⟩
  refine ⟨w.heap.size + 1, [{ target := .collected w.heap.size, args := #[] }], V0, { target := .fn (.func f) lb, args := #[.func (.yield (w.heap.size + 1)) #[] #[]] }, V0, f, #[.func (.yield (w.heap.size + 1)) #[] #[]] ++ lb, V0, ?_, ?_, ?_, ?_, fun _ => h1, ?_⟩
  · rw [hV0, hR]; exact run_enterLoop_outer _ _ _ _ _
  · simp only [resolve, hg]; simp [go_sem]
  · intro f' h; simp [Target.leads] at h; subst h; exact hf
  · simp [invoke, go_sem, hE]
  have hbel : Below w.heap.size w V0 := by rw [hV0]; exact belI_call (belI_box _ _) (belI_box _ _)
  refine (hseq (w.heap.size + 1) _ _ V0 hbel (ab I .ready none hI) (ab Ix .done (some c) hIx) (fun pre V h => hL pre V h.1) ?_ ⟨by rw [hV0]; exact hI.alloc _ (hI.alloc _ h0), by rw [hB]; exact ⟨r0, d0, o0⟩⟩).mono ?_
  · rintro pre x W ⟨i1, iB⟩
    rw [hB] at iB
    obtain ⟨i2, i3, i4, i5⟩ := iB
    have hl := (Array.getElem?_eq_some_iff.1 i2).1
    have hy := run_yield (P := P) (args := encs x) i2 (by rw [hR]; exact hps x)
    rw [hR] at hy
    refine ⟨fn, _, assign, body, hy, roundIn_of_wpIn hfn (hassign _ x W _ ⟨_, run_beginRound i2 (by rw [hR]), ?_⟩)⟩
    clear hy
    obtain ⟨Wb, hWb⟩ : ∃ V, V = W.putObj (w.heap.size + 1) (.loop { R .ready none with state := .busy }) := ⟨_, rfl⟩
    rw [← hWb]
    have b2 : Wb.heap[w.heap.size + 1]? = some (.loop { R .ready none with state := .busy }) := by rw [hWb]; exact World.putObj_heap_same hl
    have b3 : Wb.heap[w.heap.size]? = some (.deferred (some [])) := by rw [hWb]; exact (World.putObj_heap_other (by omega)).trans i3
    have turn : ∀ (V : World) (o o' : Obj), V.heap[w.heap.size + 1]? = some o → o.isCells = false → Kq b V0.heap.size V (V.putObj (w.heap.size + 1) o') := fun V o o' ho hc =>
      Kq.of_grown (by have := (Array.getElem?_eq_some_iff.1 ho).1; omega) (grownBy_putObj' V _ o') fun r e => by cases e; exact ⟨by omega, by omega, o, ho, hc⟩
    have own2 : ∀ (V : World) (o' : Obj) (g : Nat), OwnOf b (V.putObj (w.heap.size + 1) o') g ↔ OwnOf b V g := fun V o' g => ownOf_same (World.putObj_heap_other (by omega)) g
    have kb : Kq b V0.heap.size W Wb := by rw [hWb]; exact turn W _ _ i2 rfl
    have b4 : ¬ OwnOf b Wb (w.heap.size + 1) ∧ ¬ OwnOf b Wb w.heap.size := by rw [hWb]; exact ⟨fun h => i4 ((own2 _ _ _).1 h), fun h => i5 ((own2 _ _ _).1 h)⟩
    refine wpIn_mono (hbody _ pre x Wb (by rw [hWb]; exact hI.putObj _ i1 (by omega) i2 rfl)) ?_
    clear hWb
    have fin : ∀ (V : World) (jump : Option Code), Kq b m Wb V → V.heap[w.heap.size + 1]? = some (.loop { R .ready none with state := .busy }) ∧
        B (if jump.isNone then .ready else .done) jump (V.putObj (w.heap.size + 1) (.loop { R .ready none with state := if jump.isNone then .ready else .done, pending := jump })) := by
      intro V jump hk
      obtain ⟨v2, v4⟩ := hk.keep b2 (.inr (by omega)) (by omega) b4.1
      obtain ⟨v3, v5⟩ := hk.keep b3 (.inr hm) (by omega) b4.2
      refine ⟨v2, ?_⟩
      rw [hB]
      refine ⟨?_, (World.putObj_heap_other (by omega)).trans v3, fun h => v4 ((own2 _ _ _).1 h), fun h => v5 ((own2 _ _ _).1 h)⟩
      rw [World.putObj_heap_same (Array.getElem?_eq_some_iff.1 v2).1, hR]
    intro e a3 V hp
    have leave : ∀ j, c = j → Kq b m Wb V → Ix (pre ++ [x]) V → ∃ v w', (Instr.endRound (w.heap.size + 1) (some j)).run P V = .ok v w' ∧ ((Ending.returned v = .returned (.bool true) ∧ (I (pre ++ [x]) w' ∧ B .ready none w') ∧ Kq b V0.heap.size W w') ∨ (Ending.returned v = .returned (.bool false) ∧ (Ix (pre ++ [x]) w' ∧ B .done (some c) w') ∧ Kq b V0.heap.size W w')) := by
      rintro j rfl k1 k3
      obtain ⟨v2, hB2⟩ := fin V (some c) k1
      exact ⟨_, _, run_endRound (P := P) (some c) v2, .inr ⟨rfl, ⟨hIx.putObj _ k3 (by omega) v2 rfl, hB2⟩, (kb.trans (k1.more (by omega))).trans (turn V _ _ v2 rfl)⟩⟩
    cases e with
    | normal =>
      obtain ⟨k2, k3⟩ := hp
      obtain ⟨v2, hB2⟩ := fin V none k2
      exact ⟨_, _, run_endRound (P := P) none v2, .inl ⟨rfl, ⟨hI.putObj _ k3 (by omega) v2 rfl, hB2⟩, (kb.trans (k2.more (by omega))).trans (turn V _ _ v2 rfl)⟩⟩
    | exit k => exact leave _ hp.1 hp.2.1 hp.2.2
    | ret => exact leave _ hp.1 hp.2.1 hp.2.2
    | goto t => exact hp.elim
    | panic c => exact hp.elim
    | outgrown => exact hp.elim
  · rintro e V ⟨⟨v, rfl⟩, (⟨xs, hS, i1, iB⟩ | ⟨pre, hSp, i1, iB⟩)⟩
    · rw [hB] at iB
      obtain ⟨i2, i3, _, _⟩ := iB
      have he := run_endLoop (P := P) i2 (by rw [hR]; simp)
      rw [hR] at he
      exact ⟨none, _, he, hdone _ xs _ (Nat.le_refl _) hS (hI.putObj _ i1 (by omega) i2 rfl) ((World.putObj_heap_other (by omega)).trans i3)⟩
    · rw [hB] at iB
      obtain ⟨i2, i3, _, _⟩ := iB
      have he := run_endLoop (P := P) i2 (by rw [hR]; simp)
      rw [hR] at he
      exact ⟨some c, _, he, hstop _ pre _ (Nat.le_refl _) hSp (hIx.putObj _ i1 (by omega) i2 rfl) ((World.putObj_heap_other (by omega)).trans i3)⟩
theorem round_any {m m' : Nat} {P : Program} {l : Nat} {f : FuncId} {tmps : Array Value} {assign body : Code} {w : World} {R : Ending → World → Prop} (h : RoundIn Fence.wide m P l f tmps assign body w R) : RoundIn Fence.wide m' P l f tmps assign body w R := ⟨h.1, fun c cs _ => h.2 c cs (fun d hd => by cases hd)⟩
end Go.Proofs.Ytokniebejilcbaa
namespace Go.Proofs.Ytokniebejilcbaa
open Go.RowKit
structure Kept (b : Nat) (W : World) (k : Nat) (o : Obj) : Prop where
 at_ : W.heap[k]? = some o
 cells : o.isCells = true
 ne : k ≠ b
 no : ¬ OwnOf b W k
theorem Kept.kq {b m : Nat} {W W' : World} {k : Nat} {o : Obj} (h : Kept b W k o) (hk : Kq b m W W') : Kept b W' k o := by
 obtain ⟨h1, h2⟩ := hk.keep h.at_ (.inl h.cells) h.ne h.no
 exact ⟨h1, h.cells, h.ne, h2⟩
theorem Kept.below {b : Nat} {W W' : World} {k : Nat} {o : Obj} (h : Kept b W k o) (hb : b < W.heap.size) (hk : Below W.heap.size W W') : Kept b W' k o := h.kq (m := 0) (Kq.of_below hb hk)
theorem Kept.cell {b : Nat} {W : World} {k : Nat} {cs : Array Value} {t : TypeId} (h : Kept b W k (.cells cs t (0, 0))) (i : Nat) {v : Value} (hv : cs[i]? = some v) : W.cell? ⟨k, i, none⟩ = some v := by
 have h1 := h.at_
 simp [World.cell?, h1, hv]
def ItPost {α : Type} (S Sp : List α → Prop) (J Jx : List α → World → Prop) (e : Ending) (V : World) : Prop := (∃ v, e = .returned v) ∧ ((∃ xs, S xs ∧ J xs V) ∨ (∃ pre, Sp pre ∧ Jx pre V))
def chunkV (gi n : Nat) (k : Nat) : Array Value := #[.slice (some ⟨gi, 2 * k, none⟩) (min 2 (n - 2 * k)) (min 2 (n - 2 * k))]
set_option maxRecDepth 100000 in
set_option maxHeartbeats 2000000 in
theorem ckI_in (m gi n c Bs Bn b : Nat) (hn1 : 1 ≤ n) (hn : n ≤ 2000000) (hnc : n ≤ c) (l : Nat) (J Jx : List Nat → World → Prop) (W : World) (hb : b < W.heap.size)
  (hY : ∀ pre x V, J pre V → YieldAt Fence.wide (m - 1) Try.prog l (chunkV gi n x) V fun e V' => (e = .returned (.bool true) ∧ J (pre ++ [x]) V' ∧ Kq b W.heap.size V V') ∨ (e = .returned (.bool false) ∧ Jx (pre ++ [x]) V' ∧ Kq b W.heap.size V V'))
  (hs : Kept b W Bs (.cells #[.slice (some ⟨gi, 0, none⟩) n c] 26 (0, 0))) (hk : Kept b W Bn (.cells #[.int .i64 2] 3 (0, 0))) (hJ : OwnFrom W.heap.size J) (h0 : J [] W) :
  CallsIn Fence.wide m Try.prog 169 #[.func (.yield l) #[] #[], .pointer (some ⟨Bs, 0, none⟩), .pointer (some ⟨Bn, 0, none⟩)] W (ItPost (fun xs => xs = List.range ((n + 1) / 2)) (fun pre => ∃ j, j ≤ (n + 1) / 2 ∧ pre = List.range j) J Jx) := by
 have hmx : Try.prog.follows .mixedOrders = true := by kernel_rfl
 refine callsIn_of_wp Try.func169 rfl trivial ?_ rfl
 simp only [Try.ntmps169, List.size_toArray, List.length_cons, List.length_nil, Nat.reduceAdd, Nat.reduceSub, Array.replicate_succ, Array.replicate_zero, List.push_toArray, List.append_toArray, List.nil_append, List.cons_append]
 gi_wp2
 gi_loopw [4] (fun i wr => ∃ k q : Nat, k ≤ (n + 1) / 2 ∧ i = .int .i64 q ∧ Hid (q = 2 * k) ∧ J (List.range k) wr ∧ Kept b wr Bs (.cells #[.slice (some ⟨gi, 0, none⟩) n c] 26 (0, 0)) ∧ Kept b wr Bn (.cells #[.int .i64 2] 3 (0, 0)) ∧ b < wr.heap.size ∧ W.heap.size ≤ wr.heap.size)
  (fun i _ => n + 2 - (intOf i).toNat)
 case atStart => exact ⟨0, 0, Nat.zero_le _, rfl, Lib.hid rfl, h0, hs, hk, hb, Nat.le_refl _⟩
 case round =>
  obtain ⟨k, q, hkk, rfl, Hq, hJk, hs1, hn2, hb1, hW1⟩ := hrel
  have cs : wr.cell? ⟨Bs, 0, none⟩ = some (.slice (some ⟨gi, 0, none⟩) n c) := hs1.cell 0 rfl
  have cn : wr.cell? ⟨Bn, 0, none⟩ = some (.int .i64 2) := hn2.cell 0 rfl
  by_cases hlt : q < n
  ·have i1 : (q : Int) < (n : Int) := by omega
   have hJd : J (List.range k) wr.drew := hJ _ _ _ none hJk (grown_of_below ((Below.refl _ _).drew)) (fun r e => by cases e)
   have hs2 : Kept b wr.drew Bs (.cells #[.slice (some ⟨gi, 0, none⟩) n c] 26 (0, 0)) := ⟨hs1.at_, hs1.cells, hs1.ne, hs1.no⟩
   have hn4 : Kept b wr.drew Bn (.cells #[.int .i64 2] 3 (0, 0)) := ⟨hn2.at_, hn2.cells, hn2.ne, hn2.no⟩
   have cs2 : wr.drew.cell? ⟨Bs, 0, none⟩ = some (.slice (some ⟨gi, 0, none⟩) n c) := cs
   obtain ⟨fn, tmps, assign, body, hy, hR⟩ := hY _ k wr.drew hJd
   unfold chunkV at hy
   rw [← Hq.out] at hy
   have q0 : (0 : Int) ≤ (q : Int) := by omega
   have qc : ¬ c = q := by omega
   have qc2 : ¬ c - q = 0 := by omega
   have q1 : q ≤ n := by omega
   have q1i : (q : Int) ≤ (n : Int) := by omega
   have q2 := wrap_in ((q : Int) + 1) (by omega) (by omega)
   have q3 := wrap_in ((q : Int) + 2) (by omega) (by omega)
   have z1 : ((q : Int) + 1).toNat = q + 1 := by omega
   have z2 : ((q : Int) + 2).toNat = q + 2 := by omega
   have z3 : q + 2 - q = 2 := by omega
   have z4 : q + 1 - q = 1 := by omega
   by_cases h2 : q + 2 ≤ n
   ·have m1 : min 2 (n - q) = 2 := by omega
    rw [m1] at hy
    have m2 : min (2 : Int) ((n - q : Nat) : Int) = 2 := by omega
    have m3 : q + 2 ≤ c := by omega
    have m4 : (q : Int) + 2 ≤ (c : Int) := by omega
    have m5 : (q : Int) ≤ (q : Int) + 2 := by omega
    have m6 : (0 : Int) ≤ (q : Int) + 2 := by omega
    gi_wp2
    gi_region_o
    all_goals
     gi_wp2
     refine ⟨fun h => (by cases h), hR.mono ?_⟩
     rintro e W3 (⟨rfl, hJ3, hk3⟩ | ⟨rfl, hJx3, _⟩)
     ·have hs3 := hs2.kq hk3
      have hn3 := hn4.kq hk3
      have cn3 : W3.cell? ⟨Bn, 0, none⟩ = some (.int .i64 2) := hn3.cell 0 rfl
      have hz3 := hk3.size
      gi_wp2
      go_roundw
      case rel => exact ⟨k + 1, q + 2, by have := Hq.out; omega, by go_num, Lib.hid (by rw [Hq.out]; rfl), by rw [List.range_succ]; exact hJ3, hs3, hn3, by simp at hz3; omega, by simp at hz3; omega⟩
      case measure => simp [intOf]; omega
     ·gi_wp2
      refine bodyPost_ret (results_none rfl _ _ _) rfl ?_
      exact ⟨⟨_, rfl⟩, .inr ⟨_, ⟨k + 1, by have := Hq.out; omega, List.range_succ.symm⟩, hJx3⟩⟩
   ·have m1 : min 2 (n - q) = 1 := by omega
    rw [m1] at hy
    have m2 : min (2 : Int) ((n - q : Nat) : Int) = 1 := by omega
    have m3 : q + 1 ≤ c := by omega
    have m4 : (q : Int) + 1 ≤ (c : Int) := by omega
    have m5 : (q : Int) ≤ (q : Int) + 1 := by omega
    have m6 : (0 : Int) ≤ (q : Int) + 1 := by omega
    gi_wp2
    gi_region_o
    all_goals
     gi_wp2
     refine ⟨fun h => (by cases h), hR.mono ?_⟩
     rintro e W3 (⟨rfl, hJ3, hk3⟩ | ⟨rfl, hJx3, _⟩)
     ·have hs3 := hs2.kq hk3
      have hn3 := hn4.kq hk3
      have cn3 : W3.cell? ⟨Bn, 0, none⟩ = some (.int .i64 2) := hn3.cell 0 rfl
      have hz3 := hk3.size
      gi_wp2
      go_roundw
      case rel => exact ⟨k + 1, q + 2, by have := Hq.out; omega, by go_num, Lib.hid (by rw [Hq.out]; rfl), by rw [List.range_succ]; exact hJ3, hs3, hn3, by simp at hz3; omega, by simp at hz3; omega⟩
      case measure => simp [intOf]; omega
     ·gi_wp2
      refine bodyPost_ret (results_none rfl _ _ _) rfl ?_
      exact ⟨⟨_, rfl⟩, .inr ⟨_, ⟨k + 1, by have := Hq.out; omega, List.range_succ.symm⟩, hJx3⟩⟩
  ·have i1 : ¬ (q : Int) < (n : Int) := by omega
   gi_wp2
   go_end0
   exact ⟨⟨_, rfl⟩, .inl ⟨List.range ((n + 1) / 2), rfl, by rw [show (n + 1) / 2 = k by have := Hq.out; omega]; exact hJk⟩⟩
set_option maxRecDepth 100000 in
set_option maxHeartbeats 1000000 in
theorem ckI_0 {α : Type} (m c Bs Bn : Nat) (A : Option Addr) (l : Nat) (J Jx : List α → World → Prop) (W : World) (hs : W.cell? ⟨Bs, 0, none⟩ = some (.slice A 0 c)) (h0 : J [] W) :
  CallsIn Fence.wide m Try.prog 169 #[.func (.yield l) #[] #[], .pointer (some ⟨Bs, 0, none⟩), .pointer (some ⟨Bn, 0, none⟩)] W (ItPost (fun xs => xs = []) (fun _ => False) J Jx) := by
 refine callsIn_of_wp Try.func169 rfl trivial ?_ rfl
 simp only [Try.ntmps169, List.size_toArray, List.length_cons, List.length_nil, Nat.reduceAdd, Nat.reduceSub, Array.replicate_succ, Array.replicate_zero, List.push_toArray, List.append_toArray, List.nil_append, List.cons_append]
 gi_wp2
 gi_loopw [4] (fun i wr => i = .int .i64 0 ∧ wr = W) (fun _ _ => 0)
 case atStart => exact ⟨rfl, rfl⟩
 case round =>
  obtain ⟨rfl, rfl⟩ := hrel
  gi_wp2
  go_end0
  exact ⟨⟨_, rfl⟩, .inl ⟨[], rfl, h0⟩⟩
set_option maxHeartbeats 1000000 in
theorem chkI (A : Option Addr) (n c : Nat) (w : World) :
  Calls Try.prog 148 #[.slice A n c, .int .i64 2] w fun e w' => e = .returned (.func (.func 169) #[] #[.pointer (some ⟨w.heap.size, 0, none⟩), .pointer (some ⟨w.heap.size + 1, 0, none⟩)]) ∧ w' = (w.alloc (.cells #[.slice A n c] 26)).alloc (.cells #[.int .i64 2] 3) := by
 go_enter Try.func148, Try.ntmps148
 go_wp2_with fail
 go_ret
 exact ⟨rfl, rfl⟩
end Go.Proofs.Ytokniebejilcbaa
namespace Go.Proofs.Ytokniebejilcbaa
open Go.RowKit
open Classical in
noncomputable def wct (W H l : Int) : Int := if szOk W H ∧ l = 0 then W * H else if szOk W H ∧ l = 1 then (W + 3) / 4 * 4 * ((H + 3) / 4 * 4) else -1
theorem wct_0 {W H : Int} (h : szOk W H) : wct W H 0 = W * H := if_pos ⟨h, rfl⟩
theorem wct_1 {W H : Int} (h : szOk W H) : wct W H 1 = (W + 3) / 4 * 4 * ((H + 3) / 4 * 4) := by
 unfold wct; rw [if_neg (fun k => by have := k.2; omega), if_pos ⟨h, rfl⟩]
theorem wct_no {W H l : Int} (h : ¬ (szOk W H ∧ (l = 0 ∨ l = 1))) : wct W H l = -1 := by
 unfold wct; rw [if_neg (fun k => h ⟨k.1, Or.inl k.2⟩), if_neg (fun k => h ⟨k.1, Or.inr k.2⟩)]
open Classical in
noncomputable def wpl (W H l x y : Int) : Int :=
 if szOk W H ∧ (l = 0 ∨ l = 1) ∧ 0 ≤ x ∧ x < W ∧ 0 ≤ y ∧ y < H then (if l = 0 then y * W + x else (y / 4 * ((W + 3) / 4) + x / 4) * 16 + y % 4 * 4 + x % 4) else -1
theorem wpl_0 {W H x y : Int} (h : szOk W H) (hx : 0 ≤ x ∧ x < W) (hy : 0 ≤ y ∧ y < H) : wpl W H 0 x y = y * W + x := by
 unfold wpl; rw [if_pos ⟨h, Or.inl rfl, hx.1, hx.2, hy.1, hy.2⟩, if_pos rfl]
theorem wpl_1 {W H x y : Int} (h : szOk W H) (hx : 0 ≤ x ∧ x < W) (hy : 0 ≤ y ∧ y < H) : wpl W H 1 x y = (y / 4 * ((W + 3) / 4) + x / 4) * 16 + y % 4 * 4 + x % 4 := by
 unfold wpl; rw [if_pos ⟨h, Or.inr rfl, hx.1, hx.2, hy.1, hy.2⟩, if_neg (by omega)]
theorem wpl_no {W H l x y : Int} (h : ¬ (szOk W H ∧ (l = 0 ∨ l = 1) ∧ 0 ≤ x ∧ x < W ∧ 0 ≤ y ∧ y < H)) : wpl W H l x y = -1 := if_neg h
theorem wct_bd {W H l : Int} (h : szOk W H) (hl : l = 0 ∨ l = 1) : 1 ≤ wct W H l ∧ wct W H l ≤ 256 := by
 rcases hl with rfl | rfl
 ·rw [wct_0 h]; exact ⟨sz_pos h, (sz_mul h).2⟩
 ·rw [wct_1 h]
  obtain ⟨h1, h2, h3, h4⟩ := h
  obtain ⟨a, ha⟩ : ∃ a, a = (W + 3) / 4 * 4 := ⟨_, rfl⟩
  obtain ⟨b, hb⟩ : ∃ b, b = (H + 3) / 4 * 4 := ⟨_, rfl⟩
  rw [← ha, ← hb]
  exact ⟨sz_pos (W := a) (H := b) ⟨by omega, by omega, by omega, by omega⟩, (sz_mul (W := a) (H := b) ⟨by omega, by omega, by omega, by omega⟩).2⟩
theorem wpl_bd {W H l x y : Int} (h : szOk W H) (hl : l = 0 ∨ l = 1) (hx : 0 ≤ x ∧ x < W) (hy : 0 ≤ y ∧ y < H) : 0 ≤ wpl W H l x y ∧ wpl W H l x y < wct W H l := by
 obtain ⟨h1, h2, h3, h4⟩ := h
 obtain ⟨hx1, hx2⟩ := hx
 obtain ⟨hy1, hy2⟩ := hy
 rcases hl with rfl | rfl
 ·rw [wct_0 ⟨h1, h2, h3, h4⟩, wpl_0 ⟨h1, h2, h3, h4⟩ ⟨hx1, hx2⟩ ⟨hy1, hy2⟩]
  have h5 : 0 ≤ y * W := Int.mul_nonneg hy1 (by omega)
  have h6 : (y + 1) * W ≤ H * W := Int.mul_le_mul_of_nonneg_right (by omega) (by omega)
  rw [Int.add_mul, Int.one_mul, Int.mul_comm H W] at h6
  omega
 ·rw [wct_1 ⟨h1, h2, h3, h4⟩, wpl_1 ⟨h1, h2, h3, h4⟩ ⟨hx1, hx2⟩ ⟨hy1, hy2⟩]
  obtain ⟨a, ha⟩ : ∃ a, a = (W + 3) / 4 := ⟨_, rfl⟩
  obtain ⟨b, hb⟩ : ∃ b, b = (H + 3) / 4 := ⟨_, rfl⟩
  obtain ⟨p, hp⟩ : ∃ p, p = y / 4 := ⟨_, rfl⟩
  rw [← ha, ← hb, ← hp]
  have h5 : 0 ≤ p * a := Int.mul_nonneg (by omega) (by omega)
  have h6 : (p + 1) * a ≤ b * a := Int.mul_le_mul_of_nonneg_right (by omega) (by omega)
  rw [Int.add_mul, Int.one_mul] at h6
  have h7 : a * 4 * (b * 4) = b * a * 16 := by rw [Int.mul_assoc a 4, Int.mul_comm b a, ← Int.mul_assoc 4 b 4, Int.mul_comm 4 b, ← Int.mul_assoc a, ← Int.mul_assoc a]; omega
  rw [h7]
  omega
theorem wpl_inj {W H l x y x2 y2 : Int} (h : szOk W H) (hl : l = 0 ∨ l = 1) (hx : 0 ≤ x ∧ x < W) (hy : 0 ≤ y ∧ y < H) (hx2 : 0 ≤ x2 ∧ x2 < W) (hy2 : 0 ≤ y2 ∧ y2 < H)
  (he : wpl W H l x y = wpl W H l x2 y2) : x = x2 ∧ y = y2 := by
 have key : ∀ a p q r s : Int, 0 ≤ q → q < a → 0 ≤ s → s < a → p * a + q = r * a + s → p = r ∧ q = s := by
  intro a p q r s q1 q2 s1 s2 e
  have e1 : p = r := by
   have : (p * a + q) / a = (r * a + s) / a := by rw [e]
   rwa [Int.add_comm, Int.add_mul_ediv_right _ _ (by omega), Int.ediv_eq_zero_of_lt q1 q2, Int.add_comm (r * a), Int.add_mul_ediv_right _ _ (by omega), Int.ediv_eq_zero_of_lt s1 s2, Int.zero_add, Int.zero_add] at this
  subst e1
  exact ⟨rfl, by omega⟩
 rcases hl with rfl | rfl
 ·rw [wpl_0 h hx hy, wpl_0 h hx2 hy2] at he
  obtain ⟨e1, e2⟩ := key W y x y2 x2 hx.1 hx.2 hx2.1 hx2.2 he
  exact ⟨e2, e1⟩
 ·rw [wpl_1 h hx hy, wpl_1 h hx2 hy2] at he
  obtain ⟨a, ha⟩ : ∃ a, a = (W + 3) / 4 := ⟨_, rfl⟩
  rw [← ha] at he
  have e3 := key a (y / 4) (x / 4) (y2 / 4) (x2 / 4) (by omega) (by omega) (by omega) (by omega) (by omega)
  omega
noncomputable def stR (W H l : Int) (L : List Int) : Nat → List Int
 | 0 => List.replicate (wct W H l).toNat 0
 | k + 1 => (stR W H l L k).set (wpl W H l ((k : Int) % W) ((k : Int) / W)).toNat (L.getD k 0)
theorem stR_len (W H l : Int) (L : List Int) (k : Nat) : (stR W H l L k).length = (wct W H l).toNat := by
 induction k with
 | zero => exact List.length_replicate
 | succ k ih => unfold stR; rw [List.length_set]; exact ih
def rlen : List Int → Nat
 | [] => 0
 | x :: r => (r.takeWhile (· == x)).length + 1
theorem rlen_pos {L : List Int} (h : L ≠ []) : 1 ≤ rlen L := by
 cases L with
 | nil => exact absurd rfl h
 | cons x r => exact Nat.le_add_left 1 _
theorem rlen_le (L : List Int) : rlen L ≤ L.length := by
 cases L with
 | nil => exact Nat.le_refl _
 | cons x r => exact Nat.succ_le_succ (List.takeWhile_sublist _).length_le
def runF : Nat → List Int → List Int
 | 0, _ => []
 | n + 1, L => if L = [] then [] else (rlen L : Int) :: L.headD 0 :: runF n (L.drop (rlen L))
theorem runF_more (n : Nat) (L : List Int) (m : Nat) (h : L.length ≤ n) (h2 : L.length ≤ m) : runF n L = runF m L := by
  induction n generalizing L m with
  | zero =>
    have : L = [] := List.length_eq_zero_iff.1 (by omega)
    subst this
    cases m with
    | zero => rfl
    | succ m => simp [runF]
  | succ n ih =>
    by_cases hL : L = []
    · subst hL
      cases m with
      | zero => rfl
      | succ m => simp [runF]
    · have h3 := rlen_pos hL
      have h4 : 0 < L.length := List.length_pos_iff.2 hL
      cases m with
      | zero => omega
      | succ m =>
        unfold runF
        rw [if_neg hL, if_neg hL, ih (L.drop (rlen L)) m (by rw [List.length_drop]; omega) (by rw [List.length_drop]; omega)]
def runL (L : List Int) : List Int := runF L.length L
theorem runL_step {L : List Int} (h : L ≠ []) : runL L = (rlen L : Int) :: L.headD 0 :: runL (L.drop (rlen L)) := by
 have h4 : 0 < L.length := List.length_pos_iff.2 h
 have h3 := rlen_pos h
 unfold runL
 obtain ⟨n, hn⟩ : ∃ n, L.length = n + 1 := ⟨L.length - 1, by omega⟩
 rw [hn]
 show runF (n + 1) L = _
 rw [runF, if_neg h, runF_more n (L.drop (rlen L)) (L.drop (rlen L)).length (by rw [List.length_drop]; omega) (Nat.le_refl _)]
theorem runL_len (L : List Int) : (runL L).length ≤ 2 * L.length := by
  unfold runL
  have : ∀ n (M : List Int), M.length ≤ n → (runF n M).length ≤ 2 * M.length := by
    intro n
    induction n with
    | zero => intro M _; simp [runF]
    | succ n ih =>
      intro M hM
      unfold runF
      by_cases h : M = []
      · simp [h]
      · rw [if_neg h]
        have h3 := rlen_pos h
        have h4 : 0 < M.length := List.length_pos_iff.2 h
        have h5 := rlen_le M
        have h6 := ih (M.drop (rlen M)) (by rw [List.length_drop]; omega)
        rw [List.length_drop] at h6
        simp only [List.length_cons]
        omega
  exact this _ L (Nat.le_refl _)
def runR (W : Nat) (L : List Int) : Nat → List Int
 | 0 => []
 | y + 1 => runR W L y ++ runL ((L.drop (y * W)).take W)
theorem runR_len (W : Nat) (L : List Int) (y : Nat) : (runR W L y).length ≤ 2 * (y * W) := by
  induction y with
  | zero => simp [runR]
  | succ y ih =>
    unfold runR
    rw [List.length_append, Nat.add_mul, Nat.one_mul]
    have h1 := runL_len ((L.drop (y * W)).take W)
    have h2 : ((L.drop (y * W)).take W).length ≤ W := List.length_take_le _ _
    omega
open Classical in
noncomputable def stM (W H : Int) (L : List Int) (l : Int) : List Int :=
 if imOk W H L ∧ (l = 0 ∨ l = 1) then stR W H l L L.length else if imOk W H L ∧ l = 2 then runR W.toNat L H.toNat else []
noncomputable def stB (W H : Int) (L : List Int) (l : Int) : Bool := @decide (imOk W H L ∧ 0 ≤ l ∧ l ≤ 2) (Classical.propDecidable _)
theorem stM_01 {W H l : Int} {L : List Int} (h : imOk W H L) (hl : l = 0 ∨ l = 1) : stM W H L l = stR W H l L L.length := if_pos ⟨h, hl⟩
theorem stM_2 {W H : Int} {L : List Int} (h : imOk W H L) : stM W H L 2 = runR W.toNat L H.toNat := by
 unfold stM; rw [if_neg (fun k => by have := k.2; omega), if_pos ⟨h, rfl⟩]
theorem stM_no {W H l : Int} {L : List Int} (h : ¬ (imOk W H L ∧ 0 ≤ l ∧ l ≤ 2)) : stM W H L l = [] := by
 unfold stM; rw [if_neg (fun k => h ⟨k.1, by have := k.2; omega⟩), if_neg (fun k => h ⟨k.1, by have := k.2; omega⟩)]
theorem stB_yes {W H l : Int} {L : List Int} (h : imOk W H L) (h0 : 0 ≤ l) (h2 : l ≤ 2) : stB W H L l = true := by unfold stB; simp [h, h0, h2]
theorem stB_no {W H l : Int} {L : List Int} (h : ¬ (imOk W H L ∧ 0 ≤ l ∧ l ≤ 2)) : stB W H L l = false := by unfold stB; simp only [decide_eq_false_iff_not]; exact h
end Go.Proofs.Ytokniebejilcbaa
namespace Go.Proofs.Ytokniebejilcbaa
open Go.RowKit
def IntIs (q : Int) (w : World) (e : Ending) (w' : World) : Prop := e = .returned (.int .i64 q) ∧ w = w'
def IntBe (q : Int) (w : World) (e : Ending) (w' : World) : Prop := e = .returned (.int .i64 q) ∧ Below w.heap.size w w'
theorem wct_4 {W H : Int} (h : szOk W H) : wct W H 1 = (W + 3) / 4 * ((H + 3) / 4) * 4 * 4 := by
 rw [wct_1 h, Int.mul_assoc ((W + 3) / 4) 4, Int.mul_comm 4 ((H + 3) / 4 * 4), Int.mul_assoc ((H + 3) / 4), ← Int.mul_assoc ((W + 3) / 4), Int.mul_assoc _ 4 4]
theorem til_bd {W H : Int} (h : szOk W H) : 1 ≤ (W + 3) / 4 * ((H + 3) / 4) ∧ (W + 3) / 4 * ((H + 3) / 4) ≤ 16 := by
 have h1 := wct_bd h (Or.inr rfl)
 rw [wct_4 h] at h1
 omega
theorem wctS (W H l : Int) (w : World) : Calls Try.prog 12 #[.int .i64 W, .int .i64 H, .int .i64 l] w (IntIs (wct W H l) w) := by
 by_cases h : szOk W H
 ·obtain ⟨h1, h2, h3, h4⟩ := id h
  by_cases e0 : l = 0
  ·subst e0
   have h5 := sz_mul h
   have HV := Lib.hid (wct_0 h)
   obtain ⟨h6, h7⟩ := h5
   clear h
   go_enter Try.func12, Try.ntmps12
   go_wp2_with ((go_at_call 61; (with_reducible refine (inS_yes _ _ _ _ (by omega) (by omega)).mono ?_); rintro e w' ⟨rfl, rfl⟩))
   go_ret
   exact ⟨ret_int HV.out.symm, rfl⟩
  ·by_cases e1 : l = 1
   ·subst e1
    have h5 := wct_bd h (Or.inr rfl)
    rw [wct_1 h] at h5
    obtain ⟨h6, h7⟩ := h5
    have HV := Lib.hid (wct_1 h)
    clear h e0
    go_enter Try.func12, Try.ntmps12
    go_wp2_with ((go_at_call 61; (with_reducible refine (inS_yes _ _ _ _ (by omega) (by omega)).mono ?_); rintro e w' ⟨rfl, rfl⟩))
    go_ret
    exact ⟨ret_int HV.out.symm, rfl⟩
   ·have HV := Lib.hid (wct_no (W := W) (H := H) (l := l) fun k => by have := k.2; omega)
    clear h
    go_enter Try.func12, Try.ntmps12
    go_wp2_with ((go_at_call 61; (with_reducible refine (inS_yes _ _ _ _ (by omega) (by omega)).mono ?_); rintro e w' ⟨rfl, rfl⟩))
    go_ret
    exact ⟨ret_int HV.out.symm, rfl⟩
 ·have HV := Lib.hid (wct_no (W := W) (H := H) (l := l) fun k => h k.1)
  unfold szOk at h
  by_cases h1 : 1 ≤ W ∧ W ≤ 16
  ·have H7 := Lib.hid (show H < 1 ∨ 16 < H by omega)
   obtain ⟨h1, h2⟩ := h1
   clear h
   go_enter Try.func12, Try.ntmps12
   go_wp2_with (first | (go_at_call 61; (with_reducible refine (inS_yes _ _ _ _ (by omega) (by omega)).mono ?_); rintro e w' ⟨rfl, rfl⟩) | (go_at_call 61; (with_reducible refine (inS_no _ _ _ _ H7.out).mono ?_); rintro e w' ⟨rfl, rfl⟩))
   go_ret
   exact ⟨ret_int HV.out.symm, rfl⟩
  ·have H7 := Lib.hid (show W < 1 ∨ 16 < W by omega)
   clear h h1
   go_enter Try.func12, Try.ntmps12
   go_wp2_with (first | (go_at_call 61; (with_reducible refine (inS_no _ _ _ _ H7.out).mono ?_); rintro e w' ⟨rfl, rfl⟩))
   go_ret
   exact ⟨ret_int HV.out.symm, rfl⟩
theorem tilI (W : Int) (h1 : 1 ≤ W) (h2 : W ≤ 16) (w : World) : Calls Try.prog 63 #[.int .i64 W] w (IntIs ((W + 3) / 4) w) := by
 have HV : Hid ((W + 4 - 1) / 4 = (W + 3) / 4) := Lib.hid (by omega)
 go_enter Try.func63, Try.ntmps63
 go_wp2_with fail
 go_ret
 exact ⟨ret_int (by first | rfl | exact HV.out), rfl⟩
theorem wctI (W H l : Int) (w : World) : Calls Try.prog 13 #[.int .i64 W, .int .i64 H, .int .i64 l] w (IntIs (wct W H l) w) := by
 by_cases h : szOk W H
 ·have Hz := Lib.hid h
  obtain ⟨h1, h2, h3, h4⟩ := id h
  by_cases e0 : l = 0
  ·subst e0
   have h5 := sz_mul h
   have HV := Lib.hid (wct_0 h)
   obtain ⟨h6, h7⟩ := h5
   clear h
   go_enter Try.func13, Try.ntmps13
   go_wp2_with (go_at_call 62; (with_reducible refine (szI_yes _ _ Hz.out _).mono ?_); rintro e w' ⟨rfl, rfl⟩)
   go_ret
   exact ⟨ret_int HV.out.symm, rfl⟩
  ·by_cases e1 : l = 1
   ·subst e1
    have HV := Lib.hid (wct_4 h)
    obtain ⟨h6, h7⟩ := til_bd h
    have HA := Lib.hid (tilI W h1 h2)
    have HB := Lib.hid (tilI H h3 h4)
    unfold IntIs at HA HB
    obtain ⟨a, ha⟩ : ∃ a, a = (W + 3) / 4 := ⟨_, rfl⟩
    obtain ⟨b, hb⟩ : ∃ b, b = (H + 3) / 4 := ⟨_, rfl⟩
    rw [← ha] at HV HA h6 h7
    rw [← hb] at HV HB h6 h7
    clear h e0 ha hb
    go_enter Try.func13, Try.ntmps13
    go_wp2_with (first | (go_at_call 62; (with_reducible refine (szI_yes _ _ Hz.out _).mono ?_); rintro e w' ⟨rfl, rfl⟩) | (go_at_call 63; (with_reducible refine (HA.out _).mono ?_); rintro e w' ⟨rfl, rfl⟩) | (go_at_call 63; (with_reducible refine (HB.out _).mono ?_); rintro e w' ⟨rfl, rfl⟩))
    go_ret
    exact ⟨ret_int HV.out.symm, rfl⟩
   ·have HV := Lib.hid (wct_no (W := W) (H := H) (l := l) fun k => by have := k.2; omega)
    clear h
    go_enter Try.func13, Try.ntmps13
    go_wp2_with (go_at_call 62; (with_reducible refine (szI_yes _ _ Hz.out _).mono ?_); rintro e w' ⟨rfl, rfl⟩)
    go_ret
    exact ⟨ret_int HV.out.symm, rfl⟩
 ·have HV := Lib.hid (wct_no (W := W) (H := H) (l := l) fun k => h k.1)
  have Hz := Lib.hid h
  clear h
  go_enter Try.func13, Try.ntmps13
  go_wp2_with (go_at_call 62; (with_reducible refine (szI_no _ _ Hz.out _).mono ?_); rintro e w' ⟨rfl, rfl⟩)
  go_ret
  exact ⟨ret_int HV.out.symm, rfl⟩
theorem wplS_yes (W H l x y : Int) (h : szOk W H) (hl : l = 0 ∨ l = 1) (hx : 0 ≤ x ∧ x < W) (hy : 0 ≤ y ∧ y < H) (w : World) : Calls Try.prog 14 #[.int .i64 W, .int .i64 H, .int .i64 l, .int .i64 x, .int .i64 y] w (IntIs (wpl W H l x y) w) := by
 have HC := fun V => wctS W H l V
 unfold IntIs at HC
 have hb := wpl_bd h hl hx hy
 have hc := wct_bd h hl
 obtain ⟨q, hq⟩ : ∃ q, q = wct W H l := ⟨_, rfl⟩
 rw [← hq] at HC hb hc
 have hqn : ¬ q < 0 := by omega
 have HC := Lib.hid HC
 obtain ⟨hx1, hx2⟩ := hx
 obtain ⟨hy1, hy2⟩ := hy
 obtain ⟨h1, h2, h3, h4⟩ := id h
 rcases hl with rfl | rfl
 ·have HV := Lib.hid (wpl_0 h ⟨hx1, hx2⟩ ⟨hy1, hy2⟩)
  rw [HV.out] at hb
  have hm : 0 ≤ y * W := Int.mul_nonneg hy1 (by omega)
  obtain ⟨hb1, hb2⟩ := hb
  clear h hq
  go_enter Try.func14, Try.ntmps14
  go_wp2_with (first | (go_at_call 12; (with_reducible refine (HC.out _).mono ?_); rintro e w' ⟨rfl, rfl⟩) | (go_at_call 61; (with_reducible refine (inS_yes _ _ _ _ (by omega) (by omega)).mono ?_); rintro e w' ⟨rfl, rfl⟩))
  go_ret
  exact ⟨ret_int HV.out.symm, rfl⟩
 ·have HV := Lib.hid (wpl_1 h ⟨hx1, hx2⟩ ⟨hy1, hy2⟩)
  rw [HV.out] at hb
  have hm : 0 ≤ y / 4 * ((W + 3) / 4) := Int.mul_nonneg (by omega) (by omega)
  obtain ⟨hb1, hb2⟩ := hb
  clear h hq
  go_enter Try.func14, Try.ntmps14
  go_wp2_with (first | (go_at_call 12; (with_reducible refine (HC.out _).mono ?_); rintro e w' ⟨rfl, rfl⟩) | (go_at_call 61; (with_reducible refine (inS_yes _ _ _ _ (by omega) (by omega)).mono ?_); rintro e w' ⟨rfl, rfl⟩))
  go_ret
  exact ⟨ret_int HV.out.symm, rfl⟩
theorem wplS_no (W H l x y : Int) (h : ¬ (szOk W H ∧ (l = 0 ∨ l = 1) ∧ 0 ≤ x ∧ x < W ∧ 0 ≤ y ∧ y < H)) (w : World) : Calls Try.prog 14 #[.int .i64 W, .int .i64 H, .int .i64 l, .int .i64 x, .int .i64 y] w (IntIs (wpl W H l x y) w) := by
 have HC := fun V => wctS W H l V
 unfold IntIs at HC
 have HV := Lib.hid (wpl_no h)
 by_cases hc : szOk W H ∧ (l = 0 ∨ l = 1)
 ·have hcb := wct_bd hc.1 hc.2
  obtain ⟨h1, h2, h3, h4⟩ := hc.1
  obtain ⟨q, hq⟩ : ∃ q, q = wct W H l := ⟨_, rfl⟩
  rw [← hq] at HC hcb
  have hqn : ¬ q < 0 := by omega
  have HC := Lib.hid HC
  have h' : ¬ (0 ≤ x ∧ x < W ∧ 0 ≤ y ∧ y < H) := fun k => h ⟨hc.1, hc.2, k⟩
  clear h hq hc
  by_cases hx : 0 ≤ x ∧ x < W
  ·obtain ⟨hx1, hx2⟩ := hx
   have HY := Lib.hid (show y < 0 ∨ H - 1 < y by omega)
   clear h'
   go_enter Try.func14, Try.ntmps14
   go_wp2_with (first | (go_at_call 12; (with_reducible refine (HC.out _).mono ?_); rintro e w' ⟨rfl, rfl⟩) | (go_at_call 61; (with_reducible refine (inS_yes x _ _ _ (by omega) (by omega)).mono ?_); rintro e w' ⟨rfl, rfl⟩) | (go_at_call 61; (with_reducible refine (inS_no _ _ _ _ HY.out).mono ?_); rintro e w' ⟨rfl, rfl⟩))
   go_ret
   exact ⟨ret_int HV.out.symm, rfl⟩
  ·have HX := Lib.hid (show x < 0 ∨ W - 1 < x by omega)
   clear h' hx
   go_enter Try.func14, Try.ntmps14
   go_wp2_with (first | (go_at_call 12; (with_reducible refine (HC.out _).mono ?_); rintro e w' ⟨rfl, rfl⟩) | (go_at_call 61; (with_reducible refine (inS_no _ _ _ _ HX.out).mono ?_); rintro e w' ⟨rfl, rfl⟩))
   go_ret
   exact ⟨ret_int HV.out.symm, rfl⟩
 ·rw [wct_no hc] at HC
  have HC := Lib.hid HC
  clear h hc
  go_enter Try.func14, Try.ntmps14
  go_wp2_with (go_at_call 12; (with_reducible refine (HC.out _).mono ?_); rintro e w' ⟨rfl, rfl⟩)
  go_ret
  exact ⟨ret_int HV.out.symm, rfl⟩
theorem wplS (W H l x y : Int) (w : World) : Calls Try.prog 14 #[.int .i64 W, .int .i64 H, .int .i64 l, .int .i64 x, .int .i64 y] w (IntIs (wpl W H l x y) w) := by
 by_cases h : szOk W H ∧ (l = 0 ∨ l = 1) ∧ 0 ≤ x ∧ x < W ∧ 0 ≤ y ∧ y < H
 ·obtain ⟨h0, hl, h1, h2, h3, h4⟩ := h
  exact wplS_yes W H l x y h0 hl ⟨h1, h2⟩ ⟨h3, h4⟩ w
 ·exact wplS_no W H l x y h w
theorem wplI_yes (W H l x y : Int) (h : szOk W H) (hl : l = 0 ∨ l = 1) (hx : 0 ≤ x ∧ x < W) (hy : 0 ≤ y ∧ y < H) (w : World) : Calls Try.prog 15 #[.int .i64 W, .int .i64 H, .int .i64 l, .int .i64 x, .int .i64 y] w (IntBe (wpl W H l x y) w) := by
 have HC := fun V => wctI W H l V
 unfold IntIs at HC
 have hb := wpl_bd h hl hx hy
 have hc := wct_bd h hl
 obtain ⟨q, hq⟩ : ∃ q, q = wct W H l := ⟨_, rfl⟩
 rw [← hq] at HC hb hc
 have hqn : ¬ q < 0 := by omega
 have HC := Lib.hid HC
 obtain ⟨hx1, hx2⟩ := hx
 obtain ⟨hy1, hy2⟩ := hy
 obtain ⟨h1, h2, h3, h4⟩ := id h
 have HP := fun V => hasI_any ⟨0, 0, W, H⟩ x y V
 rw [has_yes ⟨show Rc.ok _ by unfold Rc.ok; simp only; omega, by simp only; omega⟩] at HP
 dsimp only at HP
 have HP := Lib.hid HP
 rcases hl with rfl | rfl
 ·have HV := Lib.hid (wpl_0 h ⟨hx1, hx2⟩ ⟨hy1, hy2⟩)
  rw [HV.out] at hb
  have hm : 0 ≤ y * W := Int.mul_nonneg hy1 (by omega)
  obtain ⟨hb1, hb2⟩ := hb
  clear h hq
  go_enter Try.func15, Try.ntmps15
  go_wp2_with (go_at_call 13; (with_reducible refine (HC.out _).mono ?_); rintro e w' ⟨rfl, rfl⟩)
  refine (HP.out _).mono ?_
  rintro e w1 ⟨rfl, hb⟩
  go_wp2_with fail
  go_ret
  exact ⟨ret_int HV.out.symm, hb⟩
 ·have HV := Lib.hid (wpl_1 h ⟨hx1, hx2⟩ ⟨hy1, hy2⟩)
  rw [HV.out] at hb
  have hm : 0 ≤ y / 4 * ((W + 3) / 4) := Int.mul_nonneg (by omega) (by omega)
  obtain ⟨hb1, hb2⟩ := hb
  have HA := Lib.hid (tilI W h1 h2)
  unfold IntIs at HA
  clear h hq
  go_enter Try.func15, Try.ntmps15
  go_wp2_with (go_at_call 13; (with_reducible refine (HC.out _).mono ?_); rintro e w' ⟨rfl, rfl⟩)
  refine (HP.out _).mono ?_
  rintro e w1 ⟨rfl, hb⟩
  go_wp2_with (go_at_call 63; (with_reducible refine (HA.out _).mono ?_); rintro e w' ⟨rfl, rfl⟩)
  go_ret
  exact ⟨ret_int (by rw [HV.out]; omega), hb⟩
theorem wplI_no (W H l x y : Int) (h : ¬ (szOk W H ∧ (l = 0 ∨ l = 1) ∧ 0 ≤ x ∧ x < W ∧ 0 ≤ y ∧ y < H)) (w : World) : Calls Try.prog 15 #[.int .i64 W, .int .i64 H, .int .i64 l, .int .i64 x, .int .i64 y] w (IntBe (wpl W H l x y) w) := by
 have HC := fun V => wctI W H l V
 unfold IntIs at HC
 have HV := Lib.hid (wpl_no h)
 by_cases hc : szOk W H ∧ (l = 0 ∨ l = 1)
 ·have hcb := wct_bd hc.1 hc.2
  obtain ⟨q, hq⟩ : ∃ q, q = wct W H l := ⟨_, rfl⟩
  rw [← hq] at HC hcb
  have hqn : ¬ q < 0 := by omega
  have HC := Lib.hid HC
  have HP := fun V => hasI_any ⟨0, 0, W, H⟩ x y V
  rw [has_no fun k => by have h2 := k.2; simp only at h2; exact h ⟨hc.1, hc.2, by omega⟩] at HP
  dsimp only at HP
  have HP := Lib.hid HP
  clear h hq hc hcb
  go_enter Try.func15, Try.ntmps15
  go_wp2_with (go_at_call 13; (with_reducible refine (HC.out _).mono ?_); rintro e w' ⟨rfl, rfl⟩)
  refine (HP.out _).mono ?_
  rintro e w1 ⟨rfl, hb⟩
  go_wp2_with fail
  go_ret
  exact ⟨ret_int HV.out.symm, hb⟩
 ·rw [wct_no hc] at HC
  have HC := Lib.hid HC
  clear h hc
  go_enter Try.func15, Try.ntmps15
  go_wp2_with (go_at_call 13; (with_reducible refine (HC.out _).mono ?_); rintro e w' ⟨rfl, rfl⟩)
  go_ret
  exact ⟨ret_int HV.out.symm, Below.refl _ _⟩
theorem wplI (W H l x y : Int) (w : World) : Calls Try.prog 15 #[.int .i64 W, .int .i64 H, .int .i64 l, .int .i64 x, .int .i64 y] w (IntBe (wpl W H l x y) w) := by
 by_cases h : szOk W H ∧ (l = 0 ∨ l = 1) ∧ 0 ≤ x ∧ x < W ∧ 0 ≤ y ∧ y < H
 ·obtain ⟨h0, hl, h1, h2, h3, h4⟩ := h
  exact wplI_yes W H l x y h0 hl ⟨h1, h2⟩ ⟨h3, h4⟩ w
 ·exact wplI_no W H l x y h w
end Go.Proofs.Ytokniebejilcbaa
namespace Go.Proofs.Ytokniebejilcbaa
open Go.RowKit
noncomputable def plk (W H l : Int) (k : Nat) : Nat := (wpl W H l ((k : Int) % W) ((k : Int) / W)).toNat
theorem plk_nat (W H l : Int) (X k : Nat) (h : W = X) : wpl W H l ((k : Int) % W) ((k : Int) / W) = wpl W H l ((k % X : Nat) : Int) ((k / X : Nat) : Int) := by
 subst h; rw [Int.natCast_emod, Int.natCast_ediv]
theorem plk_bd {X Y : Nat} {l : Int} (h : szOk X Y) (hl : l = 0 ∨ l = 1) {k : Nat} (hk : k < X * Y) : plk X Y l k < (wct X Y l).toNat ∧ ((plk X Y l k : Nat) : Int) = wpl X Y l ((k : Int) % X) ((k : Int) / X) := by
 have hX : 0 < X := plc_pos hk
 have h1 := plc_row hk
 have h2 : k % X < X := Nat.mod_lt _ hX
 unfold plk
 rw [plk_nat _ _ _ X k rfl]
 generalize k % X = x at h2
 generalize k / X = y at h1
 have hb := wpl_bd h hl (x := x) (y := y) ⟨by omega, by omega⟩ ⟨by omega, by omega⟩
 omega
theorem plk_inj {X Y : Nat} {l : Int} (h : szOk X Y) (hl : l = 0 ∨ l = 1) {j k : Nat} (hj : j < X * Y) (hk : k < X * Y) (he : plk X Y l j = plk X Y l k) : j = k := by
 have hX : 0 < X := plc_pos hk
 have a1 := plc_row hk
 have a2 : k % X < X := Nat.mod_lt _ hX
 have b1 := plc_row hj
 have b2 : j % X < X := Nat.mod_lt _ hX
 have e1 := (plk_bd h hl hj).2
 have e2 := (plk_bd h hl hk).2
 rw [he, e2, plk_nat _ _ _ X k rfl, plk_nat _ _ _ X j rfl] at e1
 have e5 := plc_eq j X
 have e6 := plc_eq k X
 generalize k % X = x at *
 generalize k / X = y at *
 generalize j % X = x2 at *
 generalize j / X = y2 at *
 obtain ⟨e3, e4⟩ := wpl_inj h hl ⟨by omega, by omega⟩ ⟨by omega, by omega⟩ ⟨by omega, by omega⟩ ⟨by omega, by omega⟩ e1
 obtain rfl : x = x2 := by omega
 obtain rfl : y = y2 := by omega
 omega
theorem stR_get {X Y : Nat} {l : Int} (h : szOk X Y) (hl : l = 0 ∨ l = 1) (L : List Int) (k : Nat) (hk : k ≤ X * Y) (j : Nat) (hj : j < k) : (stR X Y l L k)[plk X Y l j]? = some (L.getD j 0) := by
  induction k with
  | zero => omega
  | succ k ih =>
    unfold stR
    have e : (wpl X Y l ((k : Int) % X) ((k : Int) / X)).toNat = plk X Y l k := rfl
    rw [e, List.getElem?_set]
    by_cases hjk : plk X Y l k = plk X Y l j
    · obtain rfl := plk_inj h hl (by omega) (by omega) hjk
      rw [if_pos hjk, if_pos (by rw [stR_len]; exact (plk_bd h hl (by omega)).1)]
    · rw [if_neg hjk]
      exact ih (by omega) (by
        rcases Nat.lt_or_ge j k with h1 | h1
        · exact h1
        · exact absurd (by rw [show j = k by omega]) hjk)
def flatR : List Int → List Int
 | n :: p :: r => List.replicate n.toNat p ++ flatR r
 | _ => []
theorem rlen_take {L : List Int} (h : L ≠ []) : List.replicate (rlen L) (L.headD 0) = L.take (rlen L) := by
  cases L with
  | nil => exact absurd rfl h
  | cons x r =>
    unfold rlen
    rw [List.replicate_succ, List.take_succ_cons]
    congr 1
    induction r with
    | nil => rfl
    | cons y r ih =>
      by_cases e : y = x
      · subst e
        rw [List.takeWhile_cons_of_pos (by simp), List.length_cons, List.replicate_succ, List.take_succ_cons]
        congr 1
        exact ih (by simp)
      · rw [List.takeWhile_cons_of_neg (by simp [e])]
        rfl
theorem flat_run (n : Nat) (L B : List Int) (h : L.length ≤ n) : flatR (runF n L ++ B) = L ++ flatR B := by
  induction n generalizing L with
  | zero =>
    obtain rfl : L = [] := List.length_eq_zero_iff.1 (by omega)
    rfl
  | succ n ih =>
    by_cases hL : L = []
    · subst hL; simp [runF]
    · have h3 := rlen_pos hL
      have h4 := rlen_le L
      unfold runF
      rw [if_neg hL, List.cons_append, List.cons_append]
      show List.replicate (Int.toNat (rlen L : Int)) (L.headD 0) ++ flatR (runF n (L.drop (rlen L)) ++ B) = _
      rw [ih _ (by rw [List.length_drop]; omega), Int.toNat_natCast, rlen_take hL, ← List.append_assoc, List.take_append_drop]
theorem flat_rows (W : Nat) (L B : List Int) (y : Nat) (h : y * W ≤ L.length) : flatR (runR W L y ++ B) = L.take (y * W) ++ flatR B := by
  induction y generalizing B with
  | zero => simp [runR]
  | succ y ih =>
    rw [Nat.add_mul, Nat.one_mul] at h ⊢
    unfold runR
    rw [List.append_assoc, ih _ (by omega)]
    unfold runL
    rw [flat_run _ _ _ (Nat.le_refl _), ← List.append_assoc, ← List.take_add]
def expR (most : Int) : List Int → List Int → List Int
 | acc, n :: p :: r => if 1 ≤ n ∧ n ≤ most - acc.length then expR most (acc ++ List.replicate n.toNat p) r else []
 | acc, _ => acc
theorem exp_run (most : Int) (n : Nat) (acc L B : List Int) (h : L.length ≤ n) (hm : (acc.length : Int) + L.length ≤ most) : expR most acc (runF n L ++ B) = expR most (acc ++ L) B := by
  induction n generalizing L acc with
  | zero =>
    obtain rfl : L = [] := List.length_eq_zero_iff.1 (by omega)
    simp [runF]
  | succ n ih =>
    by_cases hL : L = []
    · subst hL; simp [runF]
    · have h3 := rlen_pos hL
      have h4 := rlen_le L
      unfold runF
      rw [if_neg hL, List.cons_append, List.cons_append, expR, if_pos (by omega), Int.toNat_natCast, rlen_take hL]
      rw [ih _ _ (by rw [List.length_drop]; omega) (by rw [List.length_append, List.length_take, List.length_drop]; omega), List.append_assoc, List.take_append_drop]
theorem exp_rows (most : Int) (W : Nat) (L B : List Int) (y : Nat) (h : y * W ≤ L.length) (hm : (L.length : Int) ≤ most) : expR most [] (runR W L y ++ B) = expR most (L.take (y * W)) B := by
  induction y generalizing B with
  | zero => simp [runR]
  | succ y ih =>
    rw [Nat.add_mul, Nat.one_mul] at h ⊢
    unfold runR
    rw [List.append_assoc, ih _ (by omega)]
    unfold runL
    rw [exp_run _ _ _ _ _ (Nat.le_refl _) (by rw [List.length_take, List.length_take, List.length_drop]; omega), ← List.take_add]
def ldP (ws : List Int) (W H l : Int) (D : List Int) : Prop := imOk W H D ∧ 0 ≤ l ∧ l ≤ 2 ∧ stM W H D l = ws
noncomputable def ldPl (ws : List Int) (W H l : Int) (n : Nat) : List Int := tabI n fun k => ws.getD (plk W H l k) 0
theorem ld_exp {ws D : List Int} {W H l : Int} (h : ldP ws W H l D) (hl : l = 2) : expR (W * H) [] ws = D := by
 subst hl
 obtain ⟨hi, _, _, hs⟩ := h
 rw [stM_2 hi] at hs
 obtain ⟨X, Y, rfl, rfl, _, _, _, _, hL⟩ := im_nat hi
 have e : Y * X = D.length := by rw [hL, Nat.mul_comm]
 have := exp_rows ((X : Int) * Y) X D [] Y (by omega) (by rw [hL]; simp)
 rw [List.append_nil, e, List.take_length] at this
 rw [← hs]
 exact this
theorem ld_flat {ws D : List Int} {W H l : Int} (h : ldP ws W H l D) (hl : l = 2) : flatR ws = D := by
 subst hl
 obtain ⟨hi, _, _, hs⟩ := h
 rw [stM_2 hi] at hs
 obtain ⟨X, Y, rfl, rfl, _, _, _, _, hL⟩ := im_nat hi
 have e : Y * X = D.length := by rw [hL, Nat.mul_comm]
 have := flat_rows X D [] Y (by omega)
 rw [List.append_nil, e, List.take_length, show flatR [] = [] from rfl, List.append_nil] at this
 rw [← hs]
 exact this
theorem ld_pl {ws D : List Int} {W H l : Int} (h : ldP ws W H l D) (hl : l = 0 ∨ l = 1) : (ws.length : Int) = wct W H l ∧ ldPl ws W H l D.length = D := by
 obtain ⟨hi, _, _, hs⟩ := h
 rw [stM_01 hi hl] at hs
 have hb := wct_bd hi.1 hl
 have hz := hi.1
 obtain ⟨X, Y, rfl, rfl, _, _, _, _, hL⟩ := im_nat hi
 refine ⟨by rw [← hs, stR_len]; omega, ?_⟩
 apply List.ext_getElem?
 intro j
 unfold ldPl
 by_cases hj : j < D.length
 ·have h2 := stR_get hz hl D D.length (by omega) j hj
  rw [hs] at h2
  rw [tabI_get _ _ _ hj, List.getD_eq_getElem?_getD, show ws[plk X Y l j]? = _ from h2, Option.getD_some, List.getD_eq_getElem?_getD, List.getElem?_eq_getElem hj, Option.getD_some]
 ·rw [List.getElem?_eq_none (by rw [tabI_length]; omega), List.getElem?_eq_none (by omega)]
theorem ld_uniq {ws D E : List Int} {W H l : Int} (h : ldP ws W H l D) (h2 : ldP ws W H l E) : D = E := by
 by_cases hl : l = 2
 ·rw [← ld_flat h hl, ← ld_flat h2 hl]
 ·have hl : l = 0 ∨ l = 1 := by have := h.2.1; have := h.2.2.1; omega
  have e : D.length = E.length := by have h3 := h.1.2.1; have h4 := h2.1.2.1; omega
  rw [← (ld_pl h hl).2, ← (ld_pl h2 hl).2, e]
open Classical in
noncomputable def ldM (ws : List Int) (W H l : Int) : Im := if h : ∃ D, ldP ws W H l D then ⟨W, H, Classical.choose h⟩ else ⟨0, 0, []⟩
noncomputable def ldB (ws : List Int) (W H l : Int) : Bool := @decide (∃ D, ldP ws W H l D) (Classical.propDecidable _)
theorem ldM_yes {ws D : List Int} {W H l : Int} (h : ldP ws W H l D) : ldM ws W H l = ⟨W, H, D⟩ ∧ ldB ws W H l = true := by
 have h2 : ∃ D, ldP ws W H l D := ⟨D, h⟩
 refine ⟨?_, by unfold ldB; simp [h2]⟩
 unfold ldM
 rw [dif_pos h2, ld_uniq (Classical.choose_spec h2) h]
theorem ldM_no {ws : List Int} {W H l : Int} (h : ¬ ∃ D, ldP ws W H l D) : ldM ws W H l = ⟨0, 0, []⟩ ∧ ldB ws W H l = false := by
 refine ⟨?_, by unfold ldB; simp only [decide_eq_false_iff_not]; exact h⟩
 unfold ldM
 rw [dif_neg h]
theorem ld_cand {ws D : List Int} {W H l : Int} (hc : ∀ E, ldP ws W H l E → D = E) : (stB W H D l = true ∧ stM W H D l = ws → ldM ws W H l = ⟨W, H, D⟩ ∧ ldB ws W H l = true) ∧ (¬ (stB W H D l = true ∧ stM W H D l = ws) → ldM ws W H l = ⟨0, 0, []⟩ ∧ ldB ws W H l = false) := by
 constructor
 ·rintro ⟨h1, h2⟩
  by_cases h : imOk W H D ∧ 0 ≤ l ∧ l ≤ 2
  ·exact ldM_yes ⟨h.1, h.2.1, h.2.2, h2⟩
  ·rw [stB_no h] at h1; cases h1
 ·intro h
  refine ldM_no ?_
  rintro ⟨E, hE⟩
  obtain rfl := hc E hE
  exact h ⟨stB_yes hE.1 hE.2.1 hE.2.2.1, hE.2.2.2⟩
end Go.Proofs.Ytokniebejilcbaa
namespace Go.Proofs.Ytokniebejilcbaa
open Go.RowKit
def AnsIs (M : List Int) (w : World) (e : Ending) (w' : World) : Prop := ∃ u, e = .returned u ∧ w'.ownsRow w.heap.size 3 1 u M.length (intCells M) ∧ Below w.heap.size w w'
theorem ownI_zero (w : World) : (w.alloc (.cells #[] 3)).ownsRow w.heap.size 3 1 (.slice (some ⟨w.heap.size, 0, none⟩) 0 0) 0 (intCells []) :=
 ⟨rfl, .inr ⟨w.heap.size, 0, #[], rfl, Nat.le_refl _, heap_alloc_new w _, Nat.le_refl _, by unfold maxLen; omega, rfl, rfl⟩⟩
end Go.Proofs.Ytokniebejilcbaa
namespace Go.Proofs.Ytokniebejilcbaa
open Go.RowKit
def upTo (p : Nat → Bool) : Nat → Nat
 | 0 => 0
 | n + 1 => if upTo p n = n ∧ p n = true then n + 1 else upTo p n
theorem upTo_all {p : Nat → Bool} {n : Nat} (h : ∀ k, k < n → p k = true) : upTo p n = n := by
 induction n with
 | zero => rfl
 | succ n ih => unfold upTo; rw [if_pos ⟨ih fun k hk => h k (by omega), h n (by omega)⟩]
theorem upTo_stop {p : Nat → Bool} {j : Nat} (h : ∀ k, k < j → p k = true) (hj : p j = false) {n : Nat} (hn : j ≤ n) : upTo p n = j := by
  induction n with
  | zero => obtain rfl : j = 0 := by omega
            rfl
  | succ n ih =>
    unfold upTo
    by_cases e : j = n + 1
    · subst e
      rw [upTo_all fun k hk => h k (by omega), if_pos ⟨rfl, h n (by omega)⟩]
    · rw [ih (by omega), if_neg]
      rintro ⟨e2, e3⟩
      rw [← e2, hj] at e3
      cases e3
noncomputable def plB (ws : List Int) (W H l : Int) (k : Nat) : Bool := decide (0 ≤ wpl W H l ((k : Int) % W) ((k : Int) / W) ∧ wpl W H l ((k : Int) % W) ((k : Int) / W) < ws.length)
noncomputable def pixL (ws : List Int) (W H l : Int) : List Int := if l = 2 then flatR ws else ldPl ws W H l (upTo (plB ws W H l) (W * H).toNat)
noncomputable def pixD (ws : List Int) (W H l : Int) : List Int := (pixL ws W H l).take (W * H).toNat
theorem pixD_cand {ws : List Int} {W H l : Int} (E : List Int) (h : ldP ws W H l E) : pixD ws W H l = E := by
 have hl : (E.length : Int) = W * H := h.1.2.1
 unfold pixD pixL
 by_cases h2 : l = 2
 ·rw [if_pos h2, ld_flat h h2]
  exact List.take_of_length_le (by omega)
 ·have h01 : l = 0 ∨ l = 1 := by have := h.2.1; have := h.2.2.1; omega
  obtain ⟨e1, e2⟩ := ld_pl h h01
  have hz := h.1.1
  have hall : ∀ k, k < (W * H).toNat → plB ws W H l k = true := by
   obtain ⟨X, Y, rfl, rfl, _, _, _, _, hL⟩ := im_nat h.1
   intro k hk
   have hk2 : k < X * Y := by omega
   obtain ⟨h3, h4⟩ := plk_bd hz h01 hk2
   exact decide_eq_true (by rw [← h4]; omega)
  rw [if_neg h2, upTo_all hall, show (W * H).toNat = E.length by omega, e2, List.take_length]
theorem ldM_sz {ws : List Int} {W H l : Int} (h : ¬ szOk W H) : ldM ws W H l = ⟨0, 0, []⟩ ∧ ldB ws W H l = false := ldM_no (by rintro ⟨D, hD⟩; exact h hD.1.1)
theorem ldM_len (ws : List Int) (W H l : Int) : (ldM ws W H l).d.length ≤ 256 := by
 by_cases h : ∃ D, ldP ws W H l D
 ·obtain ⟨D, hD⟩ := h
  rw [(ldM_yes hD).1]
  have h1 := hD.1.2.1
  have h2 := sz_mul hD.1.1
  show D.length ≤ 256
  omega
 ·rw [(ldM_no h).1]; exact Nat.zero_le _
end Go.Proofs.Ytokniebejilcbaa
