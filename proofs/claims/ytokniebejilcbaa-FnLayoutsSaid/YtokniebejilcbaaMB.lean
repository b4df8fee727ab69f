/- Texts of mine in one file: ImC, ImN, ImM, ImD, ImE, CpyB, CpyJ, FilB, FilS, CrpB, SameIm, DfsM, Law, RfK, OrdS, SclB, CkI, LwM, LyC, LyN, DitI, LdM, LyK. No statement is proved here. -/
import Derived.Test.YtokniebejilcbaaMA
import Derived.Test.YtokniebejilcbaaProg
import Derived.WalkKit
import Derived.ProofKit
import Derived.OpenShut
import Derived.WalkLawsBesides
import Derived.WalkSpells
import Derived.ShutString
import Derived.ChangeOld
import Derived.Below
import Derived.Lib.Hide
import Derived.BigQuiet
import Derived.Deep.QuietTactic
import Derived.Maps.AppendAt
import Derived.Deep.OwnRows
import Derived.Handy
import Derived.Deep.Draws
import Derived.OwnWalk
import Derived.Deep.AppendLies
import Derived.Deep.LoopGhost
import Derived.Deep.Onto
import Derived.Test.YtokniebejilcbaaShelf
import Derived.Laws.CopyOwn
import Derived.Deep.RegionLaw
import Derived.Deep.RegionHeld3
import Derived.Deep.DeepCutAuto
import Derived.Great.BuildSlice
import Derived.Laws.BitsAllLaws
import Derived.Lib.QuoteBits
import Derived.Deep.MidRow
import Derived.Deep.WholeRow
import Derived.Laws.AppendOwn
import Derived.RangeFuncNested
import Derived.RangeFuncCalls
import Derived.RangeFuncFrom
import Derived.Shelf.Abstract
import Derived.Shelf.RegionOpen
import Derived.OwnWalkIn
import Derived.TacticsInMore
import Derived.LoopNIn
import Derived.LoopIn
import Derived.Carry
import Derived.Maps.Own
namespace Go.Proofs.Ytokniebejilcbaa
open Go.RowKit
theorem wrap_in (x : Int) (h0 : -9223372036854775808 ≤ x) (h1 : x ≤ 9223372036854775807) : IntKind.i64.wrap x = x := by
 simp [IntKind.wrap, IntKind.bits, IntKind.signed]; omega
end Go.Proofs.Ytokniebejilcbaa
namespace Go.Proofs.Ytokniebejilcbaa
open Go.RowKit
structure Im where
 w : Int
 h : Int
 d : List Int
def zeroIm : Im := ⟨0, 0, []⟩
def flatN (W H p : Int) : List Int := tabI (W * H).toNat (fun _ => p)
open Classical in
noncomputable def newIm (W H p : Int) : Im := if szOk W H ∧ pixOk p then ⟨W, H, flatN W H p⟩ else zeroIm
theorem new_yes {W H p : Int} (h1 : szOk W H) (h2 : pixOk p) : newIm W H p = ⟨W, H, flatN W H p⟩ := if_pos ⟨h1, h2⟩
theorem new_no {W H p : Int} (h : ¬ (szOk W H ∧ pixOk p)) : newIm W H p = zeroIm := if_neg h
def AnsIm (I : Im) (w : World) (e : Ending) (w' : World) : Prop := ImAns I.w I.h I.d w e w'
theorem flat_size {W H : Int} (h : szOk W H) (p : Int) : ∃ n : Nat, 1 ≤ n ∧ n ≤ 256 ∧ (n : Int) = W * H ∧ flatN W H p = tabI n (fun _ => p) := by
 have h1 := sz_mul h
 have h2 := sz_pos h
 exact ⟨(W * H).toNat, by omega, by omega, by omega, rfl⟩
theorem zeroIm_ans {w w' : World} (hb : Below w.heap.size w w') : AnsIm zeroIm w (.returned (.agg #[.int .i64 0, .int .i64 0, .slice none 0 0])) w' :=
 ⟨_, rfl, World.ownsRow_nil _ _ _ _, hb⟩
theorem tabI_snoc (k : Nat) (f : Nat → Int) : tabI (k + 1) f = tabI k f ++ [f k] := by simp [tabI, List.range_succ]
structure NiSt (w : World) (W H p : Int) (k : Nat) (v : Value) (wr : World) : Prop where
 rs : ImAt wr w.heap.size 32 0 0 (.slice none 0 0)
 im : ImAt wr (w.heap.size + 1) 32 W H v
 own : wr.ownsRow (w.heap.size + 2) 3 1 v k (intCells (tabI k (fun _ => p)))
 bw : Below w.heap.size w wr
theorem NiSt.next {w wr w2 : World} {W H p : Int} {k : Nat} {v v' : Value} {o : Obj} (h : NiSt w W H p k v wr)
  (hown : w2.ownsRow (w.heap.size + 2) 3 1 v' (k + 1) (intCells (tabI k (fun _ => p)) ++ [.int .i64 p])) (hgr : (wr.alloc o).grownBy w2 v.ownBlock) :
  NiSt w W H p (k + 1) v' (w2.setCell ⟨w.heap.size + 1, 2, none⟩ v') := by
 have hlow : ∀ b, b < w.heap.size + 2 → some b ≠ v.ownBlock := fun b hb e => by have := (h.own.lt b e.symm).1; omega
 refine ⟨(((h.rs.alloc o).grown hgr (hlow _ (by omega))).far (by simp) _), ((h.im.alloc o).grown hgr (hlow _ (by omega))).set2 v', ?_, ((h.bw.alloc h.bw.size o).grown hgr (by have := h.bw.size; simp; omega) (fun b hb => by have := (h.own.lt b hb).1; omega)).setCell (by simp) _⟩
 have h2 := ownI_far hown (p := ⟨w.heap.size + 1, 2, none⟩) (fun g hg => by have := (hown.lt g hg).1; simp; omega) v'
 rw [tabI_snoc, show intCells (tabI k (fun _ => p) ++ [p]) = intCells (tabI k (fun _ => p)) ++ [.int .i64 p] by simp [intCells]]
 exact h2
theorem NiSt.mid {w wr w2 : World} {W H p : Int} {k : Nat} {v : Value} {o : Obj} (h : NiSt w W H p k v wr) (hgr : (wr.alloc o).grownBy w2 v.ownBlock) :
  ImAt w2 (w.heap.size + 1) 32 W H v := (h.im.alloc o).grown hgr (fun e => by have := (h.own.lt _ e.symm).1; omega)
set_option maxHeartbeats 600000 in
set_option maxRecDepth 10000 in
theorem newS (W H p : Int) (w : World) : Calls Try.prog 116 #[.int .i64 W, .int .i64 H, .int .i64 p] w (AnsIm (newIm W H p) w) := by
 have hR := ImAt.new w 32 0 0 (.slice none 0 0)
 have hw := (Below.refl w.heap.size w).alloc (Nat.le_refl _) (.cells #[.int .i64 0, .int .i64 0, .slice none 0 0] 32)
 obtain ⟨i0, hi, hz0, hz1, hz2⟩ := info_parts infoInt
 by_cases hs : szOk W H
 ·have hs2 := hs
  obtain ⟨s1, s2, s3, s4⟩ := hs2
  by_cases hp : pixOk p
  ·obtain ⟨n, n1, n2, hn, hd⟩ := flat_size hs p
   have HA := Lib.hid (show newIm W H p = ⟨W, H, tabI n (fun _ => p)⟩ by rw [new_yes hs hp, hd])
   have Hp := Lib.hid hp
   have hn' : W * H = (n : Int) := hn.symm
   have hS0 : NiSt w W H p 0 (.slice none 0 0) ((w.alloc (.cells #[.int .i64 0, .int .i64 0, .slice none 0 0] 32)).alloc (.cells #[.int .i64 W, .int .i64 H, .slice none 0 0] 32)) :=
    ⟨hR.alloc _, ImAt.newAt (by simp) _ _ _ _, World.ownsRow_nil _ _ _ _, hw.alloc (by simp) _⟩
   clear hs hp hd hn hR hw
   go_enter Try.func116, Try.ntmps116
   go_wp2_with (first | (go_at_call 61; (with_reducible refine (inS_yes _ _ _ _ (by omega) (by omega)).mono ?_); rintro e w' ⟨rfl, rfl⟩) | (go_at_call 107; (with_reducible refine (pixS_yes _ Hp.out _).mono ?_); rintro e w' ⟨rfl, rfl⟩))
   go_loopw [8] (fun s wr => ∃ (k : Nat) (v : Value), k ≤ n ∧ s = .int .i64 k ∧ NiSt w W H p k v wr) (fun s _ => n - (intOf s).toNat)
   case atStart => exact ⟨0, _, Nat.zero_le _, rfl, hS0⟩
   case round =>
    clear hS0
    obtain ⟨k, v, hk, rfl, hS⟩ := hrel
    obtain ⟨A, c, hv⟩ := ownI_shape hS.own
    subst hv
    obtain ⟨c0, c1, c2⟩ := hS.im.cells
    by_cases hlt : k < n
    ·have k1 : (k : Int) < (n : Int) := by omega
     go_wp2_with (at_builtin; refine wpList_append_own _ rfl _ _ 26 rfl (w.heap.size + 2) 3 i0 (.int .i64 0) 1 8 Try.underlying26 hi hz0 hz1 hz2 rfl (by decide) _ _ _ rfl (hS.own.alloc _) ⟨_, 0, none⟩ 1 1 _ rfl rfl (World.news_of_block (cs := #[.int .i64 p]) (fr := (0, 0)) (heap_alloc_new _ _)) (by intro u hu; simp at hu; subst hu; rfl) (by unfold maxLen; omega) (by omega) (by have := hS.im.lt; simp; omega) ?_)
     intro v2 w2 hown2 hgrow _
     obtain ⟨gq, cq, hvq, _, _⟩ := hown2.form (by omega)
     subst hvq
     have hM := hS.mid hgrow
     obtain ⟨d0, d1, d2⟩ := hM.cells
     have f2 := hM.frozen 2
     have hS := hS.next hown2 hgrow
     clear hown2 hgrow c0 c1 c2 hM
     go_wp2_with fail
     go_roundw
     case rel => exact ⟨k + 1, _, by omega, by go_num, hS⟩
     case measure => simp [intOf]; omega
    ·obtain rfl : k = n := by omega
     obtain ⟨d0, d1, d2⟩ := hS.rs.cells
     have f0 := hS.rs.frozen 0
     have f1 := hS.rs.frozen 1
     have f2 := hS.rs.frozen 2
     go_wp2_with fail
     have j := hS.rs.set3 W H (.slice A k c)
     obtain ⟨x0, x1, x2⟩ := j.cells
     refine bodyPost_ret (v := .agg #[.int .i64 W, .int .i64 H, .slice A k c]) (by simp [results, Try.results116, go_sem, x0, x1, x2]) rfl ?_
     rw [HA.out]
     refine ⟨_, rfl, ?_, ((hS.bw.setCell (by simp) _).setCell (by simp) _).setCell (by simp) _⟩
     have hlt := fun g hg => (hS.own.lt g hg).1
     have h3 := ownI_far (ownI_far (ownI_far (hS.own.mono (show w.heap.size ≤ _ by omega)) (p := ⟨w.heap.size, 0, none⟩) (fun g hg => by have := hlt g hg; simp at this ⊢; omega) (.int .i64 W)) (p := ⟨w.heap.size, 1, none⟩) (fun g hg => by have := hlt g hg; simp at this ⊢; omega) (.int .i64 H)) (p := ⟨w.heap.size, 2, none⟩) (fun g hg => by have := hlt g hg; simp at this ⊢; omega) (.slice A k c)
     rw [tabI_length]
     exact h3
  ·have HA := Lib.hid (show newIm W H p = zeroIm from new_no fun h => hp h.2)
   have Hp := Lib.hid hp
   obtain ⟨c0, c1, c2⟩ := hR.cells
   have f0 := hR.frozen 0
   have f1 := hR.frozen 1
   have f2 := hR.frozen 2
   clear hs hp
   go_enter Try.func116, Try.ntmps116
   go_wp2_with (first | (go_at_call 61; (with_reducible refine (inS_yes _ _ _ _ (by omega) (by omega)).mono ?_); rintro e w' ⟨rfl, rfl⟩) | (go_at_call 107; (with_reducible refine (pixS_no _ Hp.out _).mono ?_); rintro e w' ⟨rfl, rfl⟩))
   refine bodyPost_ret (v := .agg #[.int .i64 0, .int .i64 0, .slice none 0 0]) (by simp [results, Try.results116, go_sem]) rfl ?_
   rw [HA.out]
   exact zeroIm_ans (by repeat (first | exact hw | refine Below.setCell ?_ (by simp) _))
 ·have HA := Lib.hid (show newIm W H p = zeroIm from new_no fun h => hs h.1)
  obtain ⟨c0, c1, c2⟩ := hR.cells
  have f0 := hR.frozen 0
  have f1 := hR.frozen 1
  have f2 := hR.frozen 2
  unfold szOk at hs
  by_cases h1 : 1 ≤ W ∧ W ≤ 16
  ·obtain ⟨h1, h2⟩ := h1
   have h7 : H < 1 ∨ 16 < H := by omega
   have H7 := Lib.hid h7
   clear h7 hs
   go_enter Try.func116, Try.ntmps116
   go_wp2_with (first | (go_at_call 61; (with_reducible refine (inS_yes _ _ _ _ (by omega) (by omega)).mono ?_); rintro e w' ⟨rfl, rfl⟩) | (go_at_call 61; (with_reducible refine (inS_no _ _ _ _ H7.out).mono ?_); rintro e w' ⟨rfl, rfl⟩))
   refine bodyPost_ret (v := .agg #[.int .i64 0, .int .i64 0, .slice none 0 0]) (by simp [results, Try.results116, go_sem]) rfl ?_
   rw [HA.out]
   exact zeroIm_ans (by repeat (first | exact hw | refine Below.setCell ?_ (by simp) _))
  ·have h7 : W < 1 ∨ 16 < W := by omega
   have H7 := Lib.hid h7
   clear h7 hs h1
   go_enter Try.func116, Try.ntmps116
   go_wp2_with (first | (go_at_call 61; (with_reducible refine (inS_no _ _ _ _ H7.out).mono ?_); rintro e w' ⟨rfl, rfl⟩))
   refine bodyPost_ret (v := .agg #[.int .i64 0, .int .i64 0, .slice none 0 0]) (by simp [results, Try.results116, go_sem]) rfl ?_
   rw [HA.out]
   exact zeroIm_ans (by repeat (first | exact hw | refine Below.setCell ?_ (by simp) _))
end Go.Proofs.Ytokniebejilcbaa
namespace Go.Proofs.Ytokniebejilcbaa
open Go.RowKit
theorem plc_div {W x : Nat} (y : Nat) (hx : x < W) : (y * W + x) / W = y := by
 rw [Nat.mul_comm, Nat.mul_add_div (by omega), Nat.div_eq_of_lt hx, Nat.add_zero]
theorem plc_mod {W x : Nat} (y : Nat) (hx : x < W) : (y * W + x) % W = x := by
 rw [Nat.mul_comm, Nat.mul_add_mod, Nat.mod_eq_of_lt hx]
theorem plc_eq (k W : Nat) : k / W * W + k % W = k := by rw [Nat.mul_comm]; exact Nat.div_add_mod k W
theorem plc_lt {W H x y : Nat} (hx : x < W) (hy : y < H) : y * W + x < W * H := by
 have h1 : (y + 1) * W ≤ H * W := Nat.mul_le_mul_right _ hy
 rw [Nat.add_mul, Nat.one_mul, Nat.mul_comm H W] at h1
 omega
theorem plc_row {W H k : Nat} (h : k < W * H) : k / W < H := Nat.div_lt_of_lt_mul h
theorem plc_iff {W x : Nat} (y k : Nat) (hx : x < W) : k = y * W + x ↔ k / W = y ∧ k % W = x := by
 constructor
 ·rintro rfl; exact ⟨plc_div y hx, plc_mod y hx⟩
 ·rintro ⟨rfl, rfl⟩; exact (plc_eq k W).symm
theorem plc_pos {W H k : Nat} (h : k < W * H) : 0 < W := by
 rcases Nat.eq_zero_or_pos W with rfl | h0
 ·simp at h
 ·exact h0
theorem im_nat {X Y : Int} {L : List Int} (h : imOk X Y L) : ∃ W H : Nat, X = W ∧ Y = H ∧ 1 ≤ W ∧ W ≤ 16 ∧ 1 ≤ H ∧ H ≤ 16 ∧ L.length = W * H := by
 obtain ⟨⟨s1, s2, s3, s4⟩, hl, _⟩ := h
 obtain ⟨W, rfl⟩ := Int.eq_ofNat_of_zero_le (show 0 ≤ X by omega)
 obtain ⟨H, rfl⟩ := Int.eq_ofNat_of_zero_le (show 0 ≤ Y by omega)
 exact ⟨W, H, rfl, rfl, by omega, by omega, by omega, by omega, by exact_mod_cast hl⟩
theorem mul_256 {W H : Nat} (h1 : W ≤ 16) (h2 : H ≤ 16) : W * H ≤ 256 := Nat.mul_le_mul h1 h2
def copyF (W W2 H2 : Nat) (L F : List Int) (g : Nat → Bool) : Nat → Int := fun k =>
 if k % W < W2 ∧ k / W < H2 ∧ g (k / W * 16 + k % W) = true then F.getD (k / W * W2 + k % W) 0 else L.getD k 0
open Classical in
noncomputable def copyIm (X Y : Int) (L : List Int) (X2 Y2 : Int) (F : List Int) (R : List Rc) : Im :=
 if imOk X Y L ∧ imOk X2 Y2 F ∧ okL R = true then ⟨X, Y, tabI L.length (copyF X.toNat X2.toNat Y2.toNat L F (gridOf R))⟩ else ⟨X, Y, L⟩
theorem copy_yes {X Y X2 Y2 : Int} {L F : List Int} {R : List Rc} (h1 : imOk X Y L) (h2 : imOk X2 Y2 F) (h3 : okL R = true) :
  copyIm X Y L X2 Y2 F R = ⟨X, Y, tabI L.length (copyF X.toNat X2.toNat Y2.toNat L F (gridOf R))⟩ := if_pos ⟨h1, h2, h3⟩
theorem copy_no {X Y X2 Y2 : Int} {L F : List Int} {R : List Rc} (h : ¬ (imOk X Y L ∧ imOk X2 Y2 F ∧ okL R = true)) : copyIm X Y L X2 Y2 F R = ⟨X, Y, L⟩ := if_neg h
theorem gridOf_one (r : Rc) (k : Nat) : gridOf [r] k = hasB r (k % 16 : Nat) (k / 16 : Nat) := by
 rw [Bool.eq_iff_iff, gridOf_iff]
 unfold hasB
 rw [decide_eq_true_iff]
 constructor
 ·rintro ⟨s, hs, h⟩
  obtain rfl := List.mem_singleton.1 hs
  exact h
 ·intro h
  exact ⟨r, List.mem_singleton.2 rfl, h⟩
end Go.Proofs.Ytokniebejilcbaa
namespace Go.Proofs.Ytokniebejilcbaa
open Go.RowKit
theorem size26 : (Try.prog.info? 32).map (·.size) = some 3 := by kernel_rfl
theorem wp_store_im {op : Oper} {a : Act} {w : World} {K : Act → World → Prop} {Q : Exit → Act → World → Prop} (t : TypeId) (hsz : (Try.prog.info? t).map (·.size) = some 3) (x y : Operand) (ho : op.op = .store t x y)
  (b : Nat) (X0 Y0 : Int) (v0 : Value) (X Y : Int) (A : Option Addr) (n c : Nat) (hx : a.eval x = .pointer (some ⟨b, 0, none⟩)) (hy : a.eval y = .agg #[.int .i64 X, .int .i64 Y, .slice A n c]) (hI : ImAt w b t X0 Y0 v0)
  (h : ∀ W', ImAt W' b t X Y (.slice A n c) → w.grownBy W' (some b) → K (a.put op.dst undef) W') : op.wp Try.prog a w K Q := by
 have hs : (storeVar t ⟨b, 0, none⟩ (.agg #[.int .i64 X, .int .i64 Y, .slice A n c])).run Try.prog w = .ok () (w.setRow b #[.int .i64 X, .int .i64 Y, .slice A n c]) :=
  run_storeVar_row w b _ _ #[.int .i64 X0, .int .i64 Y0, v0] #[.int .i64 X, .int .i64 Y, .slice A n c] hI hsz rfl (by simp [Value.oneCell'])
 have h1 := h (w.setRow b #[.int .i64 X, .int .i64 Y, .slice A n c]) (setRow_heap w b _ _ t _ hI) ⟨rfl, rfl, rfl, by simp [World.setRow], fun k _ hk => setRow_other w b k _ (fun e => hk (by rw [e]))⟩
 unfold Oper.wp execOp
 simp only [ho, hx, hy, Instr.storeAt, Instr.sureAddr, Sem.run_bind, Sem.run_pure, Result.andThen_ok, hs]
 exact h1
theorem run_build0I (w : World) : (Instr.buildSlice 26 0 #[]).run Try.prog w = .ok (.slice (some ⟨w.heap.size, 0, none⟩) 0 0) (w.alloc (.cells #[] 3)) := by
 kernel_rfl
theorem wp_build0I {op : Oper} {a : Act} {w : World} {K : Act → World → Prop} {Q : Exit → Act → World → Prop} (d : Nat) (ho : op.op = .buildSlice 26 0 #[]) (hd : op.dst = some d)
  (h : ∀ v W', Below w.heap.size w W' → W'.ownsRow w.heap.size 3 1 v 0 [] → K (a.put (some d) v) W') : op.wp Try.prog a w K Q := by
 have h1 := h (.slice (some ⟨w.heap.size, 0, none⟩) 0 0) (w.alloc (.cells #[] 3)) (belI_box _ _)
  ⟨rfl, .inr ⟨w.heap.size, 0, #[], rfl, Nat.le_refl _, heap_alloc_new w _, Nat.le_refl _, by unfold maxLen; omega, rfl, rfl⟩⟩
 have hz := run_build0I w
 unfold Oper.wp execOp
 simp only [ho, List.map_toArray, List.map_nil, Sem.run_bind, hz, Result.andThen_ok, Sem.run_pure]
 rw [← hd] at h1
 exact h1
theorem run_append_noneI {P : Program} (w : World) (base : Nat) (t ty e : TypeId) (i : TypeInfo) (size : Nat) (ht : P.underlying t = some (.slice e)) (hi : P.info? e = some i)
  (v : Value) (n : Nat) (xs : List Value) (hown : w.ownsRow base e size v n xs) :
  (Builtin.append_ #[t, t] ty #[v, .slice none 0 0]).run P w = .ok v w := by
 rcases hown.2 with ⟨rfl, rfl⟩ | ⟨g, cap, cur, rfl, _, _, hn, _, _, _⟩
 ·simp [Builtin.append_, run_underlying ht, sizeOf, typeInfo, hi, Builtin.lenOf, Builtin.firstCells]
 ·simp [Builtin.append_, run_underlying ht, sizeOf, typeInfo, hi, Builtin.lenOf, Builtin.firstCells, loadCells, storeCells, hn]
theorem wp_appendI {o : Oper} {a : Act} {w : World} {K : Act → World → Prop} {Q : Exit → Act → World → Prop} (s x : Operand)
  (ho : o.op = .call { callee := .builtin .append, args := #[s, x], argTypes := #[26, 26] })
  (base : Nat) (v : Value) (n : Nat) (xs : List Value) (hs : a.eval s = v) (hown : w.ownsRow base 3 1 v n xs)
  (u : Value) (L : List Int) (hx : a.eval x = u) (hu : RdI w u L) (h63 : n + L.length ≤ 17592186044416) (hbase : base ≤ w.heap.size)
  (h : ∀ v' w', w'.ownsRow base 3 1 v' (n + L.length) (xs ++ intCells L) → w.grownBy w' v.ownBlock → (v'.ownBlock = v.ownBlock ∨ v'.ownBlock = some w.heap.size) → K (a.put o.dst v') w') : o.wp Try.prog a w K Q := by
 obtain ⟨i0, hi, hz0, hz1, hz2⟩ := info_parts infoInt
 rcases hu with ⟨rfl, rfl⟩ | ⟨g, c, rfl, hm, hlc, hc⟩
 ·have hr := run_append_noneI w base 26 o.type 3 i0 1 Try.underlying26 hi v n xs hown
  unfold Oper.wp execOp
  simp only [ho, resolve, invoke, builtin, Sem.run_bind, Sem.run_pure, Result.andThen_ok, List.map_toArray, List.map_cons, List.map_nil, hs, hx, hr]
  exact h v w (by simpa [intCells] using hown) ⟨rfl, rfl, rfl, Nat.le_refl _, fun _ _ _ => rfl⟩ (.inl rfl)
 ·obtain ⟨v', w', hr, h2, h3, _, h5⟩ := run_append_own_at (P := Try.prog) w base 26 o.type 3 i0 (.int .i64 0) 1 8 Try.underlying26 hi hz0 hz1 hz2 rfl (by decide) v n xs hown ⟨g, 0, none⟩ L.length c (intCells L) (by rw [intCells_length, Nat.mul_one])
   (fun j w' hj => by
    rw [intCells_get] at hj
    obtain ⟨y, hy, rfl⟩ := Option.map_eq_some_iff.1 hj
    rw [addr_add]
    exact hc j y hy) (intCells_one _) (by unfold maxLen; omega) (by omega) hbase
  unfold Oper.wp execOp
  simp only [ho, resolve, invoke, builtin, Sem.run_bind, Sem.run_pure, Result.andThen_ok, List.map_toArray, List.map_cons, List.map_nil, hs, hx, hr]
  exact h v' w' h2 h3 h5
end Go.Proofs.Ytokniebejilcbaa
namespace Go.Proofs.Ytokniebejilcbaa
open Go.RowKit
theorem ownI_ne {v : Value} {b : Nat} (h : ∀ g, v.ownBlock = some g → g ≠ b) : v.ownBlock = none ∨ v.ownBlock ≠ some b := by
 by_cases hv : v.ownBlock = none
 ·exact .inl hv
 ·exact .inr fun e => h b e rfl
theorem l05_end {w W : World} {X Y : Int} {A : Option Addr} {c B : Nat} {L : List Int} (h : W.ownsRow B 3 1 (.slice A (0 + L.length) c) (0 + L.length) ([] ++ intCells L)) (hB : w.heap.size ≤ B) (K : Below w.heap.size w W) :
  ImAns X Y L w (.returned (.agg #[.int .i64 X, .int .i64 Y, .slice A (0 + L.length) c])) W := by
 rw [Nat.zero_add, List.nil_append] at h
 rw [Nat.zero_add]
 exact ⟨_, rfl, h.mono hB, K⟩
set_option maxHeartbeats 600000 in
set_option maxRecDepth 10000 in
theorem l05Copy_any (X Y : Int) (v : Value) (L : List Int) (w : World) (hm : L.length ≤ 2097152) (hv : RdI w v L) :
  Calls Try.prog 80 #[.agg #[.int .i64 X, .int .i64 Y, v]] w (ImAns X Y L w) := by
 obtain ⟨A, c, rfl⟩ := hv.form
 have Hm := Lib.hid hm
 obtain ⟨w0, hw0⟩ : ∃ w0, w0 = w.alloc (.cells #[.int .i64 X, .int .i64 Y, .slice A L.length c] 32) := ⟨_, rfl⟩
 have hz : w0.heap.size = w.heap.size + 1 := by rw [hw0]; simp
 have hb0 : Below w.heap.size w w0 := by rw [hw0]; exact belI_box _ _
 have hv2 : RdI w0 (.slice A L.length c) L := by rw [hw0]; exact hv.alloc _
 have hC : ImAt w0 w.heap.size 32 X Y (.slice A L.length c) := by rw [hw0]; exact ImAt.new _ _ _ _ _
 have hR : ImAt (w0.alloc (.cells #[.int .i64 0, .int .i64 0, .slice none 0 0] 32)).drew (w.heap.size + 1) 32 0 0 (.slice none 0 0) := ImAt.newAt hz _ _ _ _
 have hst : Below w0.heap.size w0 (w0.alloc (.cells #[.int .i64 0, .int .i64 0, .slice none 0 0] 32)).drew := (belI_box _ _).drew
 rw [hw0] at hst hR
 clear hm hv
 go_enter Try.func80, Try.ntmps80
 go_upto_region 1 with fail
 rw [← hw0] at *
 refine wp_region_held_drew (S := fun W => Below w0.heap.size w0 W) (by kernel_rfl) hst (fun hS => ?_)
 refine tcH (i := 0) (v := .pointer (some ⟨w.heap.size, 0, none⟩)) rfl (by intro w' hSw; (try dsimp only at hSw); (obtain ⟨c0, c1, c2⟩ := (hC.call hSw).cells); go_simp) ?_
 refine tcH (i := 1) (v := .int .i64 X) rfl (by intro w' hSw; (try dsimp only at hSw); (obtain ⟨c0, c1, c2⟩ := (hC.call hSw).cells); go_simp) ?_
 refine tcH (i := 2) (v := .pointer (some ⟨w.heap.size, 1, none⟩)) rfl (by intro w' hSw; (try dsimp only at hSw); (obtain ⟨c0, c1, c2⟩ := (hC.call hSw).cells); go_simp) ?_
 refine tcH (i := 3) (v := .int .i64 Y) rfl (by intro w' hSw; (try dsimp only at hSw); (obtain ⟨c0, c1, c2⟩ := (hC.call hSw).cells); go_simp) ?_
 refine tcH (i := 5) (v := .pointer (some ⟨w.heap.size, 2, none⟩)) rfl (by intro w' hSw; (try dsimp only at hSw); (obtain ⟨c0, c1, c2⟩ := (hC.call hSw).cells); go_simp) ?_
 refine tcH (i := 6) (v := .slice A L.length c) rfl (by intro w' hSw; (try dsimp only at hSw); (obtain ⟨c0, c1, c2⟩ := (hC.call hSw).cells); go_simp) ?_
 (try simp only [Act.put]); (try simp only [zPa]); (try simp only [zPb, zPc])
 refine wpAnyH_ready (rs := [4]) (by kernel_rfl) (by simp) ?_
 refine (AllReadyH.cons rfl (fun K hK => ?_) AllReadyH.nil)
 ·rw [if_pos (by kernel_rfl)]
  (try simp only [zGa]); (try simp only [zGb]); (try simp only [zGc])
  have hRl := hR.lt
  refine wp_build0I 7 rfl rfl ?_
  intro v0 W' hb own0
  have hR := hR.call hb
  refine hK.out _ _ (belI_call hS hb) (fun hS => ?_)
  clear hK
  (try simp only [Act.put]); (try simp only [zPa]); (try simp only [zPb, zPc])
  refine wpAnyH_ready (rs := [7]) (by kernel_rfl) (by simp) ?_
  refine (AllReadyH.cons rfl (fun K hK => ?_) AllReadyH.nil)
  ·rw [if_pos (by kernel_rfl)]
   (try simp only [zGa]); (try simp only [zGb]); (try simp only [zGc])
   refine wp_appendI (.tmp 7) (.tmp 9) rfl _ v0 0 [] rfl own0 (.slice A L.length c) L rfl (hv2.call hS) (by have := Hm.out; omega) hb.size ?_
   intro v1 W2 hown hg hat
   obtain ⟨Au, cu, hu⟩ := ownI_shape hown
   subst hu
   have hR := hR.grown hg (fun e => by have := (own0.lt _ e.symm).1; omega)
   refine hK.out _ _ (hS.grown hg hS.size (fun k hk => by have := (own0.lt k hk).1; omega)) (fun hS => ?_)
   clear hK
   (try simp only [Act.put]); (try simp only [zPa]); (try simp only [zPb, zPc])
   refine tcH (i := 8) (v := .agg #[.int .i64 X, .int .i64 Y, .slice Au (0 + L.length) cu]) rfl (by intro w' hSw; (try dsimp only at hSw); (obtain ⟨c0, c1, c2⟩ := (hC.call hSw).cells); go_simp) ?_
   (try simp only [Act.put]); (try simp only [zPa]); (try simp only [zPb, zPc])
   refine wpAnyH_ready (rs := [9]) (by kernel_rfl) (by simp) ?_
   refine (AllReadyH.cons rfl (fun K hK => ?_) AllReadyH.nil)
   ·rw [if_pos (by kernel_rfl)]
    (try simp only [zGa]); (try simp only [zGb]); (try simp only [zGc])
    refine wp_store_im 32 size26 (.tmp 2) (.tmp 11) rfl (w.heap.size + 1) 0 0 (.slice none 0 0) X Y Au (0 + L.length) cu rfl rfl hR ?_
    intro W3 hI hg3
    skip
    refine hK.out _ _ (hS.grown hg3 hS.size (fun k hk => by injection hk with hk; omega)) (fun hS => ?_)
    clear hK
    (try simp only [Act.put]); (try simp only [zPa]); (try simp only [zPb, zPc])
    refine wpAnyH_done (by kernel_rfl) ?_ _
    have hlt := fun g hg => (hown.lt g hg).1
    have hown3 := hown.kept hg3 (ownI_ne (fun g hg => by have := hlt g hg; omega))
    have K := hb0.trans (hS.mono (by omega))
    obtain ⟨x0, x1, x2⟩ := hI.cells
    clear hR hC hv2 hS hb own0 hg hg3 hown hst
    go_wp2_with fail
    exact bodyPost_ret (v := .agg #[.int .i64 X, .int .i64 Y, .slice Au (0 + L.length) cu]) (by simp [results, Try.results80, go_sem, x0, x1, x2]) rfl (l05_end hown3 (by omega) K)
theorem rightI_b (r : Rc) (hr : r.ok) (w : World) :
  Calls Try.prog 105 #[.agg #[.int .i64 r.x, .int .i64 r.y, .int .i64 r.w, .int .i64 r.h]] w fun e w' => e = .returned (.int .i64 (r.x + r.w)) ∧ Below w.heap.size w w' := by
 refine (rightOf_any r hr w).mono ?_
 rintro e w' ⟨rfl, rfl⟩
 exact ⟨rfl, belI_box _ _⟩
end Go.Proofs.Ytokniebejilcbaa
namespace Go.Proofs.Ytokniebejilcbaa
open Go.RowKit
theorem ans_set {w W : World} {lo b n : Nat} {X Y : Int} {A : Option Addr} {c : Nat} {L : List Int} (h : W.ownsRow lo 3 1 (.slice A n c) n (intCells L)) (hn : L.length = n) (hb1 : w.heap.size ≤ b) (hb2 : b < lo) (K : Below w.heap.size w W) :
  ImAns X Y L w (.returned (.agg #[.int .i64 X, .int .i64 Y, .slice A n c])) (((W.setCell ⟨b, 0, none⟩ (.int .i64 X)).setCell ⟨b, 1, none⟩ (.int .i64 Y)).setCell ⟨b, 2, none⟩ (.slice A n c)) := by
 subst hn
 have hlt := fun g hg => (h.lt g hg).1
 exact ⟨_, rfl, ownI_far (ownI_far (ownI_far (h.mono (by omega)) (fun g hg => by have := hlt g hg; dsimp only; omega) _) (fun g hg => by have := hlt g hg; dsimp only; omega) _) (fun g hg => by have := hlt g hg; dsimp only; omega) _, ((K.setCell hb1 _).setCell hb1 _).setCell hb1 _⟩
theorem grown_setI (w : World) (g o : Nat) (v : Value) : w.grownBy (w.setCell ⟨g, o, none⟩ v) (some g) :=
 ⟨rfl, rfl, rfl, by simp, fun k _ hk => Below.heap_setCell w ⟨g, o, none⟩ v k (fun e => hk (by rw [e]))⟩
theorem rd_block {w : World} {u : Value} {F : List Int} (h : RdI w u F) (h0 : 0 < F.length) : ∃ g c, u = .slice (some ⟨g, 0, none⟩) F.length c ∧ g < w.heap.size ∧ F.length ≤ c := by
 rcases h with ⟨_, rfl⟩ | ⟨g, c, rfl, hm, hlc, hc⟩
 ·simp at h0
 ·exact ⟨g, c, rfl, World.block_lt_of_cell? w _ (hc 0 _ (List.getElem?_eq_getElem h0)), hlc⟩
end Go.Proofs.Ytokniebejilcbaa
namespace Go.Proofs.Ytokniebejilcbaa
open Go.RowKit
theorem part_nat (r : Rc) (M2 M : Nat) (a1 : 1 ≤ M2) (a2 : M2 ≤ 16) (b1 : 1 ≤ M) (b2 : M ≤ 16) :
  ∃ X Y n h : Nat, isect r ⟨0, 0, M2, M⟩ = ⟨X, Y, n, h⟩ ∧ X + n ≤ M2 ∧ Y + h ≤ M ∧ (h = 0 ∨ 1 ≤ n) ∧ ∀ p q : Nat, ((X ≤ p ∧ p < X + n ∧ Y ≤ q ∧ q < Y + h) ↔ (hasB r p q = true ∧ p < M2 ∧ q < M)) := by
 have hf : (⟨0, 0, M2, M⟩ : Rc).ok := by unfold Rc.ok; dsimp only; omega
 by_cases ho : r.ok
 ·rcases isect_cases r _ ho hf with ⟨hi, e⟩ | ⟨hi, e⟩
  ·rw [e]
   unfold isectRaw
   unfold isectIn at hi
   dsimp only at hi ⊢
   obtain ⟨X, hX⟩ := Int.eq_ofNat_of_zero_le (show 0 ≤ max r.x 0 by omega)
   obtain ⟨Y, hY⟩ := Int.eq_ofNat_of_zero_le (show 0 ≤ max r.y 0 by omega)
   obtain ⟨n, hn⟩ := Int.eq_ofNat_of_zero_le (show 0 ≤ min (r.x + r.w) (0 + (M2 : Int)) - max r.x 0 by omega)
   obtain ⟨h, hh⟩ := Int.eq_ofNat_of_zero_le (show 0 ≤ min (r.y + r.h) (0 + (M : Int)) - max r.y 0 by omega)
   refine ⟨X, Y, n, h, by rw [hn, hh, hX, hY], by omega, by omega, by omega, fun p q => ?_⟩
   unfold hasB
   rw [decide_eq_true_iff]
   constructor
   ·intro k; exact ⟨⟨ho, by omega⟩, by omega, by omega⟩
   ·rintro ⟨⟨_, k⟩, k1, k2⟩; omega
  ·refine ⟨0, 0, 0, 0, e, by omega, by omega, .inl rfl, fun p q => ?_⟩
   unfold hasB
   rw [decide_eq_true_iff]
   unfold isectIn at hi
   dsimp only at hi
   constructor
   ·intro k; omega
   ·rintro ⟨⟨_, k⟩, k1, k2⟩; omega
 ·refine ⟨0, 0, 0, 0, isect_no fun h => ho h.1, by omega, by omega, .inl rfl, fun p q => ?_⟩
  unfold hasB
  rw [decide_eq_true_iff]
  constructor
  ·intro k; omega
  ·rintro ⟨⟨k, _⟩, _⟩; exact absurd k ho
end Go.Proofs.Ytokniebejilcbaa
namespace Go.Proofs.Ytokniebejilcbaa
open Go.RowKit
theorem okL_canon (g : Nat → Bool) : okL (canon g) = true := by
 unfold okL; rw [canon_idem]; exact sameL_yes rfl
noncomputable def fillIm (X Y : Int) (L : List Int) (r : Rc) (p : Int) : Im := copyIm X Y L (newIm X Y p).w (newIm X Y p).h (newIm X Y p).d (canon (gridOf [r]))
def rectF (W : Nat) (L : List Int) (r : Rc) (p : Int) : Nat → Int := fun k => if hasB r (k % W : Nat) (k / W : Nat) = true then p else L.getD k 0
theorem flat_ok {W H p : Int} (h : szOk W H) (hp : pixOk p) : imOk W H (flatN W H p) :=
 ⟨h, by unfold flatN; rw [tabI_length]; exact Int.toNat_of_nonneg (sz_mul h).1, fun k x hx => by obtain ⟨j, _, rfl⟩ := tabI_mem (List.mem_of_getElem? hx); exact hp⟩
theorem fill_val (W H : Nat) (L : List Int) (r : Rc) (p : Int) (h1 : imOk W H L) (hp : pixOk p) (hL : L.length = W * H) (wh : W ≤ 16) (hh : H ≤ 16) :
  fillIm W H L r p = ⟨W, H, tabI L.length (rectF W L r p)⟩ := by
 unfold fillIm
 rw [new_yes h1.1 hp]
 dsimp only
 rw [copy_yes h1 (flat_ok h1.1 hp) (okL_canon _)]
 congr 1
 refine tabI_congr _ fun k hk => ?_
 rw [hL] at hk
 have h2 := plc_row hk
 have h3 := Nat.mod_lt k (plc_pos hk)
 have h4 := plc_eq k W
 unfold copyF rectF
 simp only [Int.toNat_natCast]
 rw [gridOf_canon _ _ (by omega), gridOf_one, show (k / W * 16 + k % W) % 16 = k % W by omega, show (k / W * 16 + k % W) / 16 = k / W by omega]
 by_cases h : hasB r (k % W : Nat) (k / W : Nat) = true
 ·rw [if_pos h, if_pos ⟨h3, h2, h⟩, h4]
  unfold flatN
  exact tabI_getD _ _ _ (by rw [← Int.natCast_mul, Int.toNat_natCast]; exact hk)
 ·rw [if_neg h, if_neg fun h' => h h'.2.2]
theorem fill_no {X Y : Int} {L : List Int} {r : Rc} {p : Int} (h : ¬ (imOk X Y L ∧ r.ok ∧ pixOk p)) : fillIm X Y L r p = ⟨X, Y, L⟩ := by
 by_cases h1 : imOk X Y L
 ·by_cases hp : pixOk p
  ·obtain ⟨W, H, rfl, rfl, _, wh, _, hh, hL⟩ := im_nat h1
   rw [fill_val W H L r p h1 hp hL wh hh]
   congr 1
   exact (tabI_ext rfl fun k x hx => by
    unfold rectF
    rw [if_neg (by rw [has_no (fun h' => h ⟨h1, h'.1, hp⟩)]; simp), List.getD_eq_getElem?_getD, hx]; rfl).symm
  ·unfold fillIm
   rw [new_no fun h' => hp h'.2]
   exact copy_no fun h' => by have := h'.2.1.1; unfold szOk zeroIm at this; dsimp only at this; omega
 ·exact copy_no fun h' => h1 h'.1
def rectS (W : Nat) (p : Int) (f : Nat → Int) (X Y n y x : Nat) : Nat → Int := fun k =>
 if X ≤ k % W ∧ k % W < X + n ∧ Y ≤ k / W ∧ (k / W < y ∨ k / W = y ∧ k % W < x) then p else f k
theorem rectS_start (W : Nat) (p : Int) (f : Nat → Int) (X Y n k : Nat) : rectS W p f X Y n Y X k = f k := if_neg (by omega)
theorem rectS_row (W : Nat) (p : Int) (f : Nat → Int) (X Y n y k : Nat) : rectS W p f X Y n y (X + n) k = rectS W p f X Y n (y + 1) X k := by
 unfold rectS
 by_cases h : X ≤ k % W ∧ k % W < X + n ∧ Y ≤ k / W ∧ (k / W < y ∨ k / W = y ∧ k % W < X + n)
 ·rw [if_pos h, if_pos (by omega)]
 ·rw [if_neg h, if_neg (by omega)]
theorem rectS_set (W : Nat) (p : Int) (f : Nat → Int) (X Y n y x k : Nat) (hW : x < W) (hx : X ≤ x) (hx2 : x < X + n) (hy : Y ≤ y) :
  (if k = y * W + x then p else rectS W p f X Y n y x k) = rectS W p f X Y n y (x + 1) k := by
 by_cases e : k = y * W + x
 ·rw [if_pos e]
  obtain ⟨e1, e2⟩ := (plc_iff y k hW).1 e
  unfold rectS
  rw [e1, e2, if_pos ⟨hx, hx2, hy, by omega⟩]
 ·rw [if_neg e]
  have e' := mt (plc_iff y k hW).2 e
  unfold rectS
  by_cases h : X ≤ k % W ∧ k % W < X + n ∧ Y ≤ k / W ∧ (k / W < y ∨ k / W = y ∧ k % W < x)
  ·rw [if_pos h, if_pos (by omega)]
  ·rw [if_neg h, if_neg (by omega)]
theorem rectS_end (W H : Nat) (p : Int) (L : List Int) (r : Rc) (X Y n h k : Nat) (hk : k < W * H) (hI : ∀ p q : Nat, ((X ≤ p ∧ p < X + n ∧ Y ≤ q ∧ q < Y + h) ↔ (hasB r p q = true ∧ p < W ∧ q < H))) :
  rectS W p (fun k => L.getD k 0) X Y n (Y + h) X k = rectF W L r p k := by
 have h1 := plc_row hk
 have h2 := Nat.mod_lt k (plc_pos hk)
 have hi := hI (k % W) (k / W)
 unfold rectS rectF
 by_cases c : X ≤ k % W ∧ k % W < X + n ∧ Y ≤ k / W ∧ k / W < Y + h
 ·rw [if_pos (by omega), if_pos (hi.1 c).1]
 ·rw [if_neg (by omega), if_neg fun e => c (hi.2 ⟨e, h2, h1⟩)]
structure FlA (w : World) (X Y : Int) (v : Value) (r : Rc) (W : World) : Prop where
 a : ImAt W w.heap.size 32 X Y v
 b : RcAt W (w.heap.size + 1) r
 bw : Below w.heap.size w W
theorem FlA.call {w : World} {X Y : Int} {v : Value} {r : Rc} {W W' : World} (h : FlA w X Y v r W) (k : Below W.heap.size W W') : FlA w X Y v r W' :=
 ⟨h.a.call k, h.b.below k h.b.lt, belI_call h.bw k⟩
theorem FlA.grown {w : World} {X Y : Int} {v : Value} {r : Rc} {W W' : World} {g : Nat} (h : FlA w X Y v r W) (hg : W.grownBy W' (some g)) (hk : w.heap.size + 2 ≤ g) : FlA w X Y v r W' :=
 ⟨h.a.grown hg (by simp; omega), (hg.block _ h.b.lt (by simp; omega)).trans h.b, h.bw.grown hg h.bw.size (fun k hk => by injection hk with hk; omega)⟩
theorem FlA.born (w : World) (X Y : Int) (v : Value) (r : Rc) :
  FlA w X Y v r (((w.alloc (.cells #[.int .i64 X, .int .i64 Y, v] 32)).alloc (.cells #[.int .i64 r.x, .int .i64 r.y, .int .i64 r.w, .int .i64 r.h] 94)).alloc (.cells #[.int .i64 0, .int .i64 0, .slice none 0 0] 32)) :=
 ⟨((ImAt.new w _ _ _ _).alloc _).alloc _, (RcAt.newAt (w := w.alloc (.cells #[.int .i64 X, .int .i64 Y, v] 32)) (by simp) r).alloc _, belI_call (belI_call (belI_box _ _) (belI_box _ _)) (belI_box _ _)⟩
theorem fl_res (w : World) (X Y : Int) (v : Value) (r : Rc) :
  ImAt (((w.alloc (.cells #[.int .i64 X, .int .i64 Y, v] 32)).alloc (.cells #[.int .i64 r.x, .int .i64 r.y, .int .i64 r.w, .int .i64 r.h] 94)).alloc (.cells #[.int .i64 0, .int .i64 0, .slice none 0 0] 32)) (w.heap.size + 2) 32 0 0 (.slice none 0 0) :=
 ImAt.newAt (w := (w.alloc (.cells #[.int .i64 X, .int .i64 Y, v] 32)).alloc (.cells #[.int .i64 r.x, .int .i64 r.y, .int .i64 r.w, .int .i64 r.h] 94)) (by simp) _ _ _ _
end Go.Proofs.Ytokniebejilcbaa
namespace Go.Proofs.Ytokniebejilcbaa
open Go.RowKit
theorem partS (r : Rc) (M2 M : Nat) (a1 : 1 ≤ M2) (a2 : M2 ≤ 16) (b1 : 1 ≤ M) (b2 : M ≤ 16) (w : World) :
  Calls Try.prog 96 #[.agg #[.int .i64 r.x, .int .i64 r.y, .int .i64 r.w, .int .i64 r.h], .agg #[.int .i64 0, .int .i64 0, .int .i64 M2, .int .i64 M]] w
   fun e w' => (∃ X Y n h : Nat, e = .returned (.agg #[.int .i64 X, .int .i64 Y, .int .i64 n, .int .i64 h]) ∧ X + n ≤ M2 ∧ Y + h ≤ M ∧ (h = 0 ∨ 1 ≤ n) ∧ Hid (∀ p q : Nat, ((X ≤ p ∧ p < X + n ∧ Y ≤ q ∧ q < Y + h) ↔ (hasB r p q = true ∧ p < M2 ∧ q < M)))) ∧ Below w.heap.size w w' := by
 refine (isectS_any r ⟨0, 0, M2, M⟩ w).mono ?_
 rintro e w' ⟨rfl, hb⟩
 obtain ⟨X, Y, n, h, he, h1, h2, h3, h4⟩ := part_nat r M2 M a1 a2 b1 b2
 exact ⟨⟨X, Y, n, h, by rw [he], h1, h2, h3, h4⟩, hb⟩
set_option maxHeartbeats 1000000 in
set_option maxRecDepth 10000 in
theorem fillS_bad1 (X Y : Int) (v : Value) (L : List Int) (r : Rc) (p : Int) (w : World) (hm : L.length ≤ 2097152) (hv : RdI w v L) (h1 : ¬ imOk X Y L) :
  Calls Try.prog 118 #[.agg #[.int .i64 X, .int .i64 Y, v], .agg #[.int .i64 r.x, .int .i64 r.y, .int .i64 r.w, .int .i64 r.h], .int .i64 p] w (AnsIm (fillIm X Y L r p) w) := by
 have HA : Hid (fillIm X Y L r p = ⟨X, Y, L⟩) := Lib.hid (fill_no fun h => h1 h.1)
 have Ho := Lib.hid h1
 clear h1
 have Hm := Lib.hid hm
 obtain ⟨A, c, rfl⟩ := hv.form
 have hS := FlA.born w X Y (.slice A L.length c) r
 have hd := fl_res w X Y (.slice A L.length c) r
 have hv0 := (((hv.alloc (.cells #[.int .i64 X, .int .i64 Y, .slice A L.length c] 32)).alloc (.cells #[.int .i64 r.x, .int .i64 r.y, .int .i64 r.w, .int .i64 r.h] 94)).alloc (.cells #[.int .i64 0, .int .i64 0, .slice none 0 0] 32))
 clear hm hv
 obtain ⟨a0, a1, a2⟩ := hS.a.cells
 go_enter Try.func118, Try.ntmps118
 go_wp2_with fail
 refine (l05Copy_any X Y _ L _ Hm.out hv0).mono ?_
 rintro e w1 ⟨vo, rfl, hown, hb⟩
 obtain ⟨Ao, co, hvo⟩ := ownI_shape hown
 subst hvo
 have hv1 := hv0.call hb
 have hS1 := hS.call hb
 have hd1 := hd.call hb
 have hO := ImV.born (X := X) (Y := Y) hb hown
 have hl : w.heap.size + 3 ≤ (((w.alloc (.cells #[.int .i64 X, .int .i64 Y, .slice A L.length c] 32)).alloc (.cells #[.int .i64 r.x, .int .i64 r.y, .int .i64 r.w, .int .i64 r.h] 94)).alloc (.cells #[.int .i64 0, .int .i64 0, .slice none 0 0] 32)).heap.size := by simp
 obtain ⟨lo, hlo⟩ : ∃ lo, lo = (((w.alloc (.cells #[.int .i64 X, .int .i64 Y, .slice A L.length c] 32)).alloc (.cells #[.int .i64 r.x, .int .i64 r.y, .int .i64 r.w, .int .i64 r.h] 94)).alloc (.cells #[.int .i64 0, .int .i64 0, .slice none 0 0] 32)).heap.size := ⟨_, rfl⟩
 rw [← hlo] at hO hl
 replace hS := hS1.call (belI_box w1 (.cells #[.int .i64 X, .int .i64 Y, .slice Ao L.length co] 32))
 replace hd := hd1.call (belI_box w1 (.cells #[.int .i64 X, .int .i64 Y, .slice Ao L.length co] 32))
 have hv := hv1.call (belI_box w1 (.cells #[.int .i64 X, .int .i64 Y, .slice Ao L.length co] 32))
 clear hown hb hS1 hd1 hv1 hv0 a0 a1 a2 hlo
 obtain ⟨a0, a1, a2⟩ := hS.a.cells
 go_wp2_with fail
 refine (imS X Y _ L _ hv).mono ?_
 rintro e w2 ⟨rfl, hb⟩
 replace hS := hS.call hb
 replace hd := hd.call hb
 replace hO := hO.call hb
 clear hb hv a0 a1 a2
 rw [imB_no Ho.out]
 obtain ⟨d0, d1, d2⟩ := hd.cells
 obtain ⟨o0, o1, o2⟩ := hO.cells
 have f0 := hd.frozen 0
 have f1 := hd.frozen 1
 have f2 := hd.frozen 2
 go_wp2_with fail
 have j := hd.set3 X Y (.slice Ao L.length co)
 obtain ⟨x0, x1, x2⟩ := j.cells
 refine bodyPost_ret (v := .agg #[.int .i64 X, .int .i64 Y, .slice Ao L.length co]) (by simp [results, Try.results118, go_sem, x0, x1, x2]) rfl ?_
 unfold AnsIm
 rw [HA.out]
 exact ans_set hO.own rfl (by omega) (by omega) hS.bw
set_option maxHeartbeats 1000000 in
set_option maxRecDepth 10000 in
theorem fillS_bad2 (X Y : Int) (v : Value) (L : List Int) (r : Rc) (p : Int) (w : World) (hm : L.length ≤ 2097152) (hv : RdI w v L) (h1 : imOk X Y L) (h2 : ¬ r.ok) :
  Calls Try.prog 118 #[.agg #[.int .i64 X, .int .i64 Y, v], .agg #[.int .i64 r.x, .int .i64 r.y, .int .i64 r.w, .int .i64 r.h], .int .i64 p] w (AnsIm (fillIm X Y L r p) w) := by
 have HA : Hid (fillIm X Y L r p = ⟨X, Y, L⟩) := Lib.hid (fill_no fun h => h2 h.2.1)
 have Ho := Lib.hid h1
 have Hr := Lib.hid h2
 clear h1 h2
 have Hm := Lib.hid hm
 obtain ⟨A, c, rfl⟩ := hv.form
 have hS := FlA.born w X Y (.slice A L.length c) r
 have hd := fl_res w X Y (.slice A L.length c) r
 have hv0 := (((hv.alloc (.cells #[.int .i64 X, .int .i64 Y, .slice A L.length c] 32)).alloc (.cells #[.int .i64 r.x, .int .i64 r.y, .int .i64 r.w, .int .i64 r.h] 94)).alloc (.cells #[.int .i64 0, .int .i64 0, .slice none 0 0] 32))
 clear hm hv
 obtain ⟨a0, a1, a2⟩ := hS.a.cells
 go_enter Try.func118, Try.ntmps118
 go_wp2_with fail
 refine (l05Copy_any X Y _ L _ Hm.out hv0).mono ?_
 rintro e w1 ⟨vo, rfl, hown, hb⟩
 obtain ⟨Ao, co, hvo⟩ := ownI_shape hown
 subst hvo
 have hv1 := hv0.call hb
 have hS1 := hS.call hb
 have hd1 := hd.call hb
 have hO := ImV.born (X := X) (Y := Y) hb hown
 have hl : w.heap.size + 3 ≤ (((w.alloc (.cells #[.int .i64 X, .int .i64 Y, .slice A L.length c] 32)).alloc (.cells #[.int .i64 r.x, .int .i64 r.y, .int .i64 r.w, .int .i64 r.h] 94)).alloc (.cells #[.int .i64 0, .int .i64 0, .slice none 0 0] 32)).heap.size := by simp
 obtain ⟨lo, hlo⟩ : ∃ lo, lo = (((w.alloc (.cells #[.int .i64 X, .int .i64 Y, .slice A L.length c] 32)).alloc (.cells #[.int .i64 r.x, .int .i64 r.y, .int .i64 r.w, .int .i64 r.h] 94)).alloc (.cells #[.int .i64 0, .int .i64 0, .slice none 0 0] 32)).heap.size := ⟨_, rfl⟩
 rw [← hlo] at hO hl
 replace hS := hS1.call (belI_box w1 (.cells #[.int .i64 X, .int .i64 Y, .slice Ao L.length co] 32))
 replace hd := hd1.call (belI_box w1 (.cells #[.int .i64 X, .int .i64 Y, .slice Ao L.length co] 32))
 have hv := hv1.call (belI_box w1 (.cells #[.int .i64 X, .int .i64 Y, .slice Ao L.length co] 32))
 clear hown hb hS1 hd1 hv1 hv0 a0 a1 a2 hlo
 obtain ⟨a0, a1, a2⟩ := hS.a.cells
 go_wp2_with fail
 refine (imS X Y _ L _ hv).mono ?_
 rintro e w2 ⟨rfl, hb⟩
 replace hS := hS.call hb
 replace hd := hd.call hb
 replace hO := hO.call hb
 clear hb hv a0 a1 a2
 rw [imB_yes Ho.out]
 obtain ⟨b0, b1, b2, b3⟩ := hS.b.cells
 go_wp2_with fail
 refine (rectOkS_no r Hr.out _).mono ?_
 rintro e w3 ⟨rfl, hb⟩
 replace hS := hS.call hb
 replace hd := hd.call hb
 replace hO := hO.call hb
 clear hb b0 b1 b2 b3
 obtain ⟨d0, d1, d2⟩ := hd.cells
 obtain ⟨o0, o1, o2⟩ := hO.cells
 have f0 := hd.frozen 0
 have f1 := hd.frozen 1
 have f2 := hd.frozen 2
 go_wp2_with fail
 have j := hd.set3 X Y (.slice Ao L.length co)
 obtain ⟨x0, x1, x2⟩ := j.cells
 refine bodyPost_ret (v := .agg #[.int .i64 X, .int .i64 Y, .slice Ao L.length co]) (by simp [results, Try.results118, go_sem, x0, x1, x2]) rfl ?_
 unfold AnsIm
 rw [HA.out]
 exact ans_set hO.own rfl (by omega) (by omega) hS.bw
set_option maxHeartbeats 1000000 in
set_option maxRecDepth 10000 in
theorem fillS_bad3 (X Y : Int) (v : Value) (L : List Int) (r : Rc) (p : Int) (w : World) (hm : L.length ≤ 2097152) (hv : RdI w v L) (h1 : imOk X Y L) (h2 : r.ok) (h3 : ¬ pixOk p) :
  Calls Try.prog 118 #[.agg #[.int .i64 X, .int .i64 Y, v], .agg #[.int .i64 r.x, .int .i64 r.y, .int .i64 r.w, .int .i64 r.h], .int .i64 p] w (AnsIm (fillIm X Y L r p) w) := by
 have HA : Hid (fillIm X Y L r p = ⟨X, Y, L⟩) := Lib.hid (fill_no fun h => h3 h.2.2)
 have Ho := Lib.hid h1
 have Hr := Lib.hid h2
 have Hp := Lib.hid h3
 clear h1 h2 h3
 have Hm := Lib.hid hm
 obtain ⟨A, c, rfl⟩ := hv.form
 have hS := FlA.born w X Y (.slice A L.length c) r
 have hd := fl_res w X Y (.slice A L.length c) r
 have hv0 := (((hv.alloc (.cells #[.int .i64 X, .int .i64 Y, .slice A L.length c] 32)).alloc (.cells #[.int .i64 r.x, .int .i64 r.y, .int .i64 r.w, .int .i64 r.h] 94)).alloc (.cells #[.int .i64 0, .int .i64 0, .slice none 0 0] 32))
 clear hm hv
 obtain ⟨a0, a1, a2⟩ := hS.a.cells
 go_enter Try.func118, Try.ntmps118
 go_wp2_with fail
 refine (l05Copy_any X Y _ L _ Hm.out hv0).mono ?_
 rintro e w1 ⟨vo, rfl, hown, hb⟩
 obtain ⟨Ao, co, hvo⟩ := ownI_shape hown
 subst hvo
 have hv1 := hv0.call hb
 have hS1 := hS.call hb
 have hd1 := hd.call hb
 have hO := ImV.born (X := X) (Y := Y) hb hown
 have hl : w.heap.size + 3 ≤ (((w.alloc (.cells #[.int .i64 X, .int .i64 Y, .slice A L.length c] 32)).alloc (.cells #[.int .i64 r.x, .int .i64 r.y, .int .i64 r.w, .int .i64 r.h] 94)).alloc (.cells #[.int .i64 0, .int .i64 0, .slice none 0 0] 32)).heap.size := by simp
 obtain ⟨lo, hlo⟩ : ∃ lo, lo = (((w.alloc (.cells #[.int .i64 X, .int .i64 Y, .slice A L.length c] 32)).alloc (.cells #[.int .i64 r.x, .int .i64 r.y, .int .i64 r.w, .int .i64 r.h] 94)).alloc (.cells #[.int .i64 0, .int .i64 0, .slice none 0 0] 32)).heap.size := ⟨_, rfl⟩
 rw [← hlo] at hO hl
 replace hS := hS1.call (belI_box w1 (.cells #[.int .i64 X, .int .i64 Y, .slice Ao L.length co] 32))
 replace hd := hd1.call (belI_box w1 (.cells #[.int .i64 X, .int .i64 Y, .slice Ao L.length co] 32))
 have hv := hv1.call (belI_box w1 (.cells #[.int .i64 X, .int .i64 Y, .slice Ao L.length co] 32))
 clear hown hb hS1 hd1 hv1 hv0 a0 a1 a2 hlo
 obtain ⟨a0, a1, a2⟩ := hS.a.cells
 go_wp2_with fail
 refine (imS X Y _ L _ hv).mono ?_
 rintro e w2 ⟨rfl, hb⟩
 replace hS := hS.call hb
 replace hd := hd.call hb
 replace hO := hO.call hb
 clear hb hv a0 a1 a2
 rw [imB_yes Ho.out]
 obtain ⟨b0, b1, b2, b3⟩ := hS.b.cells
 go_wp2_with fail
 refine (rectOkS_yes r Hr.out _).mono ?_
 rintro e w3 ⟨rfl, hb⟩
 replace hS := hS.call hb
 replace hd := hd.call hb
 replace hO := hO.call hb
 clear hb b0 b1 b2 b3
 go_wp2_with fail
 refine (pixS_no p Hp.out _).mono ?_
 rintro e w4 ⟨rfl, rfl⟩
 obtain ⟨d0, d1, d2⟩ := hd.cells
 obtain ⟨o0, o1, o2⟩ := hO.cells
 have f0 := hd.frozen 0
 have f1 := hd.frozen 1
 have f2 := hd.frozen 2
 go_wp2_with fail
 have j := hd.set3 X Y (.slice Ao L.length co)
 obtain ⟨x0, x1, x2⟩ := j.cells
 refine bodyPost_ret (v := .agg #[.int .i64 X, .int .i64 Y, .slice Ao L.length co]) (by simp [results, Try.results118, go_sem, x0, x1, x2]) rfl ?_
 unfold AnsIm
 rw [HA.out]
 exact ans_set hO.own rfl (by omega) (by omega) hS.bw
set_option maxHeartbeats 1000000 in
set_option maxRecDepth 10000 in
theorem fillS_ok (X Y : Int) (v : Value) (L : List Int) (r : Rc) (p : Int) (w : World) (hm : L.length ≤ 2097152) (hv : RdI w v L) (h1 : imOk X Y L) (h2 : r.ok) (h3 : pixOk p) :
  Calls Try.prog 118 #[.agg #[.int .i64 X, .int .i64 Y, v], .agg #[.int .i64 r.x, .int .i64 r.y, .int .i64 r.w, .int .i64 r.h], .int .i64 p] w (AnsIm (fillIm X Y L r p) w) := by
 obtain ⟨W, H, rfl, rfl, wl, wh, hl1, hl2, hL⟩ := im_nat h1
 have HA : Hid (fillIm W H L r p = ⟨W, H, tabI L.length (rectF W L r p)⟩) := Lib.hid (fill_val W H L r p h1 h3 hL wh hl2)
 have hL0 : 0 < L.length := by rw [hL]; exact Nat.mul_pos wl hl1
 have hL256 : L.length ≤ 256 := by rw [hL]; exact mul_256 wh hl2
 have HL := Lib.hid hL
 have Ho := Lib.hid h1
 have Hr := Lib.hid h2
 have Hp := Lib.hid h3
 clear h1 h2 h3 hL
 have Hm := Lib.hid hm
 obtain ⟨A, c, rfl⟩ := hv.form
 have hS := FlA.born w W H (.slice A L.length c) r
 have hd := fl_res w W H (.slice A L.length c) r
 have hv0 := (((hv.alloc (.cells #[.int .i64 W, .int .i64 H, .slice A L.length c] 32)).alloc (.cells #[.int .i64 r.x, .int .i64 r.y, .int .i64 r.w, .int .i64 r.h] 94)).alloc (.cells #[.int .i64 0, .int .i64 0, .slice none 0 0] 32))
 clear hm hv
 obtain ⟨a0, a1, a2⟩ := hS.a.cells
 go_enter Try.func118, Try.ntmps118
 go_wp2_with fail
 refine (l05Copy_any W H _ L _ Hm.out hv0).mono ?_
 rintro e w1 ⟨vo, rfl, hown, hb⟩
 obtain ⟨gq, cq, hvq, hgq, _⟩ := hown.form hL0
 subst hvq
 have hv1 := hv0.call hb
 have hS1 := hS.call hb
 have hd1 := hd.call hb
 have hO := ImV.born (X := W) (Y := H) hb hown
 have hl : w.heap.size + 3 ≤ (((w.alloc (.cells #[.int .i64 W, .int .i64 H, .slice A L.length c] 32)).alloc (.cells #[.int .i64 r.x, .int .i64 r.y, .int .i64 r.w, .int .i64 r.h] 94)).alloc (.cells #[.int .i64 0, .int .i64 0, .slice none 0 0] 32)).heap.size := by simp
 obtain ⟨lo, hlo⟩ : ∃ lo, lo = (((w.alloc (.cells #[.int .i64 W, .int .i64 H, .slice A L.length c] 32)).alloc (.cells #[.int .i64 r.x, .int .i64 r.y, .int .i64 r.w, .int .i64 r.h] 94)).alloc (.cells #[.int .i64 0, .int .i64 0, .slice none 0 0] 32)).heap.size := ⟨_, rfl⟩
 rw [← hlo] at hO hl hgq
 replace hS := hS1.call (belI_box w1 (.cells #[.int .i64 W, .int .i64 H, .slice (some ⟨gq, 0, none⟩) L.length cq] 32))
 replace hd := hd1.call (belI_box w1 (.cells #[.int .i64 W, .int .i64 H, .slice (some ⟨gq, 0, none⟩) L.length cq] 32))
 have hv := hv1.call (belI_box w1 (.cells #[.int .i64 W, .int .i64 H, .slice (some ⟨gq, 0, none⟩) L.length cq] 32))
 clear hown hb hS1 hd1 hv1 hv0 a0 a1 a2 hlo
 obtain ⟨a0, a1, a2⟩ := hS.a.cells
 go_wp2_with fail
 refine (imS W H _ L _ hv).mono ?_
 rintro e w2 ⟨rfl, hb⟩
 replace hS := hS.call hb
 replace hd := hd.call hb
 replace hO := hO.call hb
 clear hb hv a0 a1 a2
 rw [imB_yes Ho.out]
 obtain ⟨b0, b1, b2, b3⟩ := hS.b.cells
 go_wp2_with fail
 refine (rectOkS_yes r Hr.out _).mono ?_
 rintro e w3 ⟨rfl, hb⟩
 replace hS := hS.call hb
 replace hd := hd.call hb
 replace hO := hO.call hb
 clear hb b0 b1 b2 b3
 go_wp2_with fail
 refine (pixS_yes p Hp.out _).mono ?_
 rintro e w4 ⟨rfl, rfl⟩
 obtain ⟨a0, a1, a2⟩ := hS.a.cells
 obtain ⟨b0, b1, b2, b3⟩ := hS.b.cells
 go_wp2_with fail
 refine (partS r W H wl wh hl1 hl2 _).mono ?_
 rintro e W1 ⟨⟨X, Y, n, h, rfl, hXn, hYh, hn1, HI⟩, hb⟩
 replace hS := hS.call hb
 replace hd := hd.call hb
 replace hO := hO.call hb
 clear hb a0 a1 a2 b0 b1 b2 b3
 have hgb := (hO.hk gq rfl).1
 have hgb2 := (hO.hk gq rfl).2
 have hhs := hO.hs
 obtain ⟨bt, hbt⟩ : ∃ bt, bt = W1.heap.size := ⟨_, rfl⟩
 have hS2 := hS.call (belI_box W1 (.cells #[.int .i64 X, .int .i64 Y, .int .i64 n, .int .i64 h] 94))
 have hd2 := hd.call (belI_box W1 (.cells #[.int .i64 X, .int .i64 Y, .int .i64 n, .int .i64 h] 94))
 have hO2 := hO.call (belI_box W1 (.cells #[.int .i64 X, .int .i64 Y, .int .i64 n, .int .i64 h] 94))
 have hT := RcAt.newAt (w := W1) hbt.symm ⟨X, Y, n, h⟩
 dsimp only at hT
 obtain ⟨V0, hV0⟩ : ∃ V0, V0 = W1.alloc (.cells #[.int .i64 X, .int .i64 Y, .int .i64 n, .int .i64 h] 94) := ⟨_, rfl⟩
 rw [← hV0] at hS2 hd2 hO2 hT
 have HV := Lib.hid hV0
 have HB := Lib.hid hbt
 have HN : Hid (some w.heap.size ≠ some gq ∧ some (w.heap.size + 1) ≠ some gq ∧ some (w.heap.size + 2) ≠ some gq ∧ some w1.heap.size ≠ some gq ∧ some bt ≠ some gq) := Lib.hid ⟨by simp; omega, by simp; omega, by simp; omega, by simp; omega, by simp; omega⟩
 have Hown : Hid (V0.ownsRow lo 3 1 (.slice (some ⟨gq, 0, none⟩) L.length cq) L.length (intCells (tabI L.length (rectS W p (fun k => L.getD k 0) X Y n Y X)))) := Lib.hid (by
  have h := hO2.own
  rw [tabI_congr L.length (fun k _ => rectS_start W p (fun k => L.getD k 0) X Y n k), ← tabI_self]
  exact h)
 have Hgr : Hid (V0.grownBy V0 (some gq)) := Lib.hid (World.grownBy.refl _ _)
 have HS := Lib.hid hS2
 have HO := Lib.hid hO2.at_
 have HD := Lib.hid hd2
 have HT := Lib.hid hT
 obtain ⟨t0, t1, t2, t3⟩ := hT.cells
 rw [hV0, hbt] at t0 t1 t2 t3
 clear hS hd hO hS2 hd2 hO2 hT hV0 hbt
 go_wp2_with fail
 rw [← HV.out, ← HB.out]
 clear t0 t1 t2 t3
 go_loopg [9] h (fun g9 s9 wr => ∃ (y : Nat) (V : World), V = wr ∧ Y ≤ y ∧ y ≤ Y + h ∧ g9 = Y + h - y ∧ s9 = .int .i64 y ∧ Hid (V.ownsRow lo 3 1 (.slice (some ⟨gq, 0, none⟩) L.length cq) L.length (intCells (tabI L.length (rectS W p (fun k => L.getD k 0) X Y n y X)))) ∧ Hid (V0.grownBy V (some gq)))
 case atStart => exact ⟨Y, _, rfl, Nat.le_refl _, by omega, by omega, rfl, Hown, Hgr⟩
 case round =>
  clear Hown Hgr
  obtain ⟨y, wy, hV, hy1, hy2, rfl, rfl, Hown, Hgr⟩ := hrel
  subst hV
  obtain ⟨t0, t1, t2, t3⟩ := (show RcAt wy bt ⟨X, Y, n, h⟩ from (Hgr.out.block _ HT.out.lt HN.out.2.2.2.2).trans HT.out).cells
  dsimp only at t0 t1 t2 t3
  by_cases hyl : y < Y + h
  ·have hyi : (y : Int) < (Y : Int) + (h : Int) := by omega
   go_wp2_with fail
   go_loopg [10] n (fun g10 s10 wz => ∃ (x : Nat) (V : World), V = wz ∧ X ≤ x ∧ x ≤ X + n ∧ g10 = X + n - x ∧ s10 = .int .i64 x ∧ Hid (V.ownsRow lo 3 1 (.slice (some ⟨gq, 0, none⟩) L.length cq) L.length (intCells (tabI L.length (rectS W p (fun k => L.getD k 0) X Y n y x)))) ∧ Hid (V0.grownBy V (some gq)))
   case atStart => exact ⟨X, _, rfl, Nat.le_refl _, by omega, by omega, rfl, Hown, Hgr⟩
   case round =>
    clear Hown Hgr t0 t1 t2 t3
    obtain ⟨x, wx, hV, hx1, hx2, rfl, rfl, Hown, Hgr⟩ := hrel
    subst hV
    obtain ⟨t0, t1, t2, t3⟩ := (show RcAt wx bt ⟨X, Y, n, h⟩ from (Hgr.out.block _ HT.out.lt HN.out.2.2.2.2).trans HT.out).cells
    dsimp only at t0 t1 t2 t3
    by_cases hxl : x < X + n
    ·have hxi : (x : Int) < (X : Int) + (n : Int) := by omega
     obtain ⟨m, hm⟩ : ∃ m, m = y * W := ⟨_, rfl⟩
     have e1 : (y : Int) * (W : Int) = (m : Int) := by rw [hm]; simp
     have l1 : m + x < L.length := by rw [hm, HL.out]; exact plc_lt (by omega) (by omega)
     have l3 : (m : Int) + (x : Int) < (L.length : Int) := by omega
     obtain ⟨a0, a1, a2⟩ := (HS.out.a.grown Hgr.out HN.out.1).cells
     obtain ⟨o0, o1, o2⟩ := (HO.out.grown Hgr.out HN.out.2.2.2.1).cells
     have cS : wx.cell? ⟨gq, m + x, none⟩ = some (.int .i64 (rectS W p (fun k => L.getD k 0) X Y n y x (m + x))) := by
      have h := Hown.out.cellAt (m + x) (by omega)
      rw [intCells_get, tabI_get _ _ _ l1] at h
      exact h
     have fS : wx.frozen? ⟨gq, m + x, none⟩ = false := Hown.out.frozenAt (m + x)
     have Hm1 := Lib.hid hm
     clear hm
     go_wp2_with fail
     go_roundg (X + n - (x + 1))
     case measure => omega
     case rel =>
      refine ⟨x + 1, _, rfl, by omega, by omega, rfl, by go_num, ?_, Lib.hid (Hgr.out.trans (grown_setI _ gq (m + x) _))⟩
      have h := (ownI_put Hown.out (m + x) p).1
      rw [tabI_set] at h
      rw [← tabI_congr L.length (fun k _ => rectS_set W p (fun k => L.getD k 0) X Y n y x k (by omega) hx1 hxl hy1), ← Hm1.out]
      exact Lib.hid h
    ·obtain rfl : x = X + n := by omega
     have hxi : ¬ ((X + n : Nat) : Int) < (X : Int) + (n : Int) := by omega
     go_wp2_with fail
     go_roundg (Y + h - (y + 1))
     case measure => omega
     case rel =>
      refine ⟨y + 1, _, rfl, by omega, by omega, rfl, by go_num, ?_, Hgr⟩
      rw [← tabI_congr L.length (fun k _ => rectS_row W p (fun k => L.getD k 0) X Y n y k)]
      exact Hown
  ·obtain rfl : y = Y + h := by omega
   have hyi : ¬ ((Y + h : Nat) : Int) < (Y : Int) + (h : Int) := by omega
   have hdd := HD.out.grown Hgr.out HN.out.2.2.1
   obtain ⟨d0, d1, d2⟩ := hdd.cells
   obtain ⟨o0, o1, o2⟩ := (HO.out.grown Hgr.out HN.out.2.2.2.1).cells
   have f0 := hdd.frozen 0
   have f1 := hdd.frozen 1
   have f2 := hdd.frozen 2
   go_wp2_with fail
   have j := hdd.set3 W H (.slice (some ⟨gq, 0, none⟩) L.length cq)
   obtain ⟨x0, x1, x2⟩ := j.cells
   refine bodyPost_ret (v := .agg #[.int .i64 W, .int .i64 H, .slice (some ⟨gq, 0, none⟩) L.length cq]) (by simp [results, Try.results118, go_sem, x0, x1, x2]) rfl ?_
   unfold AnsIm
   rw [HA.out]
   refine ans_set (lo := lo) (b := w.heap.size + 2) (n := L.length) ?_ (tabI_length _ _) (by omega) (by omega) (HS.out.bw.grown Hgr.out HS.out.bw.size (fun k hk => by injection hk with hk; omega))
   rw [← tabI_congr L.length (fun k hk => rectS_end W H p L r X Y n h k (by rw [← HL.out]; exact hk) HI.out)]
   exact Hown.out
theorem fillS_any (X Y : Int) (v : Value) (L : List Int) (r : Rc) (p : Int) (w : World) (hm : L.length ≤ 2097152) (hv : RdI w v L) :
  Calls Try.prog 118 #[.agg #[.int .i64 X, .int .i64 Y, v], .agg #[.int .i64 r.x, .int .i64 r.y, .int .i64 r.w, .int .i64 r.h], .int .i64 p] w (AnsIm (fillIm X Y L r p) w) := by
 by_cases h1 : imOk X Y L
 ·by_cases h2 : r.ok
  ·by_cases h3 : pixOk p
   ·exact fillS_ok X Y v L r p w hm hv h1 h2 h3
   ·exact fillS_bad3 X Y v L r p w hm hv h1 h2 h3
  ·exact fillS_bad2 X Y v L r p w hm hv h1 h2
 ·exact fillS_bad1 X Y v L r p w hm hv h1
end Go.Proofs.Ytokniebejilcbaa
namespace Go.Proofs.Ytokniebejilcbaa
open Go.RowKit
theorem intCells_append (L M : List Int) : intCells (L ++ M) = intCells L ++ intCells M := by simp [intCells]
end Go.Proofs.Ytokniebejilcbaa
namespace Go.Proofs.Ytokniebejilcbaa
open Go.RowKit
open Classical in
noncomputable def imEq (L M : List Int) : Bool := decide (L = M)
theorem imEq_yes (L : List Int) : imEq L L = true := by unfold imEq; exact decide_eq_true rfl
theorem imEq_no {L M : List Int} (h : L ≠ M) : imEq L M = false := by unfold imEq; exact decide_eq_false h
open Classical in
noncomputable def sameM (X Y : Int) (L : List Int) (X2 Y2 : Int) (M : List Int) : Bool := decide (X = X2 ∧ Y = Y2 ∧ L = M)
theorem sameM_yes (X Y : Int) (L : List Int) : sameM X Y L X Y L = true := by unfold sameM; exact decide_eq_true ⟨rfl, rfl, rfl⟩
theorem sameM_no {X Y : Int} {L : List Int} {X2 Y2 : Int} {M : List Int} (h : ¬ (X = X2 ∧ Y = Y2 ∧ L = M)) : sameM X Y L X2 Y2 M = false := by unfold sameM; exact decide_eq_false h
theorem sameM_in (X Y : Int) (L M : List Int) : sameM X Y L X Y M = imEq L M := by
 by_cases h : L = M
 ·subst h; rw [sameM_yes, imEq_yes]
 ·rw [imEq_no h, sameM_no fun k => h k.2.2]
def ImEqAns (L M : List Int) (w : World) (e : Ending) (w' : World) : Prop := e = .returned (.bool (imEq L M)) ∧ ∃ q, w' = w.drewN q
theorem ext_of {L M : List Int} (h : L.length = M.length) (hall : ∀ j, j < L.length → L[j]? = M[j]?) : L = M := by
 apply List.ext_getElem?
 intro j
 by_cases hj : j < L.length
 ·exact hall j hj
 ·rw [List.getElem?_eq_none (by omega), List.getElem?_eq_none (by omega)]
set_option maxHeartbeats 1000000 in
theorem sameInts_any (v u : Value) (L M : List Int) (w : World) (hv : RdI w v L) (hu : RdI w u M) : Calls Try.prog 76 #[v, u] w (ImEqAns L M w) := by
 obtain ⟨A, c, rfl⟩ := hv.form
 obtain ⟨A', c', rfl⟩ := hu.form
 have h1 := hv.len
 have h2 := hu.len
 unfold maxLen at h1 h2
 obtain ⟨n, hn⟩ : ∃ n, n = L.length := ⟨_, rfl⟩
 obtain ⟨n2, hn2⟩ : ∃ n2, n2 = M.length := ⟨_, rfl⟩
 rw [← hn] at h1 hv ⊢
 rw [← hn2] at h2 hu ⊢
 have Hn := Lib.hid hn
 have Hn2 := Lib.hid hn2
 have Hv := Lib.hid hv
 have Hu := Lib.hid hu
 clear hv hu hn hn2
 by_cases hl : n = n2
 ·subst hl
  go_enter Try.func76, Try.ntmps76
  go_wp2_with fail
  go_loopw [5] (fun i wr => ∃ k : Nat, k ≤ n ∧ i = .int .i64 k ∧ Hid (∀ j, j < k → L[j]? = M[j]?) ∧ ∃ q, wr = w.drewN q) (fun i _ => n - (intOf i).toNat)
  case atStart => exact ⟨0, Nat.zero_le _, rfl, Lib.hid (fun j hj => by omega), 0, rfl⟩
  case round =>
   obtain ⟨k, hk, rfl, Hall, q, rfl⟩ := hrel
   by_cases hlt : k < n
   ·obtain ⟨a, x, rfl, hx, hcx⟩ := Hv.out.at_ (k := k) (by rw [← Hn.out]; exact hlt)
    obtain ⟨a', y, rfl, hy, hcy⟩ := Hu.out.at_ (k := k) (by rw [← Hn2.out]; exact hlt)
    have Hx := Lib.hid hx
    have Hy := Lib.hid hy
    clear hx hy
    have k0 : (0 : Int) ≤ (k : Int) := by omega
    have k1 : (k : Int) < (n : Int) := by omega
    by_cases hxy : x = y
    ·subst hxy
     go_wp2_with fail
     go_quiet (fail)
     go_wp2_with fail
     rename_i nq
     go_roundw
     case rel =>
      refine ⟨k + 1, by omega, by go_num, Lib.hid (fun j hj => ?_), _, rfl⟩
      by_cases e : j < k
      ·exact Hall.out j e
      ·obtain rfl : j = k := by omega
       rw [Hx.out, Hy.out]
     case measure => simp [intOf]; omega
    ·have hb : (x == y) = false := by rw [beq_eq_false_iff_ne]; exact hxy
     have hno : imEq L M = false := imEq_no fun h => hxy (by have h3 := Hx.out; rw [h, Hy.out] at h3; exact (Option.some.inj h3).symm)
     have Hno := Lib.hid hno
     clear hno hxy
     go_wp2_with fail
     go_quiet (fail)
     go_wp2_with fail
     go_ret
     exact ⟨ret_bool Hno.out.symm, q + _, by first | rfl | exact World.drewN_drewN _ _ _⟩
   ·obtain rfl : k = n := by omega
    have hyes : imEq L M = true := by
     have h : L = M := ext_of (by rw [← Hn.out, ← Hn2.out]) (fun j hj => Hall.out j (by rw [Hn.out]; exact hj))
     subst h; exact imEq_yes L
    have Hyes := Lib.hid hyes
    clear hyes
    go_wp2_with fail
    go_ret
    exact ⟨ret_bool Hyes.out.symm, _, rfl⟩
 ·have hno : imEq L M = false := imEq_no fun h => hl (by rw [Hn.out, Hn2.out, h])
  have Hno := Lib.hid hno
  have hli : ((n : Int) == (n2 : Int)) = false := by rw [beq_eq_false_iff_ne]; omega
  clear hno
  go_enter Try.func76, Try.ntmps76
  go_wp2_with fail
  go_ret
  exact ⟨ret_bool Hno.out.symm, 0, rfl⟩
theorem equalI (v u : Value) (L M : List Int) (w : World) (hv : RdI w v L) (hu : RdI w u M) : Calls Try.prog 73 #[v, u] w (ImEqAns L M w) := by
 have h1 := hv.len
 have h2 := hu.len
 unfold maxLen at h1 h2
 by_cases hl : L.length = M.length
 ·rcases hv with ⟨rfl, rfl⟩ | ⟨g, c, rfl, _, _, hc⟩
  ·obtain ⟨A, c, rfl⟩ := hu.form
   have hM : M = [] := List.eq_nil_of_length_eq_zero hl.symm
   subst hM
   refine (Try.slices_Equal_int_empty none A 0 0 c w (by omega)).mono ?_
   rintro e w' ⟨rfl, rfl⟩
   exact ⟨ret_bool (by rw [imEq_yes]; rfl), 0, rfl⟩
  ·rcases hu with ⟨rfl, rfl⟩ | ⟨g2, c2, rfl, _, _, hc2⟩
   ·have hL : L = [] := List.eq_nil_of_length_eq_zero hl
    subst hL
    refine (Try.slices_Equal_int_empty _ _ c 0 0 w (by omega)).mono ?_
    rintro e w' ⟨rfl, rfl⟩
    exact ⟨ret_bool (by rw [imEq_yes]; rfl), 0, rfl⟩
   ·refine (Try.slices_Equal_int g 0 L.length c g2 0 M.length c2 L M w (Nat.le_refl _) (Nat.le_refl _) h1 h2 (fun j hj => ?_) (fun j hj => ?_)).mono ?_
    ·rw [Nat.zero_add, List.getD_eq_getElem?_getD, List.getElem?_eq_getElem hj]; exact hc j _ (List.getElem?_eq_getElem hj)
    ·rw [Nat.zero_add, List.getD_eq_getElem?_getD, List.getElem?_eq_getElem hj]; exact hc2 j _ (List.getElem?_eq_getElem hj)
    ·rintro e w' ⟨rfl, q, rfl⟩
     refine ⟨ret_bool ?_, q, rfl⟩
     rw [List.take_length, List.take_length]
     by_cases h : L = M
     ·subst h; rw [imEq_yes]; exact beq_self_eq_true L
     ·rw [imEq_no h]; exact beq_eq_false_iff_ne.2 h
 ·obtain ⟨A, c, rfl⟩ := hv.form
  obtain ⟨A2, c2, rfl⟩ := hu.form
  refine (Try.slices_Equal_int_lens A A2 L.length c M.length c2 w hl).mono ?_
  rintro e w' ⟨rfl, rfl⟩
  exact ⟨ret_bool (by rw [imEq_no (fun h => hl (by rw [h]))]), 0, rfl⟩
def SameMAns (X Y : Int) (L : List Int) (X2 Y2 : Int) (M : List Int) (w : World) (e : Ending) (w' : World) : Prop := e = .returned (.bool (sameM X Y L X2 Y2 M)) ∧ Below w.heap.size w w'
set_option maxHeartbeats 1000000 in
theorem sameIL (X Y : Int) (v : Value) (L : List Int) (X2 Y2 : Int) (u : Value) (M : List Int) (w : World) (hv : RdI w v L) (hu : RdI w u M) :
  Calls Try.prog 31 #[.agg #[.int .i64 X, .int .i64 Y, v], .agg #[.int .i64 X2, .int .i64 Y2, u]] w (SameMAns X Y L X2 Y2 M w) := by
 have hv2 := (hv.alloc (.cells #[.int .i64 X, .int .i64 Y, v] 32)).alloc (.cells #[.int .i64 X2, .int .i64 Y2, u] 32)
 have hu2 := (hu.alloc (.cells #[.int .i64 X, .int .i64 Y, v] 32)).alloc (.cells #[.int .i64 X2, .int .i64 Y2, u] 32)
 have Hw := Lib.hid (belI_call (belI_box w (.cells #[.int .i64 X, .int .i64 Y, v] 32)) (belI_box _ (.cells #[.int .i64 X2, .int .i64 Y2, u] 32)))
 have Hv := Lib.hid hv2
 have Hu := Lib.hid hu2
 obtain ⟨A, c, rfl⟩ := hv.form
 obtain ⟨A', c', rfl⟩ := hu.form
 clear hv hu hv2 hu2
 by_cases hx : X = X2
 ·subst hx
  by_cases hy : Y = Y2
  ·subst hy
   obtain ⟨b, hb⟩ : ∃ b, b = imEq L M := ⟨_, rfl⟩
   have HA : Hid (sameM X Y L X Y M = b) := Lib.hid (by rw [hb]; exact sameM_in X Y L M)
   have R := fun W h1 h2 => sameInts_any (.slice A L.length c) (.slice A' M.length c') L M W h1 h2
   unfold ImEqAns at R
   rw [← hb] at R
   have HR := Lib.hid R
   clear R hb
   go_enter Try.func31, Try.ntmps31
   go_wp2_with fail
   refine (HR.out _ Hv.out Hu.out).mono ?_
   rintro e w1 ⟨rfl, q, rfl⟩
   go_wp2_with fail
   go_ret
   exact ⟨ret_bool HA.out.symm, ⟨Hw.out.os, Hw.out.tape, Hw.out.output, Hw.out.size, Hw.out.block⟩⟩
  ·have HA : Hid (sameM X Y L X Y2 M = false) := Lib.hid (sameM_no fun h => hy h.2.1)
   have hyb : (Y == Y2) = false := by rw [beq_eq_false_iff_ne]; exact hy
   go_enter Try.func31, Try.ntmps31
   go_wp2_with fail
   go_ret
   exact ⟨ret_bool HA.out.symm, Hw.out⟩
 ·have HA : Hid (sameM X Y L X2 Y2 M = false) := Lib.hid (sameM_no fun h => hx h.1)
  have hxb : (X == X2) = false := by rw [beq_eq_false_iff_ne]; exact hx
  go_enter Try.func31, Try.ntmps31
  go_wp2_with fail
  go_ret
  exact ⟨ret_bool HA.out.symm, Hw.out⟩
end Go.Proofs.Ytokniebejilcbaa
namespace Go.Proofs.Ytokniebejilcbaa
open Go.RowKit
theorem fill_ok {X Y : Int} {L : List Int} (r : Rc) (p : Int) (h : imOk X Y L) : ∃ M, fillIm X Y L r p = ⟨X, Y, M⟩ ∧ imOk X Y M := by
 by_cases hp : pixOk p
 ·obtain ⟨W, H, rfl, rfl, wl, wh, hl, hh, hL⟩ := im_nat h
  refine ⟨_, fill_val W H L r p h hp hL wh hh, h.1, by rw [tabI_length]; exact h.2.1, fun k x hx => ?_⟩
  obtain ⟨j, hj, rfl⟩ := tabI_mem (List.mem_of_getElem? hx)
  unfold rectF
  split
  ·exact hp
  ·rw [List.getD_eq_getElem?_getD, List.getElem?_eq_getElem hj]; exact h.2.2 j _ (List.getElem?_eq_getElem hj)
 ·exact ⟨L, fill_no fun h' => hp h'.2.2, h⟩
end Go.Proofs.Ytokniebejilcbaa
namespace Go.Proofs.Ytokniebejilcbaa
open Go.RowKit
theorem ownA_ne {v : Value} {b : Nat} (h : ∀ g, v.ownBlock = some g → g ≠ b) : v.ownBlock = none ∨ v.ownBlock ≠ some b := by
 by_cases hv : v.ownBlock = none
 ·exact .inl hv
 ·exact .inr fun e => h b e rfl
end Go.Proofs.Ytokniebejilcbaa
namespace Go.Proofs.Ytokniebejilcbaa
open Go.RowKit
def OwnOf (b : Nat) (W : World) (g : Nat) : Prop := ∃ v, W.cell? ⟨b, 2, none⟩ = some v ∧ v.ownBlock = some g
structure Kq (b m : Nat) (W W' : World) : Prop where
 size : W.heap.size ≤ W'.heap.size
 row : ∀ g, OwnOf b W' g → OwnOf b W g ∨ W.heap.size ≤ g
 same : ∀ (k : Nat) (o : Obj), W.heap[k]? = some o → (o.isCells = true ∨ m ≤ k) → k ≠ b → ¬ OwnOf b W k → W'.heap[k]? = some o
theorem Kq.refl (b m : Nat) (W : World) : Kq b m W W := ⟨Nat.le_refl _, fun _ h => .inl h, fun _ _ h _ _ _ => h⟩
theorem Kq.more {b m m' : Nat} {W W' : World} (h : Kq b m W W') (hm : m ≤ m') : Kq b m' W W' := ⟨h.size, h.row, fun k o h1 h2 h3 h4 => h.same k o h1 (h2.imp id fun h => by omega) h3 h4⟩
theorem Kq.trans {b m : Nat} {W1 W2 W3 : World} (h : Kq b m W1 W2) (h2 : Kq b m W2 W3) : Kq b m W1 W3 where
 size := Nat.le_trans h.size h2.size
 row g hg := by
  rcases h2.row g hg with h3 | h3
  ·exact h.row g h3
  ·exact .inr (Nat.le_trans h.size h3)
 same k o hk ho hb hn := h2.same k o (h.same k o hk ho hb hn) ho hb fun h3 => by
  rcases h.row k h3 with h4 | h4
  ·exact hn h4
  ·exact absurd (Array.getElem?_eq_some_iff.1 hk).1 (by omega)
theorem ownOf_same {b : Nat} {W W' : World} (h : W'.heap[b]? = W.heap[b]?) (g : Nat) : OwnOf b W' g ↔ OwnOf b W g := by
 unfold OwnOf World.cell?
 simp only [h]
theorem Kq.of_grown {b m : Nat} {W W' : World} {row : Option Nat} (hb : b < W.heap.size) (hg : W.grownBy W' row) (hr : ∀ r, row = some r → r ≠ b ∧ r < m ∧ ∃ o : Obj, W.heap[r]? = some o ∧ o.isCells = false) : Kq b m W W' where
 size := hg.size
 row g h := .inl ((ownOf_same (hg.block b hb (fun e => (hr b e.symm).1 rfl)) g).1 h)
 same k o hk ho _ _ := (hg.block k (Array.getElem?_eq_some_iff.1 hk).1 fun e => by
  obtain ⟨_, h0, o2, h2, h3⟩ := hr k e.symm
  rw [hk] at h2
  cases h2
  rcases ho with ho | ho
  ·rw [ho] at h3; cases h3
  ·omega).trans hk
theorem Kq.of_below {b m : Nat} {W W' : World} (hb : b < W.heap.size) (h : Below W.heap.size W W') : Kq b m W W' := Kq.of_grown hb (row := none) ⟨h.os, h.tape, h.output, h.size, fun q hq _ => h.block q hq⟩ fun r e => by cases e
theorem Kq.keep {b m : Nat} {W W' : World} (h : Kq b m W W') {k : Nat} {o : Obj} (hk : W.heap[k]? = some o) (ho : o.isCells = true ∨ m ≤ k) (hb : k ≠ b) (hn : ¬ OwnOf b W k) : W'.heap[k]? = some o ∧ ¬ OwnOf b W' k :=
 ⟨h.same k o hk ho hb hn, fun h2 => by
  rcases h.row k h2 with h3 | h3
  ·exact hn h3
  ·exact absurd (Array.getElem?_eq_some_iff.1 hk).1 (by omega)⟩
theorem grown_of_below {W W' : World} (h : Below W.heap.size W W') : W.grownBy W' none := ⟨h.os, h.tape, h.output, h.size, fun q hq _ => h.block q hq⟩
def SeqMine {α : Type} (F : Fence) (n : Nat) (P : Program) (f : Nat) (lb : Array Value) (encs : α → Array Value) (b : Nat) (L S Sp : List α → Prop) (w : World) : Prop :=
 ∀ (l : Nat) (J Jx : List α → World → Prop) (W : World), Below w.heap.size w W → OwnFrom W.heap.size J → OwnFrom W.heap.size Jx → (∀ pre V, J pre V → L pre) →
  (∀ pre x V, J pre V → YieldAt F (n - 1) P l (encs x) V fun e V' => (e = .returned (.bool true) ∧ J (pre ++ [x]) V' ∧ Kq b W.heap.size V V') ∨ (e = .returned (.bool false) ∧ Jx (pre ++ [x]) V' ∧ Kq b W.heap.size V V')) →
  J [] W → CallsIn F n P f (#[.func (.yield l) #[] #[]] ++ lb) W fun e V => (∃ v, e = .returned v) ∧ ((∃ xs, S xs ∧ J xs V) ∨ (∃ pre, Sp pre ∧ Jx pre V))
def RoundOf {α : Type} (b m : Nat) (c : Code) (I Ix : List α → World → Prop) (xs : List α) (W : World) : Exit → Act → World → Prop
 | .normal, _, V => Kq b m W V ∧ I xs V
 | .exit k, _, V => c = .exit k ∧ Kq b m W V ∧ Ix xs V
 | .ret, _, V => c = .ret ∧ Kq b m W V ∧ Ix xs V
 | _, _, _ => False
theorem range_mine {α : Type} {F : Fence} {n : Nat} {P : Program} {g : Operand} {ps : Array Tmp} {assign body : Code} {Q : Exit → Act → World → Prop} {a : Act} {w : World} (hro : F.round = none) (h1 : 1 ≤ n) {f : Nat} {lb : Array Value}
    (hg : a.eval g = .func (.func f) #[] lb) (hf : F.fn f) (hE : ∀ args W, (callFunc f args).run P W = .ok (.enter f args) W) {encs : α → Array Value} {b m : Nat} {c : Code} {L S Sp : List α → Prop} (hb : b < w.heap.size) (hm : m ≤ w.heap.size) (hown : ∀ q, OwnOf b w q → q < w.heap.size)
    (hseq : SeqMine F (n - 1) P f lb encs b L S Sp w) (hps : ∀ x, (encs x).size = ps.size) (I Ix : List α → World → Prop) (hI : OwnFrom w.heap.size I) (hIx : OwnFrom w.heap.size Ix) (hL : ∀ pre W, I pre W → L pre) (h0 : I [] w) (a₁ : α → Act)
    (hassign : ∀ (l : Nat) (x : α) (W : World) (K : Act → World → Prop), K (a₁ x) W → assign.wpIn (F.inRound l) (n - 1 - 1) P (Exit.then K (fun _ _ _ => False)) { tmps := (ps.zip (encs x)).foldl (fun t (p, v) => t.setIfInBounds p v) a.tmps, defers := [] } W)
    (hbody : ∀ (l : Nat) (pre : List α) (x : α) (W : World), I pre W → body.wpIn (F.inRound l) (n - 1 - 1) P (RoundOf b m c I Ix (pre ++ [x]) W) (a₁ x) W)
    (hdone : ∀ (D : Nat) (xs : List α) (W : World), w.heap.size ≤ D → S xs → I xs W → W.heap[D]? = some (.deferred (some [])) → Q .normal { a with defers := { target := .collected D, args := #[] } :: a.defers } W)
    (hstop : ∀ (D : Nat) (pre : List α) (W : World), w.heap.size ≤ D → Sp pre → Ix pre W → W.heap[D]? = some (.deferred (some [])) → c.wpIn F n P Q { a with defers := { target := .collected D, args := #[] } :: a.defers } W) :
    (Code.rangeFunc g ps assign body).wpIn F n P Q a w := by
  refine wpIn_rangeFunc fun fn hfn => ?_
  rw [hro]
  obtain ⟨R, hR⟩ : ∃ R : LoopState → Option Code → Loop, R = fun st pe => { state := st, pending := pe, fn, tmps := a.tmps, params := ps, assign, body, defers := w.heap.size } := ⟨_, rfl⟩
  obtain ⟨V0, hV0⟩ : ∃ V, V = (w.alloc (.deferred (some []))).alloc (.loop (R .ready none)) := ⟨_, rfl⟩
  have s0 : V0.heap.size = w.heap.size + 2 := by rw [hV0]; simp
  have r0 : V0.heap[w.heap.size + 1]? = some (.loop (R .ready none)) := by
    rw [hV0]
    have h := World.alloc_heap_new (w.alloc (.deferred (some []))) (.loop (R .ready none))
    rwa [World.size_alloc] at h
  have d0 : V0.heap[w.heap.size]? = some (.deferred (some [])) := by
    rw [hV0]
    exact (Below.heap_alloc _ _ _ (by simp)).trans (World.alloc_heap_new w _)
  have o0 : ¬ OwnOf b V0 (w.heap.size + 1) ∧ ¬ OwnOf b V0 w.heap.size := by
    have e : V0.heap[b]? = w.heap[b]? := by rw [hV0, Below.heap_alloc _ _ _ (by simp; omega), Below.heap_alloc _ _ _ hb]
    exact ⟨fun h => by have := hown _ ((ownOf_same e _).1 h); omega, fun h => by have := hown _ ((ownOf_same e _).1 h); omega⟩
  obtain ⟨B, hB⟩ : ∃ B : LoopState → Option Code → World → Prop, B = fun st pe W => W.heap[w.heap.size + 1]? = some (.loop (R st pe)) ∧ W.heap[w.heap.size]? = some (.deferred (some [])) ∧ ¬ OwnOf b W (w.heap.size + 1) ∧ ¬ OwnOf b W w.heap.size := ⟨_, rfl⟩
  have ab : ∀ (T : List α → World → Prop) (st : LoopState) (pe : Option Code), OwnFrom w.heap.size T → OwnFrom V0.heap.size fun xs W => T xs W ∧ B st pe W := by
    intro T st pe hT s W W' row ⟨t1, t2⟩ hgr hrow
    rw [hB] at t2 ⊢
    obtain ⟨t2, t3, t4, t5⟩ := t2
    have far : ∀ k, k < V0.heap.size → k < W.heap.size → W'.heap[k]? = W.heap[k]? := fun k hk hk2 => hgr.block k hk2 fun e => by have := (hrow k e.symm).1; omega
    have l2 := (Array.getElem?_eq_some_iff.1 t2).1
    have eb := ownOf_same (far b (by omega) (by omega))
    exact ⟨hT s W W' row t1 hgr fun r e => ⟨by have := (hrow r e).1; omega, (hrow r e).2⟩, (far _ (by omega) l2).trans t2, (far _ (by omega) (by omega)).trans t3, fun h => t4 ((eb _).1 h), fun h => t5 ((eb _).1 h)⟩
  refine ⟨w.heap.size + 1, [{ target := .collected w.heap.size, args := #[] }], V0, { target := .fn (.func f) lb, args := #[.func (.yield (w.heap.size + 1)) #[] #[]] }, V0, f, #[.func (.yield (w.heap.size + 1)) #[] #[]] ++ lb, V0, ?_, ?_, ?_, ?_, fun _ => h1, ?_⟩
  · rw [hV0, hR]; exact run_enterLoop_outer _ _ _ _ _
  · simp only [resolve, hg]; simp [go_sem]
  · intro f' h; simp [Target.leads] at h; subst h; exact hf
  · simp [invoke, go_sem, hE]
  have hbel : Below w.heap.size w V0 := by rw [hV0]; exact belI_call (belI_box _ _) (belI_box _ _)
  refine (hseq (w.heap.size + 1) _ _ V0 hbel (ab I .ready none hI) (ab Ix .done (some c) hIx) (fun pre V h => hL pre V h.1) ?_ ⟨by rw [hV0]; exact hI.alloc _ (hI.alloc _ h0), by rw [hB]; exact ⟨r0, d0, o0⟩⟩).mono ?_
  · rintro pre x W ⟨i1, iB⟩
    rw [hB] at iB
    obtain ⟨i2, i3, i4, i5⟩ := iB
    have hl := (Array.getElem?_eq_some_iff.1 i2).1
    have hy := run_yield (P := P) (args := encs x) i2 (by rw [hR]; exact hps x)
    rw [hR] at hy
    refine ⟨fn, _, assign, body, hy, roundIn_of_wpIn hfn (hassign _ x W _ ⟨_, run_beginRound i2 (by rw [hR]), ?_⟩)⟩
    clear hy
    obtain ⟨Wb, hWb⟩ : ∃ V, V = W.putObj (w.heap.size + 1) (.loop { R .ready none with state := .busy }) := ⟨_, rfl⟩
    rw [← hWb]
    have b2 : Wb.heap[w.heap.size + 1]? = some (.loop { R .ready none with state := .busy }) := by rw [hWb]; exact World.putObj_heap_same hl
    have b3 : Wb.heap[w.heap.size]? = some (.deferred (some [])) := by rw [hWb]; exact (World.putObj_heap_other (by omega)).trans i3
    have turn : ∀ (V : World) (o o' : Obj), V.heap[w.heap.size + 1]? = some o → o.isCells = false → Kq b V0.heap.size V (V.putObj (w.heap.size + 1) o') := fun V o o' ho hc =>
      Kq.of_grown (by have := (Array.getElem?_eq_some_iff.1 ho).1; omega) (grownBy_putObj' V _ o') fun r e => by cases e; exact ⟨by omega, by omega, o, ho, hc⟩
    have own2 : ∀ (V : World) (o' : Obj) (g : Nat), OwnOf b (V.putObj (w.heap.size + 1) o') g ↔ OwnOf b V g := fun V o' g => ownOf_same (World.putObj_heap_other (by omega)) g
    have kb : Kq b V0.heap.size W Wb := by rw [hWb]; exact turn W _ _ i2 rfl
    have b4 : ¬ OwnOf b Wb (w.heap.size + 1) ∧ ¬ OwnOf b Wb w.heap.size := by rw [hWb]; exact ⟨fun h => i4 ((own2 _ _ _).1 h), fun h => i5 ((own2 _ _ _).1 h)⟩
    refine wpIn_mono (hbody _ pre x Wb (by rw [hWb]; exact hI.putObj _ i1 (by omega) i2 rfl)) ?_
    clear hWb
    have fin : ∀ (V : World) (jump : Option Code), Kq b m Wb V → V.heap[w.heap.size + 1]? = some (.loop { R .ready none with state := .busy }) ∧
        B (if jump.isNone then .ready else .done) jump (V.putObj (w.heap.size + 1) (.loop { R .ready none with state := if jump.isNone then .ready else .done, pending := jump })) := by
      intro V jump hk
      obtain ⟨v2, v4⟩ := hk.keep b2 (.inr (by omega)) (by omega) b4.1
      obtain ⟨v3, v5⟩ := hk.keep b3 (.inr hm) (by omega) b4.2
      refine ⟨v2, ?_⟩
      rw [hB]
      refine ⟨?_, (World.putObj_heap_other (by omega)).trans v3, fun h => v4 ((own2 _ _ _).1 h), fun h => v5 ((own2 _ _ _).1 h)⟩
      rw [World.putObj_heap_same (Array.getElem?_eq_some_iff.1 v2).1, hR]
    intro e a3 V hp
    have leave : ∀ j, c = j → Kq b m Wb V → Ix (pre ++ [x]) V → ∃ v w', (Instr.endRound (w.heap.size + 1) (some j)).run P V = .ok v w' ∧ ((Ending.returned v = .returned (.bool true) ∧ (I (pre ++ [x]) w' ∧ B .ready none w') ∧ Kq b V0.heap.size W w') ∨ (Ending.returned v = .returned (.bool false) ∧ (Ix (pre ++ [x]) w' ∧ B .done (some c) w') ∧ Kq b V0.heap.size W w')) := by
      rintro j rfl k1 k3
      obtain ⟨v2, hB2⟩ := fin V (some c) k1
      exact ⟨_, _, run_endRound (P := P) (some c) v2, .inr ⟨rfl, ⟨hIx.putObj _ k3 (by omega) v2 rfl, hB2⟩, (kb.trans (k1.more (by omega))).trans (turn V _ _ v2 rfl)⟩⟩
    cases e with
    | normal =>
      obtain ⟨k2, k3⟩ := hp
      obtain ⟨v2, hB2⟩ := fin V none k2
      exact ⟨_, _, run_endRound (P := P) none v2, .inl ⟨rfl, ⟨hI.putObj _ k3 (by omega) v2 rfl, hB2⟩, (kb.trans (k2.more (by omega))).trans (turn V _ _ v2 rfl)⟩⟩
    | exit k => exact leave _ hp.1 hp.2.1 hp.2.2
    | ret => exact leave _ hp.1 hp.2.1 hp.2.2
    | goto t => exact hp.elim
    | panic c => exact hp.elim
    | outgrown => exact hp.elim
  · rintro e V ⟨⟨v, rfl⟩, (⟨xs, hS, i1, iB⟩ | ⟨pre, hSp, i1, iB⟩)⟩
    · rw [hB] at iB
      obtain ⟨i2, i3, _, _⟩ := iB
      have he := run_endLoop (P := P) i2 (by rw [hR]; simp)
      rw [hR] at he
      exact ⟨none, _, he, hdone _ xs _ (Nat.le_refl _) hS (hI.putObj _ i1 (by omega) i2 rfl) ((World.putObj_heap_other (by omega)).trans i3)⟩
    · rw [hB] at iB
      obtain ⟨i2, i3, _, _⟩ := iB
      have he := run_endLoop (P := P) i2 (by rw [hR]; simp)
      rw [hR] at he
      exact ⟨some c, _, he, hstop _ pre _ (Nat.le_refl _) hSp (hIx.putObj _ i1 (by omega) i2 rfl) ((World.putObj_heap_other (by omega)).trans i3)⟩
theorem round_any {m m' : Nat} {P : Program} {l : Nat} {f : FuncId} {tmps : Array Value} {assign body : Code} {w : World} {R : Ending → World → Prop} (h : RoundIn Fence.wide m P l f tmps assign body w R) : RoundIn Fence.wide m' P l f tmps assign body w R := ⟨h.1, fun c cs _ => h.2 c cs (fun d hd => by cases hd)⟩
end Go.Proofs.Ytokniebejilcbaa
namespace Go.Proofs.Ytokniebejilcbaa
open Go.RowKit
theorem own_at_put {w : World} {B gq n cap j : Nat} {e : TypeId} {L : List Int} (h : w.ownsRow B e 1 (.slice (some ⟨gq, 0, none⟩) n cap) n (intCells L)) (hj : j < n) (hl : L.length = n) : w.cell? ⟨gq, j, none⟩ = some (.int .i64 (L.getD j 0)) ∧ w.frozen? ⟨gq, j, none⟩ = false := by
 refine ⟨?_, h.frozenAt j⟩
 have h2 := h.cellAt j (by omega)
 rw [h2, intCells_get, List.getD_eq_getElem?_getD, List.getElem?_eq_getElem (by omega)]
 rfl
end Go.Proofs.Ytokniebejilcbaa
namespace Go.Proofs.Ytokniebejilcbaa
open Go.RowKit
theorem tabI_succ (n : Nat) (f : Nat → Int) : tabI (n + 1) f = tabI n f ++ [f n] := by simp [tabI, List.range_succ]
theorem RdI.cell {w : World} {g n c k : Nat} {L : List Int} {x : Int} (h : RdI w (.slice (some ⟨g, 0, none⟩) n c) L) (hx : L[k]? = some x) : w.cell? ⟨g, k, none⟩ = some (.int .i64 x) := by
 have hk : k < L.length := (List.getElem?_eq_some_iff.1 hx).1
 rcases h with ⟨_, rfl⟩ | ⟨g', c', he, hm, hlc, hc⟩
 ·simp at hk
 ·injection he with e1 e2 e3
  injection e1 with e1
  injection e1 with e1
  subst e1
  exact hc k x hx
theorem RdI.one {w : World} {g : Nat} {t : TypeId} {z : Int} (h : w.heap[g]? = some (.cells #[.int .i64 z] t (0, 0))) : RdI w (.slice (some ⟨g, 0, none⟩) 1 1) [z] := by
 refine .inr ⟨g, 1, rfl, by unfold maxLen; simp, by simp, fun k x hx => ?_⟩
 cases k with
 | zero => injection hx with hx; subst hx; simp [World.cell?, h]
 | succ k => simp at hx
theorem run_build1I (z : Int) (w : World) : (Instr.buildSlice 26 1 #[(0, .int .i64 z)]).run Try.prog w = .ok (.slice (some ⟨w.heap.size, 0, none⟩) 1 1) (w.alloc (.cells #[.int .i64 z] 3)) := by
 kernel_rfl
end Go.Proofs.Ytokniebejilcbaa
namespace Go.Proofs.Ytokniebejilcbaa
open Go.RowKit
structure Kept (b : Nat) (W : World) (k : Nat) (o : Obj) : Prop where
 at_ : W.heap[k]? = some o
 cells : o.isCells = true
 ne : k ≠ b
 no : ¬ OwnOf b W k
theorem Kept.kq {b m : Nat} {W W' : World} {k : Nat} {o : Obj} (h : Kept b W k o) (hk : Kq b m W W') : Kept b W' k o := by
 obtain ⟨h1, h2⟩ := hk.keep h.at_ (.inl h.cells) h.ne h.no
 exact ⟨h1, h.cells, h.ne, h2⟩
theorem Kept.below {b : Nat} {W W' : World} {k : Nat} {o : Obj} (h : Kept b W k o) (hb : b < W.heap.size) (hk : Below W.heap.size W W') : Kept b W' k o := h.kq (m := 0) (Kq.of_below hb hk)
theorem Kept.cell {b : Nat} {W : World} {k : Nat} {cs : Array Value} {t : TypeId} (h : Kept b W k (.cells cs t (0, 0))) (i : Nat) {v : Value} (hv : cs[i]? = some v) : W.cell? ⟨k, i, none⟩ = some v := by
 have h1 := h.at_
 simp [World.cell?, h1, hv]
def ItPost {α : Type} (S Sp : List α → Prop) (J Jx : List α → World → Prop) (e : Ending) (V : World) : Prop := (∃ v, e = .returned v) ∧ ((∃ xs, S xs ∧ J xs V) ∨ (∃ pre, Sp pre ∧ Jx pre V))
def chunkV (gi n : Nat) (k : Nat) : Array Value := #[.slice (some ⟨gi, 2 * k, none⟩) (min 2 (n - 2 * k)) (min 2 (n - 2 * k))]
set_option maxRecDepth 100000 in
set_option maxHeartbeats 2000000 in
theorem ckI_in (m gi n c Bs Bn b : Nat) (hn1 : 1 ≤ n) (hn : n ≤ 2000000) (hnc : n ≤ c) (l : Nat) (J Jx : List Nat → World → Prop) (W : World) (hb : b < W.heap.size)
  (hY : ∀ pre x V, J pre V → YieldAt Fence.wide (m - 1) Try.prog l (chunkV gi n x) V fun e V' => (e = .returned (.bool true) ∧ J (pre ++ [x]) V' ∧ Kq b W.heap.size V V') ∨ (e = .returned (.bool false) ∧ Jx (pre ++ [x]) V' ∧ Kq b W.heap.size V V'))
  (hs : Kept b W Bs (.cells #[.slice (some ⟨gi, 0, none⟩) n c] 26 (0, 0))) (hk : Kept b W Bn (.cells #[.int .i64 2] 3 (0, 0))) (hJ : OwnFrom W.heap.size J) (h0 : J [] W) :
  CallsIn Fence.wide m Try.prog 169 #[.func (.yield l) #[] #[], .pointer (some ⟨Bs, 0, none⟩), .pointer (some ⟨Bn, 0, none⟩)] W (ItPost (fun xs => xs = List.range ((n + 1) / 2)) (fun pre => ∃ j, j ≤ (n + 1) / 2 ∧ pre = List.range j) J Jx) := by
 have hmx : Try.prog.follows .mixedOrders = true := by kernel_rfl
 refine callsIn_of_wp Try.func169 rfl trivial ?_ rfl
 simp only [Try.ntmps169, List.size_toArray, List.length_cons, List.length_nil, Nat.reduceAdd, Nat.reduceSub, Array.replicate_succ, Array.replicate_zero, List.push_toArray, List.append_toArray, List.nil_append, List.cons_append]
 gi_wp2
 gi_loopw [4] (fun i wr => ∃ k q : Nat, k ≤ (n + 1) / 2 ∧ i = .int .i64 q ∧ Hid (q = 2 * k) ∧ J (List.range k) wr ∧ Kept b wr Bs (.cells #[.slice (some ⟨gi, 0, none⟩) n c] 26 (0, 0)) ∧ Kept b wr Bn (.cells #[.int .i64 2] 3 (0, 0)) ∧ b < wr.heap.size ∧ W.heap.size ≤ wr.heap.size)
  (fun i _ => n + 2 - (intOf i).toNat)
 case atStart => exact ⟨0, 0, Nat.zero_le _, rfl, Lib.hid rfl, h0, hs, hk, hb, Nat.le_refl _⟩
 case round =>
  obtain ⟨k, q, hkk, rfl, Hq, hJk, hs1, hn2, hb1, hW1⟩ := hrel
  have cs : wr.cell? ⟨Bs, 0, none⟩ = some (.slice (some ⟨gi, 0, none⟩) n c) := hs1.cell 0 rfl
  have cn : wr.cell? ⟨Bn, 0, none⟩ = some (.int .i64 2) := hn2.cell 0 rfl
  by_cases hlt : q < n
  ·have i1 : (q : Int) < (n : Int) := by omega
   have hJd : J (List.range k) wr.drew := hJ _ _ _ none hJk (grown_of_below ((Below.refl _ _).drew)) (fun r e => by cases e)
   have hs2 : Kept b wr.drew Bs (.cells #[.slice (some ⟨gi, 0, none⟩) n c] 26 (0, 0)) := ⟨hs1.at_, hs1.cells, hs1.ne, hs1.no⟩
   have hn4 : Kept b wr.drew Bn (.cells #[.int .i64 2] 3 (0, 0)) := ⟨hn2.at_, hn2.cells, hn2.ne, hn2.no⟩
   have cs2 : wr.drew.cell? ⟨Bs, 0, none⟩ = some (.slice (some ⟨gi, 0, none⟩) n c) := cs
   obtain ⟨fn, tmps, assign, body, hy, hR⟩ := hY _ k wr.drew hJd
   unfold chunkV at hy
   rw [← Hq.out] at hy
   have q0 : (0 : Int) ≤ (q : Int) := by omega
   have qc : ¬ c = q := by omega
   have qc2 : ¬ c - q = 0 := by omega
   have q1 : q ≤ n := by omega
   have q1i : (q : Int) ≤ (n : Int) := by omega
   have q2 := wrap_in ((q : Int) + 1) (by omega) (by omega)
   have q3 := wrap_in ((q : Int) + 2) (by omega) (by omega)
   have z1 : ((q : Int) + 1).toNat = q + 1 := by omega
   have z2 : ((q : Int) + 2).toNat = q + 2 := by omega
   have z3 : q + 2 - q = 2 := by omega
   have z4 : q + 1 - q = 1 := by omega
   by_cases h2 : q + 2 ≤ n
   ·have m1 : min 2 (n - q) = 2 := by omega
    rw [m1] at hy
    have m2 : min (2 : Int) ((n - q : Nat) : Int) = 2 := by omega
    have m3 : q + 2 ≤ c := by omega
    have m4 : (q : Int) + 2 ≤ (c : Int) := by omega
    have m5 : (q : Int) ≤ (q : Int) + 2 := by omega
    have m6 : (0 : Int) ≤ (q : Int) + 2 := by omega
    gi_wp2
    gi_region_o
    all_goals
     gi_wp2
     refine ⟨fun h => (by cases h), hR.mono ?_⟩
     rintro e W3 (⟨rfl, hJ3, hk3⟩ | ⟨rfl, hJx3, _⟩)
     ·have hs3 := hs2.kq hk3
      have hn3 := hn4.kq hk3
      have cn3 : W3.cell? ⟨Bn, 0, none⟩ = some (.int .i64 2) := hn3.cell 0 rfl
      have hz3 := hk3.size
      gi_wp2
      go_roundw
      case rel => exact ⟨k + 1, q + 2, by have := Hq.out; omega, by go_num, Lib.hid (by rw [Hq.out]; rfl), by rw [List.range_succ]; exact hJ3, hs3, hn3, by simp at hz3; omega, by simp at hz3; omega⟩
      case measure => simp [intOf]; omega
     ·gi_wp2
      refine bodyPost_ret (results_none rfl _ _ _) rfl ?_
      exact ⟨⟨_, rfl⟩, .inr ⟨_, ⟨k + 1, by have := Hq.out; omega, List.range_succ.symm⟩, hJx3⟩⟩
   ·have m1 : min 2 (n - q) = 1 := by omega
    rw [m1] at hy
    have m2 : min (2 : Int) ((n - q : Nat) : Int) = 1 := by omega
    have m3 : q + 1 ≤ c := by omega
    have m4 : (q : Int) + 1 ≤ (c : Int) := by omega
    have m5 : (q : Int) ≤ (q : Int) + 1 := by omega
    have m6 : (0 : Int) ≤ (q : Int) + 1 := by omega
    gi_wp2
    gi_region_o
    all_goals
     gi_wp2
     refine ⟨fun h => (by cases h), hR.mono ?_⟩
     rintro e W3 (⟨rfl, hJ3, hk3⟩ | ⟨rfl, hJx3, _⟩)
     ·have hs3 := hs2.kq hk3
      have hn3 := hn4.kq hk3
      have cn3 : W3.cell? ⟨Bn, 0, none⟩ = some (.int .i64 2) := hn3.cell 0 rfl
      have hz3 := hk3.size
      gi_wp2
      go_roundw
      case rel => exact ⟨k + 1, q + 2, by have := Hq.out; omega, by go_num, Lib.hid (by rw [Hq.out]; rfl), by rw [List.range_succ]; exact hJ3, hs3, hn3, by simp at hz3; omega, by simp at hz3; omega⟩
      case measure => simp [intOf]; omega
     ·gi_wp2
      refine bodyPost_ret (results_none rfl _ _ _) rfl ?_
      exact ⟨⟨_, rfl⟩, .inr ⟨_, ⟨k + 1, by have := Hq.out; omega, List.range_succ.symm⟩, hJx3⟩⟩
  ·have i1 : ¬ (q : Int) < (n : Int) := by omega
   gi_wp2
   go_end0
   exact ⟨⟨_, rfl⟩, .inl ⟨List.range ((n + 1) / 2), rfl, by rw [show (n + 1) / 2 = k by have := Hq.out; omega]; exact hJk⟩⟩
set_option maxRecDepth 100000 in
set_option maxHeartbeats 1000000 in
theorem ckI_0 {α : Type} (m c Bs Bn : Nat) (A : Option Addr) (l : Nat) (J Jx : List α → World → Prop) (W : World) (hs : W.cell? ⟨Bs, 0, none⟩ = some (.slice A 0 c)) (h0 : J [] W) :
  CallsIn Fence.wide m Try.prog 169 #[.func (.yield l) #[] #[], .pointer (some ⟨Bs, 0, none⟩), .pointer (some ⟨Bn, 0, none⟩)] W (ItPost (fun xs => xs = []) (fun _ => False) J Jx) := by
 refine callsIn_of_wp Try.func169 rfl trivial ?_ rfl
 simp only [Try.ntmps169, List.size_toArray, List.length_cons, List.length_nil, Nat.reduceAdd, Nat.reduceSub, Array.replicate_succ, Array.replicate_zero, List.push_toArray, List.append_toArray, List.nil_append, List.cons_append]
 gi_wp2
 gi_loopw [4] (fun i wr => i = .int .i64 0 ∧ wr = W) (fun _ _ => 0)
 case atStart => exact ⟨rfl, rfl⟩
 case round =>
  obtain ⟨rfl, rfl⟩ := hrel
  gi_wp2
  go_end0
  exact ⟨⟨_, rfl⟩, .inl ⟨[], rfl, h0⟩⟩
set_option maxHeartbeats 1000000 in
theorem chkI (A : Option Addr) (n c : Nat) (w : World) :
  Calls Try.prog 148 #[.slice A n c, .int .i64 2] w fun e w' => e = .returned (.func (.func 169) #[] #[.pointer (some ⟨w.heap.size, 0, none⟩), .pointer (some ⟨w.heap.size + 1, 0, none⟩)]) ∧ w' = (w.alloc (.cells #[.slice A n c] 26)).alloc (.cells #[.int .i64 2] 3) := by
 go_enter Try.func148, Try.ntmps148
 go_wp2_with fail
 go_ret
 exact ⟨rfl, rfl⟩
end Go.Proofs.Ytokniebejilcbaa
namespace Go.Proofs.Ytokniebejilcbaa
open Go.RowKit
open Classical in
noncomputable def wct (W H l : Int) : Int := if szOk W H ∧ l = 0 then W * H else if szOk W H ∧ l = 1 then (W + 3) / 4 * 4 * ((H + 3) / 4 * 4) else -1
theorem wct_0 {W H : Int} (h : szOk W H) : wct W H 0 = W * H := if_pos ⟨h, rfl⟩
theorem wct_1 {W H : Int} (h : szOk W H) : wct W H 1 = (W + 3) / 4 * 4 * ((H + 3) / 4 * 4) := by
 unfold wct; rw [if_neg (fun k => by have := k.2; omega), if_pos ⟨h, rfl⟩]
theorem wct_no {W H l : Int} (h : ¬ (szOk W H ∧ (l = 0 ∨ l = 1))) : wct W H l = -1 := by
 unfold wct; rw [if_neg (fun k => h ⟨k.1, Or.inl k.2⟩), if_neg (fun k => h ⟨k.1, Or.inr k.2⟩)]
open Classical in
noncomputable def wpl (W H l x y : Int) : Int :=
 if szOk W H ∧ (l = 0 ∨ l = 1) ∧ 0 ≤ x ∧ x < W ∧ 0 ≤ y ∧ y < H then (if l = 0 then y * W + x else (y / 4 * ((W + 3) / 4) + x / 4) * 16 + y % 4 * 4 + x % 4) else -1
theorem wpl_0 {W H x y : Int} (h : szOk W H) (hx : 0 ≤ x ∧ x < W) (hy : 0 ≤ y ∧ y < H) : wpl W H 0 x y = y * W + x := by
 unfold wpl; rw [if_pos ⟨h, Or.inl rfl, hx.1, hx.2, hy.1, hy.2⟩, if_pos rfl]
theorem wpl_1 {W H x y : Int} (h : szOk W H) (hx : 0 ≤ x ∧ x < W) (hy : 0 ≤ y ∧ y < H) : wpl W H 1 x y = (y / 4 * ((W + 3) / 4) + x / 4) * 16 + y % 4 * 4 + x % 4 := by
 unfold wpl; rw [if_pos ⟨h, Or.inr rfl, hx.1, hx.2, hy.1, hy.2⟩, if_neg (by omega)]
theorem wpl_no {W H l x y : Int} (h : ¬ (szOk W H ∧ (l = 0 ∨ l = 1) ∧ 0 ≤ x ∧ x < W ∧ 0 ≤ y ∧ y < H)) : wpl W H l x y = -1 := if_neg h
theorem wct_bd {W H l : Int} (h : szOk W H) (hl : l = 0 ∨ l = 1) : 1 ≤ wct W H l ∧ wct W H l ≤ 256 := by
 rcases hl with rfl | rfl
 ·rw [wct_0 h]; exact ⟨sz_pos h, (sz_mul h).2⟩
 ·rw [wct_1 h]
  obtain ⟨h1, h2, h3, h4⟩ := h
  obtain ⟨a, ha⟩ : ∃ a, a = (W + 3) / 4 * 4 := ⟨_, rfl⟩
  obtain ⟨b, hb⟩ : ∃ b, b = (H + 3) / 4 * 4 := ⟨_, rfl⟩
  rw [← ha, ← hb]
  exact ⟨sz_pos (W := a) (H := b) ⟨by omega, by omega, by omega, by omega⟩, (sz_mul (W := a) (H := b) ⟨by omega, by omega, by omega, by omega⟩).2⟩
theorem wpl_bd {W H l x y : Int} (h : szOk W H) (hl : l = 0 ∨ l = 1) (hx : 0 ≤ x ∧ x < W) (hy : 0 ≤ y ∧ y < H) : 0 ≤ wpl W H l x y ∧ wpl W H l x y < wct W H l := by
 obtain ⟨h1, h2, h3, h4⟩ := h
 obtain ⟨hx1, hx2⟩ := hx
 obtain ⟨hy1, hy2⟩ := hy
 rcases hl with rfl | rfl
 ·rw [wct_0 ⟨h1, h2, h3, h4⟩, wpl_0 ⟨h1, h2, h3, h4⟩ ⟨hx1, hx2⟩ ⟨hy1, hy2⟩]
  have h5 : 0 ≤ y * W := Int.mul_nonneg hy1 (by omega)
  have h6 : (y + 1) * W ≤ H * W := Int.mul_le_mul_of_nonneg_right (by omega) (by omega)
  rw [Int.add_mul, Int.one_mul, Int.mul_comm H W] at h6
  omega
 ·rw [wct_1 ⟨h1, h2, h3, h4⟩, wpl_1 ⟨h1, h2, h3, h4⟩ ⟨hx1, hx2⟩ ⟨hy1, hy2⟩]
  obtain ⟨a, ha⟩ : ∃ a, a = (W + 3) / 4 := ⟨_, rfl⟩
  obtain ⟨b, hb⟩ : ∃ b, b = (H + 3) / 4 := ⟨_, rfl⟩
  obtain ⟨p, hp⟩ : ∃ p, p = y / 4 := ⟨_, rfl⟩
  rw [← ha, ← hb, ← hp]
  have h5 : 0 ≤ p * a := Int.mul_nonneg (by omega) (by omega)
  have h6 : (p + 1) * a ≤ b * a := Int.mul_le_mul_of_nonneg_right (by omega) (by omega)
  rw [Int.add_mul, Int.one_mul] at h6
  have h7 : a * 4 * (b * 4) = b * a * 16 := by rw [Int.mul_assoc a 4, Int.mul_comm b a, ← Int.mul_assoc 4 b 4, Int.mul_comm 4 b, ← Int.mul_assoc a, ← Int.mul_assoc a]; omega
  rw [h7]
  omega
theorem wpl_inj {W H l x y x2 y2 : Int} (h : szOk W H) (hl : l = 0 ∨ l = 1) (hx : 0 ≤ x ∧ x < W) (hy : 0 ≤ y ∧ y < H) (hx2 : 0 ≤ x2 ∧ x2 < W) (hy2 : 0 ≤ y2 ∧ y2 < H)
  (he : wpl W H l x y = wpl W H l x2 y2) : x = x2 ∧ y = y2 := by
 have key : ∀ a p q r s : Int, 0 ≤ q → q < a → 0 ≤ s → s < a → p * a + q = r * a + s → p = r ∧ q = s := by
  intro a p q r s q1 q2 s1 s2 e
  have e1 : p = r := by
   have : (p * a + q) / a = (r * a + s) / a := by rw [e]
   rwa [Int.add_comm, Int.add_mul_ediv_right _ _ (by omega), Int.ediv_eq_zero_of_lt q1 q2, Int.add_comm (r * a), Int.add_mul_ediv_right _ _ (by omega), Int.ediv_eq_zero_of_lt s1 s2, Int.zero_add, Int.zero_add] at this
  subst e1
  exact ⟨rfl, by omega⟩
 rcases hl with rfl | rfl
 ·rw [wpl_0 h hx hy, wpl_0 h hx2 hy2] at he
  obtain ⟨e1, e2⟩ := key W y x y2 x2 hx.1 hx.2 hx2.1 hx2.2 he
  exact ⟨e2, e1⟩
 ·rw [wpl_1 h hx hy, wpl_1 h hx2 hy2] at he
  obtain ⟨a, ha⟩ : ∃ a, a = (W + 3) / 4 := ⟨_, rfl⟩
  rw [← ha] at he
  have e3 := key a (y / 4) (x / 4) (y2 / 4) (x2 / 4) (by omega) (by omega) (by omega) (by omega) (by omega)
  omega
noncomputable def stR (W H l : Int) (L : List Int) : Nat → List Int
 | 0 => List.replicate (wct W H l).toNat 0
 | k + 1 => (stR W H l L k).set (wpl W H l ((k : Int) % W) ((k : Int) / W)).toNat (L.getD k 0)
theorem stR_len (W H l : Int) (L : List Int) (k : Nat) : (stR W H l L k).length = (wct W H l).toNat := by
 induction k with
 | zero => exact List.length_replicate
 | succ k ih => unfold stR; rw [List.length_set]; exact ih
def rlen : List Int → Nat
 | [] => 0
 | x :: r => (r.takeWhile (· == x)).length + 1
theorem rlen_pos {L : List Int} (h : L ≠ []) : 1 ≤ rlen L := by
 cases L with
 | nil => exact absurd rfl h
 | cons x r => exact Nat.le_add_left 1 _
theorem rlen_le (L : List Int) : rlen L ≤ L.length := by
 cases L with
 | nil => exact Nat.le_refl _
 | cons x r => exact Nat.succ_le_succ (List.takeWhile_sublist _).length_le
def runF : Nat → List Int → List Int
 | 0, _ => []
 | n + 1, L => if L = [] then [] else (rlen L : Int) :: L.headD 0 :: runF n (L.drop (rlen L))
theorem runF_more (n : Nat) (L : List Int) (m : Nat) (h : L.length ≤ n) (h2 : L.length ≤ m) : runF n L = runF m L := by
  induction n generalizing L m with
  | zero =>
    have : L = [] := List.length_eq_zero_iff.1 (by omega)
    subst this
    cases m with
    | zero => rfl
    | succ m => simp [runF]
  | succ n ih =>
    by_cases hL : L = []
    · subst hL
      cases m with
      | zero => rfl
      | succ m => simp [runF]
    · have h3 := rlen_pos hL
      have h4 : 0 < L.length := List.length_pos_iff.2 hL
      cases m with
      | zero => omega
      | succ m =>
        unfold runF
        rw [if_neg hL, if_neg hL, ih (L.drop (rlen L)) m (by rw [List.length_drop]; omega) (by rw [List.length_drop]; omega)]
def runL (L : List Int) : List Int := runF L.length L
theorem runL_step {L : List Int} (h : L ≠ []) : runL L = (rlen L : Int) :: L.headD 0 :: runL (L.drop (rlen L)) := by
 have h4 : 0 < L.length := List.length_pos_iff.2 h
 have h3 := rlen_pos h
 unfold runL
 obtain ⟨n, hn⟩ : ∃ n, L.length = n + 1 := ⟨L.length - 1, by omega⟩
 rw [hn]
 show runF (n + 1) L = _
 rw [runF, if_neg h, runF_more n (L.drop (rlen L)) (L.drop (rlen L)).length (by rw [List.length_drop]; omega) (Nat.le_refl _)]
theorem runL_len (L : List Int) : (runL L).length ≤ 2 * L.length := by
  unfold runL
  have : ∀ n (M : List Int), M.length ≤ n → (runF n M).length ≤ 2 * M.length := by
    intro n
    induction n with
    | zero => intro M _; simp [runF]
    | succ n ih =>
      intro M hM
      unfold runF
      by_cases h : M = []
      · simp [h]
      · rw [if_neg h]
        have h3 := rlen_pos h
        have h4 : 0 < M.length := List.length_pos_iff.2 h
        have h5 := rlen_le M
        have h6 := ih (M.drop (rlen M)) (by rw [List.length_drop]; omega)
        rw [List.length_drop] at h6
        simp only [List.length_cons]
        omega
  exact this _ L (Nat.le_refl _)
def runR (W : Nat) (L : List Int) : Nat → List Int
 | 0 => []
 | y + 1 => runR W L y ++ runL ((L.drop (y * W)).take W)
theorem runR_len (W : Nat) (L : List Int) (y : Nat) : (runR W L y).length ≤ 2 * (y * W) := by
  induction y with
  | zero => simp [runR]
  | succ y ih =>
    unfold runR
    rw [List.length_append, Nat.add_mul, Nat.one_mul]
    have h1 := runL_len ((L.drop (y * W)).take W)
    have h2 : ((L.drop (y * W)).take W).length ≤ W := List.length_take_le _ _
    omega
open Classical in
noncomputable def stM (W H : Int) (L : List Int) (l : Int) : List Int :=
 if imOk W H L ∧ (l = 0 ∨ l = 1) then stR W H l L L.length else if imOk W H L ∧ l = 2 then runR W.toNat L H.toNat else []
noncomputable def stB (W H : Int) (L : List Int) (l : Int) : Bool := @decide (imOk W H L ∧ 0 ≤ l ∧ l ≤ 2) (Classical.propDecidable _)
theorem stM_01 {W H l : Int} {L : List Int} (h : imOk W H L) (hl : l = 0 ∨ l = 1) : stM W H L l = stR W H l L L.length := if_pos ⟨h, hl⟩
theorem stM_2 {W H : Int} {L : List Int} (h : imOk W H L) : stM W H L 2 = runR W.toNat L H.toNat := by
 unfold stM; rw [if_neg (fun k => by have := k.2; omega), if_pos ⟨h, rfl⟩]
theorem stM_no {W H l : Int} {L : List Int} (h : ¬ (imOk W H L ∧ 0 ≤ l ∧ l ≤ 2)) : stM W H L l = [] := by
 unfold stM; rw [if_neg (fun k => h ⟨k.1, by have := k.2; omega⟩), if_neg (fun k => h ⟨k.1, by have := k.2; omega⟩)]
theorem stB_yes {W H l : Int} {L : List Int} (h : imOk W H L) (h0 : 0 ≤ l) (h2 : l ≤ 2) : stB W H L l = true := by unfold stB; simp [h, h0, h2]
theorem stB_no {W H l : Int} {L : List Int} (h : ¬ (imOk W H L ∧ 0 ≤ l ∧ l ≤ 2)) : stB W H L l = false := by unfold stB; simp only [decide_eq_false_iff_not]; exact h
theorem stM_len (W H : Int) (L : List Int) (l : Int) : (stM W H L l).length ≤ 512 := by
 by_cases h : imOk W H L ∧ 0 ≤ l ∧ l ≤ 2
 ·obtain ⟨hi, h0, h2⟩ := h
  by_cases hl : l = 2
  ·subst hl
   rw [stM_2 hi]
   obtain ⟨X, Y, rfl, rfl, _, h1, _, h3, h4⟩ := im_nat hi
   have h5 := runR_len X L Y
   have h6 : Y * X ≤ 256 := mul_256 h3 h1
   rw [show (Int.toNat (X : Int)) = X from rfl, show (Int.toNat (Y : Int)) = Y from rfl]
   omega
  ·rw [stM_01 hi (by omega), stR_len]
   have := wct_bd hi.1 (show l = 0 ∨ l = 1 by omega)
   omega
 ·rw [stM_no h]; exact Nat.zero_le _
end Go.Proofs.Ytokniebejilcbaa
namespace Go.Proofs.Ytokniebejilcbaa
open Go.RowKit
def IntIs (q : Int) (w : World) (e : Ending) (w' : World) : Prop := e = .returned (.int .i64 q) ∧ w = w'
def IntBe (q : Int) (w : World) (e : Ending) (w' : World) : Prop := e = .returned (.int .i64 q) ∧ Below w.heap.size w w'
theorem wct_4 {W H : Int} (h : szOk W H) : wct W H 1 = (W + 3) / 4 * ((H + 3) / 4) * 4 * 4 := by
 rw [wct_1 h, Int.mul_assoc ((W + 3) / 4) 4, Int.mul_comm 4 ((H + 3) / 4 * 4), Int.mul_assoc ((H + 3) / 4), ← Int.mul_assoc ((W + 3) / 4), Int.mul_assoc _ 4 4]
theorem til_bd {W H : Int} (h : szOk W H) : 1 ≤ (W + 3) / 4 * ((H + 3) / 4) ∧ (W + 3) / 4 * ((H + 3) / 4) ≤ 16 := by
 have h1 := wct_bd h (Or.inr rfl)
 rw [wct_4 h] at h1
 omega
theorem tilI (W : Int) (h1 : 1 ≤ W) (h2 : W ≤ 16) (w : World) : Calls Try.prog 63 #[.int .i64 W] w (IntIs ((W + 3) / 4) w) := by
 have HV : Hid ((W + 4 - 1) / 4 = (W + 3) / 4) := Lib.hid (by omega)
 go_enter Try.func63, Try.ntmps63
 go_wp2_with fail
 go_ret
 exact ⟨ret_int (by first | rfl | exact HV.out), rfl⟩
theorem wctI (W H l : Int) (w : World) : Calls Try.prog 13 #[.int .i64 W, .int .i64 H, .int .i64 l] w (IntIs (wct W H l) w) := by
 by_cases h : szOk W H
 ·have Hz := Lib.hid h
  obtain ⟨h1, h2, h3, h4⟩ := id h
  by_cases e0 : l = 0
  ·subst e0
   have h5 := sz_mul h
   have HV := Lib.hid (wct_0 h)
   obtain ⟨h6, h7⟩ := h5
   clear h
   go_enter Try.func13, Try.ntmps13
   go_wp2_with (go_at_call 62; (with_reducible refine (szI_yes _ _ Hz.out _).mono ?_); rintro e w' ⟨rfl, rfl⟩)
   go_ret
   exact ⟨ret_int HV.out.symm, rfl⟩
  ·by_cases e1 : l = 1
   ·subst e1
    have HV := Lib.hid (wct_4 h)
    obtain ⟨h6, h7⟩ := til_bd h
    have HA := Lib.hid (tilI W h1 h2)
    have HB := Lib.hid (tilI H h3 h4)
    unfold IntIs at HA HB
    obtain ⟨a, ha⟩ : ∃ a, a = (W + 3) / 4 := ⟨_, rfl⟩
    obtain ⟨b, hb⟩ : ∃ b, b = (H + 3) / 4 := ⟨_, rfl⟩
    rw [← ha] at HV HA h6 h7
    rw [← hb] at HV HB h6 h7
    clear h e0 ha hb
    go_enter Try.func13, Try.ntmps13
    go_wp2_with (first | (go_at_call 62; (with_reducible refine (szI_yes _ _ Hz.out _).mono ?_); rintro e w' ⟨rfl, rfl⟩) | (go_at_call 63; (with_reducible refine (HA.out _).mono ?_); rintro e w' ⟨rfl, rfl⟩) | (go_at_call 63; (with_reducible refine (HB.out _).mono ?_); rintro e w' ⟨rfl, rfl⟩))
    go_ret
    exact ⟨ret_int HV.out.symm, rfl⟩
   ·have HV := Lib.hid (wct_no (W := W) (H := H) (l := l) fun k => by have := k.2; omega)
    clear h
    go_enter Try.func13, Try.ntmps13
    go_wp2_with (go_at_call 62; (with_reducible refine (szI_yes _ _ Hz.out _).mono ?_); rintro e w' ⟨rfl, rfl⟩)
    go_ret
    exact ⟨ret_int HV.out.symm, rfl⟩
 ·have HV := Lib.hid (wct_no (W := W) (H := H) (l := l) fun k => h k.1)
  have Hz := Lib.hid h
  clear h
  go_enter Try.func13, Try.ntmps13
  go_wp2_with (go_at_call 62; (with_reducible refine (szI_no _ _ Hz.out _).mono ?_); rintro e w' ⟨rfl, rfl⟩)
  go_ret
  exact ⟨ret_int HV.out.symm, rfl⟩
theorem wplI_yes (W H l x y : Int) (h : szOk W H) (hl : l = 0 ∨ l = 1) (hx : 0 ≤ x ∧ x < W) (hy : 0 ≤ y ∧ y < H) (w : World) : Calls Try.prog 15 #[.int .i64 W, .int .i64 H, .int .i64 l, .int .i64 x, .int .i64 y] w (IntBe (wpl W H l x y) w) := by
 have HC := fun V => wctI W H l V
 unfold IntIs at HC
 have hb := wpl_bd h hl hx hy
 have hc := wct_bd h hl
 obtain ⟨q, hq⟩ : ∃ q, q = wct W H l := ⟨_, rfl⟩
 rw [← hq] at HC hb hc
 have hqn : ¬ q < 0 := by omega
 have HC := Lib.hid HC
 obtain ⟨hx1, hx2⟩ := hx
 obtain ⟨hy1, hy2⟩ := hy
 obtain ⟨h1, h2, h3, h4⟩ := id h
 have HP := fun V => hasI_any ⟨0, 0, W, H⟩ x y V
 rw [has_yes ⟨show Rc.ok _ by unfold Rc.ok; simp only; omega, by simp only; omega⟩] at HP
 dsimp only at HP
 have HP := Lib.hid HP
 rcases hl with rfl | rfl
 ·have HV := Lib.hid (wpl_0 h ⟨hx1, hx2⟩ ⟨hy1, hy2⟩)
  rw [HV.out] at hb
  have hm : 0 ≤ y * W := Int.mul_nonneg hy1 (by omega)
  obtain ⟨hb1, hb2⟩ := hb
  clear h hq
  go_enter Try.func15, Try.ntmps15
  go_wp2_with (go_at_call 13; (with_reducible refine (HC.out _).mono ?_); rintro e w' ⟨rfl, rfl⟩)
  refine (HP.out _).mono ?_
  rintro e w1 ⟨rfl, hb⟩
  go_wp2_with fail
  go_ret
  exact ⟨ret_int HV.out.symm, hb⟩
 ·have HV := Lib.hid (wpl_1 h ⟨hx1, hx2⟩ ⟨hy1, hy2⟩)
  rw [HV.out] at hb
  have hm : 0 ≤ y / 4 * ((W + 3) / 4) := Int.mul_nonneg (by omega) (by omega)
  obtain ⟨hb1, hb2⟩ := hb
  have HA := Lib.hid (tilI W h1 h2)
  unfold IntIs at HA
  clear h hq
  go_enter Try.func15, Try.ntmps15
  go_wp2_with (go_at_call 13; (with_reducible refine (HC.out _).mono ?_); rintro e w' ⟨rfl, rfl⟩)
  refine (HP.out _).mono ?_
  rintro e w1 ⟨rfl, hb⟩
  go_wp2_with (go_at_call 63; (with_reducible refine (HA.out _).mono ?_); rintro e w' ⟨rfl, rfl⟩)
  go_ret
  exact ⟨ret_int (by rw [HV.out]; omega), hb⟩
theorem wplI_no (W H l x y : Int) (h : ¬ (szOk W H ∧ (l = 0 ∨ l = 1) ∧ 0 ≤ x ∧ x < W ∧ 0 ≤ y ∧ y < H)) (w : World) : Calls Try.prog 15 #[.int .i64 W, .int .i64 H, .int .i64 l, .int .i64 x, .int .i64 y] w (IntBe (wpl W H l x y) w) := by
 have HC := fun V => wctI W H l V
 unfold IntIs at HC
 have HV := Lib.hid (wpl_no h)
 by_cases hc : szOk W H ∧ (l = 0 ∨ l = 1)
 ·have hcb := wct_bd hc.1 hc.2
  obtain ⟨q, hq⟩ : ∃ q, q = wct W H l := ⟨_, rfl⟩
  rw [← hq] at HC hcb
  have hqn : ¬ q < 0 := by omega
  have HC := Lib.hid HC
  have HP := fun V => hasI_any ⟨0, 0, W, H⟩ x y V
  rw [has_no fun k => by have h2 := k.2; simp only at h2; exact h ⟨hc.1, hc.2, by omega⟩] at HP
  dsimp only at HP
  have HP := Lib.hid HP
  clear h hq hc hcb
  go_enter Try.func15, Try.ntmps15
  go_wp2_with (go_at_call 13; (with_reducible refine (HC.out _).mono ?_); rintro e w' ⟨rfl, rfl⟩)
  refine (HP.out _).mono ?_
  rintro e w1 ⟨rfl, hb⟩
  go_wp2_with fail
  go_ret
  exact ⟨ret_int HV.out.symm, hb⟩
 ·rw [wct_no hc] at HC
  have HC := Lib.hid HC
  clear h hc
  go_enter Try.func15, Try.ntmps15
  go_wp2_with (go_at_call 13; (with_reducible refine (HC.out _).mono ?_); rintro e w' ⟨rfl, rfl⟩)
  go_ret
  exact ⟨ret_int HV.out.symm, Below.refl _ _⟩
theorem wplI (W H l x y : Int) (w : World) : Calls Try.prog 15 #[.int .i64 W, .int .i64 H, .int .i64 l, .int .i64 x, .int .i64 y] w (IntBe (wpl W H l x y) w) := by
 by_cases h : szOk W H ∧ (l = 0 ∨ l = 1) ∧ 0 ≤ x ∧ x < W ∧ 0 ≤ y ∧ y < H
 ·obtain ⟨h0, hl, h1, h2, h3, h4⟩ := h
  exact wplI_yes W H l x y h0 hl ⟨h1, h2⟩ ⟨h3, h4⟩ w
 ·exact wplI_no W H l x y h w
end Go.Proofs.Ytokniebejilcbaa
namespace Go.Proofs.Ytokniebejilcbaa
open Go.RowKit
noncomputable def plk (W H l : Int) (k : Nat) : Nat := (wpl W H l ((k : Int) % W) ((k : Int) / W)).toNat
theorem plk_nat (W H l : Int) (X k : Nat) (h : W = X) : wpl W H l ((k : Int) % W) ((k : Int) / W) = wpl W H l ((k % X : Nat) : Int) ((k / X : Nat) : Int) := by
 subst h; rw [Int.natCast_emod, Int.natCast_ediv]
theorem plk_bd {X Y : Nat} {l : Int} (h : szOk X Y) (hl : l = 0 ∨ l = 1) {k : Nat} (hk : k < X * Y) : plk X Y l k < (wct X Y l).toNat ∧ ((plk X Y l k : Nat) : Int) = wpl X Y l ((k : Int) % X) ((k : Int) / X) := by
 have hX : 0 < X := plc_pos hk
 have h1 := plc_row hk
 have h2 : k % X < X := Nat.mod_lt _ hX
 unfold plk
 rw [plk_nat _ _ _ X k rfl]
 generalize k % X = x at h2
 generalize k / X = y at h1
 have hb := wpl_bd h hl (x := x) (y := y) ⟨by omega, by omega⟩ ⟨by omega, by omega⟩
 omega
theorem plk_inj {X Y : Nat} {l : Int} (h : szOk X Y) (hl : l = 0 ∨ l = 1) {j k : Nat} (hj : j < X * Y) (hk : k < X * Y) (he : plk X Y l j = plk X Y l k) : j = k := by
 have hX : 0 < X := plc_pos hk
 have a1 := plc_row hk
 have a2 : k % X < X := Nat.mod_lt _ hX
 have b1 := plc_row hj
 have b2 : j % X < X := Nat.mod_lt _ hX
 have e1 := (plk_bd h hl hj).2
 have e2 := (plk_bd h hl hk).2
 rw [he, e2, plk_nat _ _ _ X k rfl, plk_nat _ _ _ X j rfl] at e1
 have e5 := plc_eq j X
 have e6 := plc_eq k X
 generalize k % X = x at *
 generalize k / X = y at *
 generalize j % X = x2 at *
 generalize j / X = y2 at *
 obtain ⟨e3, e4⟩ := wpl_inj h hl ⟨by omega, by omega⟩ ⟨by omega, by omega⟩ ⟨by omega, by omega⟩ ⟨by omega, by omega⟩ e1
 obtain rfl : x = x2 := by omega
 obtain rfl : y = y2 := by omega
 omega
theorem stR_get {X Y : Nat} {l : Int} (h : szOk X Y) (hl : l = 0 ∨ l = 1) (L : List Int) (k : Nat) (hk : k ≤ X * Y) (j : Nat) (hj : j < k) : (stR X Y l L k)[plk X Y l j]? = some (L.getD j 0) := by
  induction k with
  | zero => omega
  | succ k ih =>
    unfold stR
    have e : (wpl X Y l ((k : Int) % X) ((k : Int) / X)).toNat = plk X Y l k := rfl
    rw [e, List.getElem?_set]
    by_cases hjk : plk X Y l k = plk X Y l j
    · obtain rfl := plk_inj h hl (by omega) (by omega) hjk
      rw [if_pos hjk, if_pos (by rw [stR_len]; exact (plk_bd h hl (by omega)).1)]
    · rw [if_neg hjk]
      exact ih (by omega) (by
        rcases Nat.lt_or_ge j k with h1 | h1
        · exact h1
        · exact absurd (by rw [show j = k by omega]) hjk)
def flatR : List Int → List Int
 | n :: p :: r => List.replicate n.toNat p ++ flatR r
 | _ => []
theorem rlen_take {L : List Int} (h : L ≠ []) : List.replicate (rlen L) (L.headD 0) = L.take (rlen L) := by
  cases L with
  | nil => exact absurd rfl h
  | cons x r =>
    unfold rlen
    rw [List.replicate_succ, List.take_succ_cons]
    congr 1
    induction r with
    | nil => rfl
    | cons y r ih =>
      by_cases e : y = x
      · subst e
        rw [List.takeWhile_cons_of_pos (by simp), List.length_cons, List.replicate_succ, List.take_succ_cons]
        congr 1
        exact ih (by simp)
      · rw [List.takeWhile_cons_of_neg (by simp [e])]
        rfl
theorem flat_run (n : Nat) (L B : List Int) (h : L.length ≤ n) : flatR (runF n L ++ B) = L ++ flatR B := by
  induction n generalizing L with
  | zero =>
    obtain rfl : L = [] := List.length_eq_zero_iff.1 (by omega)
    rfl
  | succ n ih =>
    by_cases hL : L = []
    · subst hL; simp [runF]
    · have h3 := rlen_pos hL
      have h4 := rlen_le L
      unfold runF
      rw [if_neg hL, List.cons_append, List.cons_append]
      show List.replicate (Int.toNat (rlen L : Int)) (L.headD 0) ++ flatR (runF n (L.drop (rlen L)) ++ B) = _
      rw [ih _ (by rw [List.length_drop]; omega), Int.toNat_natCast, rlen_take hL, ← List.append_assoc, List.take_append_drop]
theorem flat_rows (W : Nat) (L B : List Int) (y : Nat) (h : y * W ≤ L.length) : flatR (runR W L y ++ B) = L.take (y * W) ++ flatR B := by
  induction y generalizing B with
  | zero => simp [runR]
  | succ y ih =>
    rw [Nat.add_mul, Nat.one_mul] at h ⊢
    unfold runR
    rw [List.append_assoc, ih _ (by omega)]
    unfold runL
    rw [flat_run _ _ _ (Nat.le_refl _), ← List.append_assoc, ← List.take_add]
def ldP (ws : List Int) (W H l : Int) (D : List Int) : Prop := imOk W H D ∧ 0 ≤ l ∧ l ≤ 2 ∧ stM W H D l = ws
noncomputable def ldPl (ws : List Int) (W H l : Int) (n : Nat) : List Int := tabI n fun k => ws.getD (plk W H l k) 0
theorem ld_flat {ws D : List Int} {W H l : Int} (h : ldP ws W H l D) (hl : l = 2) : flatR ws = D := by
 subst hl
 obtain ⟨hi, _, _, hs⟩ := h
 rw [stM_2 hi] at hs
 obtain ⟨X, Y, rfl, rfl, _, _, _, _, hL⟩ := im_nat hi
 have e : Y * X = D.length := by rw [hL, Nat.mul_comm]
 have := flat_rows X D [] Y (by omega)
 rw [List.append_nil, e, List.take_length, show flatR [] = [] from rfl, List.append_nil] at this
 rw [← hs]
 exact this
theorem ld_pl {ws D : List Int} {W H l : Int} (h : ldP ws W H l D) (hl : l = 0 ∨ l = 1) : (ws.length : Int) = wct W H l ∧ ldPl ws W H l D.length = D := by
 obtain ⟨hi, _, _, hs⟩ := h
 rw [stM_01 hi hl] at hs
 have hb := wct_bd hi.1 hl
 have hz := hi.1
 obtain ⟨X, Y, rfl, rfl, _, _, _, _, hL⟩ := im_nat hi
 refine ⟨by rw [← hs, stR_len]; omega, ?_⟩
 apply List.ext_getElem?
 intro j
 unfold ldPl
 by_cases hj : j < D.length
 ·have h2 := stR_get hz hl D D.length (by omega) j hj
  rw [hs] at h2
  rw [tabI_get _ _ _ hj, List.getD_eq_getElem?_getD, show ws[plk X Y l j]? = _ from h2, Option.getD_some, List.getD_eq_getElem?_getD, List.getElem?_eq_getElem hj, Option.getD_some]
 ·rw [List.getElem?_eq_none (by rw [tabI_length]; omega), List.getElem?_eq_none (by omega)]
theorem ld_uniq {ws D E : List Int} {W H l : Int} (h : ldP ws W H l D) (h2 : ldP ws W H l E) : D = E := by
 by_cases hl : l = 2
 ·rw [← ld_flat h hl, ← ld_flat h2 hl]
 ·have hl : l = 0 ∨ l = 1 := by have := h.2.1; have := h.2.2.1; omega
  have e : D.length = E.length := by have h3 := h.1.2.1; have h4 := h2.1.2.1; omega
  rw [← (ld_pl h hl).2, ← (ld_pl h2 hl).2, e]
open Classical in
noncomputable def ldM (ws : List Int) (W H l : Int) : Im := if h : ∃ D, ldP ws W H l D then ⟨W, H, Classical.choose h⟩ else ⟨0, 0, []⟩
noncomputable def ldB (ws : List Int) (W H l : Int) : Bool := @decide (∃ D, ldP ws W H l D) (Classical.propDecidable _)
theorem ldM_yes {ws D : List Int} {W H l : Int} (h : ldP ws W H l D) : ldM ws W H l = ⟨W, H, D⟩ ∧ ldB ws W H l = true := by
 have h2 : ∃ D, ldP ws W H l D := ⟨D, h⟩
 refine ⟨?_, by unfold ldB; simp [h2]⟩
 unfold ldM
 rw [dif_pos h2, ld_uniq (Classical.choose_spec h2) h]
theorem ldM_no {ws : List Int} {W H l : Int} (h : ¬ ∃ D, ldP ws W H l D) : ldM ws W H l = ⟨0, 0, []⟩ ∧ ldB ws W H l = false := by
 refine ⟨?_, by unfold ldB; simp only [decide_eq_false_iff_not]; exact h⟩
 unfold ldM
 rw [dif_neg h]
theorem ld_cand {ws D : List Int} {W H l : Int} (hc : ∀ E, ldP ws W H l E → D = E) : (stB W H D l = true ∧ stM W H D l = ws → ldM ws W H l = ⟨W, H, D⟩ ∧ ldB ws W H l = true) ∧ (¬ (stB W H D l = true ∧ stM W H D l = ws) → ldM ws W H l = ⟨0, 0, []⟩ ∧ ldB ws W H l = false) := by
 constructor
 ·rintro ⟨h1, h2⟩
  by_cases h : imOk W H D ∧ 0 ≤ l ∧ l ≤ 2
  ·exact ldM_yes ⟨h.1, h.2.1, h.2.2, h2⟩
  ·rw [stB_no h] at h1; cases h1
 ·intro h
  refine ldM_no ?_
  rintro ⟨E, hE⟩
  obtain rfl := hc E hE
  exact h ⟨stB_yes hE.1 hE.2.1 hE.2.2.1, hE.2.2.2⟩
end Go.Proofs.Ytokniebejilcbaa
namespace Go.Proofs.Ytokniebejilcbaa
open Go.RowKit
def AnsIs (M : List Int) (w : World) (e : Ending) (w' : World) : Prop := ∃ u, e = .returned u ∧ w'.ownsRow w.heap.size 3 1 u M.length (intCells M) ∧ Below w.heap.size w w'
theorem ownI_zero (w : World) : (w.alloc (.cells #[] 3)).ownsRow w.heap.size 3 1 (.slice (some ⟨w.heap.size, 0, none⟩) 0 0) 0 (intCells []) :=
 ⟨rfl, .inr ⟨w.heap.size, 0, #[], rfl, Nat.le_refl _, heap_alloc_new w _, Nat.le_refl _, by unfold maxLen; omega, rfl, rfl⟩⟩
end Go.Proofs.Ytokniebejilcbaa
namespace Go.Proofs.Ytokniebejilcbaa
open Go.RowKit
def upTo (p : Nat → Bool) : Nat → Nat
 | 0 => 0
 | n + 1 => if upTo p n = n ∧ p n = true then n + 1 else upTo p n
theorem upTo_all {p : Nat → Bool} {n : Nat} (h : ∀ k, k < n → p k = true) : upTo p n = n := by
 induction n with
 | zero => rfl
 | succ n ih => unfold upTo; rw [if_pos ⟨ih fun k hk => h k (by omega), h n (by omega)⟩]
theorem upTo_stop {p : Nat → Bool} {j : Nat} (h : ∀ k, k < j → p k = true) (hj : p j = false) {n : Nat} (hn : j ≤ n) : upTo p n = j := by
  induction n with
  | zero => obtain rfl : j = 0 := by omega
            rfl
  | succ n ih =>
    unfold upTo
    by_cases e : j = n + 1
    · subst e
      rw [upTo_all fun k hk => h k (by omega), if_pos ⟨rfl, h n (by omega)⟩]
    · rw [ih (by omega), if_neg]
      rintro ⟨e2, e3⟩
      rw [← e2, hj] at e3
      cases e3
noncomputable def plB (ws : List Int) (W H l : Int) (k : Nat) : Bool := decide (0 ≤ wpl W H l ((k : Int) % W) ((k : Int) / W) ∧ wpl W H l ((k : Int) % W) ((k : Int) / W) < ws.length)
noncomputable def pixL (ws : List Int) (W H l : Int) : List Int := if l = 2 then flatR ws else ldPl ws W H l (upTo (plB ws W H l) (W * H).toNat)
noncomputable def pixD (ws : List Int) (W H l : Int) : List Int := (pixL ws W H l).take (W * H).toNat
theorem pixD_cand {ws : List Int} {W H l : Int} (E : List Int) (h : ldP ws W H l E) : pixD ws W H l = E := by
 have hl : (E.length : Int) = W * H := h.1.2.1
 unfold pixD pixL
 by_cases h2 : l = 2
 ·rw [if_pos h2, ld_flat h h2]
  exact List.take_of_length_le (by omega)
 ·have h01 : l = 0 ∨ l = 1 := by have := h.2.1; have := h.2.2.1; omega
  obtain ⟨e1, e2⟩ := ld_pl h h01
  have hz := h.1.1
  have hall : ∀ k, k < (W * H).toNat → plB ws W H l k = true := by
   obtain ⟨X, Y, rfl, rfl, _, _, _, _, hL⟩ := im_nat h.1
   intro k hk
   have hk2 : k < X * Y := by omega
   obtain ⟨h3, h4⟩ := plk_bd hz h01 hk2
   exact decide_eq_true (by rw [← h4]; omega)
  rw [if_neg h2, upTo_all hall, show (W * H).toNat = E.length by omega, e2, List.take_length]
theorem ldM_sz {ws : List Int} {W H l : Int} (h : ¬ szOk W H) : ldM ws W H l = ⟨0, 0, []⟩ ∧ ldB ws W H l = false := ldM_no (by rintro ⟨D, hD⟩; exact h hD.1.1)
end Go.Proofs.Ytokniebejilcbaa
namespace Go.Proofs.Ytokniebejilcbaa
open Go.RowKit
theorem runF_even (n : Nat) (L : List Int) : (runF n L).length % 2 = 0 := by
  induction n generalizing L with
  | zero => rfl
  | succ n ih =>
    unfold runF
    by_cases h : L = []
    · rw [if_pos h]; rfl
    · rw [if_neg h, List.length_cons, List.length_cons]
      have := ih (L.drop (rlen L))
      omega
theorem runR_even (W : Nat) (L : List Int) (y : Nat) : (runR W L y).length % 2 = 0 := by
  induction y with
  | zero => rfl
  | succ y ih =>
    unfold runR runL
    rw [List.length_append]
    have := runF_even ((L.drop (y * W)).take W).length ((L.drop (y * W)).take W)
    omega
theorem ld_back {X Y l : Int} {L : List Int} (h : imOk X Y L) (h0 : 0 ≤ l) (h2 : l ≤ 2) : ldM (stM X Y L l) X Y l = ⟨X, Y, L⟩ ∧ ldB (stM X Y L l) X Y l = true := ldM_yes ⟨h, h0, h2, rfl⟩
theorem ld_more {X Y l z : Int} {L : List Int} (h : imOk X Y L) (h0 : 0 ≤ l) (h2 : l ≤ 2) : ldM (stM X Y L l ++ [z]) X Y l = ⟨0, 0, []⟩ ∧ ldB (stM X Y L l ++ [z]) X Y l = false := by
 refine ldM_no ?_
 rintro ⟨D, hD, _, _, hs⟩
 have e := congrArg List.length hs
 rw [List.length_append, List.length_singleton] at e
 by_cases hl : l = 2
 ·subst hl
  rw [stM_2 h, stM_2 hD] at e
  have e1 := runR_even X.toNat L Y.toNat
  have e2 := runR_even X.toNat D Y.toNat
  omega
 ·rw [stM_01 h (by omega), stM_01 hD (by omega), stR_len, stR_len] at e
  omega
noncomputable def plcL (X Y : Nat) (k : Nat) : List Int := tabI k fun j => (plk X Y 1 j : Int)
theorem plcL_new {X Y k : Nat} (h : szOk X Y) (hk : k < X * Y) : ∀ (j : Nat) (x : Int), (plcL X Y k)[j]? = some x → x ≠ (plk X Y 1 k : Int) := by
 intro j x hj e
 have hjk : j < k := by have := (List.getElem?_eq_some_iff.1 hj).1; unfold plcL at this; rwa [tabI_length] at this
 unfold plcL at hj
 rw [tabI_get _ _ _ hjk] at hj
 injection hj with hj
 have := plk_inj h (Or.inr rfl) (by omega) hk (show plk X Y 1 j = plk X Y 1 k by omega)
 omega
set_option maxHeartbeats 1000000 in
theorem hasL_no (v : Value) (L : List Int) (p : Int) (w : World) (hv : RdI w v L) (hL : L.length ≤ 1000000) (hno : ∀ (j : Nat) (x : Int), L[j]? = some x → x ≠ p) :
  Calls Try.prog 32 #[v, .int .i64 p] w fun e w' => e = .returned (.bool false) ∧ w = w' := by
 obtain ⟨A, c, rfl⟩ := hv.form
 obtain ⟨n, hn⟩ : ∃ n, n = L.length := ⟨_, rfl⟩
 rw [← hn] at hv hL ⊢
 have Hn := Lib.hid hn
 have Hv := Lib.hid hv
 have Hno := Lib.hid hno
 clear hn hv hno
 go_enter Try.func32, Try.ntmps32
 go_wp2_with fail
 go_loopw [5] (fun i wr => ∃ k : Nat, k ≤ n ∧ i = .int .i64 k ∧ wr = w) (fun i _ => n - (intOf i).toNat)
 case atStart => exact ⟨0, Nat.zero_le _, rfl, rfl⟩
 case round =>
  obtain ⟨k, hk, rfl, rfl⟩ := hrel
  by_cases hlt : k < n
  ·obtain ⟨g, x, rfl, hx, hc⟩ := Hv.out.at_ (k := k) (by rw [← Hn.out]; exact hlt)
   have hxp : (x == p) = false := by rw [beq_eq_false_iff_ne]; exact Hno.out k x hx
   have k0 : (0 : Int) ≤ (k : Int) := by omega
   have k1 : (k : Int) < (n : Int) := by omega
   clear hx
   go_wp2_with fail
   go_roundw
   case rel => exact ⟨k + 1, by omega, by go_num, by first | rfl | trivial⟩
   case measure => simp [intOf]; omega
  ·obtain rfl : k = n := by omega
   go_wp2_with fail
   go_ret
   exact ⟨rfl, rfl⟩
end Go.Proofs.Ytokniebejilcbaa
