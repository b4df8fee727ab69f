/- The pixels of a part of an image. No statement is proved here. -/
import Derived.Test.YtaggldhlnjbnhaaRd
import Derived.Test.YtaggldhlnjbnhaaIntR
import Derived.Test.YtaggldhlnjbnhaaImR
import Derived.Test.YtaggldhlnjbnhaaRectC
import Derived.Test.YtaggldhlnjbnhaaPixM
import Derived.Test.YtaggldhlnjbnhaaImO
import Derived.Test.YtaggldhlnjbnhaaImL
import Derived.Test.YtaggldhlnjbnhaaImV
import Derived.Test.YtaggldhlnjbnhaaImN
import Derived.Test.YtaggldhlnjbnhaaBlk4
import Derived.Test.YtaggldhlnjbnhaaIsectP
import Derived.Test.YtaggldhlnjbnhaaRectEq
import Derived.Test.YtaggldhlnjbnhaaCoverC
import Derived.Test.YtaggldhlnjbnhaaHasC
import Derived.Test.YtaggldhlnjbnhaaRegM
import Derived.Test.YtaggldhlnjbnhaaRectM
import Derived.Test.YtaggldhlnjbnhaaRds
import Derived.Test.YtaggldhlnjbnhaaImM
import Derived.Test.YtaggldhlnjbnhaaFilB
import Derived.Test.YtaggldhlnjbnhaaProg
import Derived.WalkKit
import Derived.ProofKit
import Derived.OpenShut
import Derived.WalkLawsBesides
import Derived.WalkSpells
import Derived.ShutString
import Derived.ChangeOld
import Derived.Below
import Derived.Lib.Hide
import Derived.BigQuiet
import Derived.Deep.QuietTactic
import Derived.Maps.AppendAt
import Derived.Deep.OwnRows
import Derived.Handy
import Derived.Deep.Draws
import Derived.OwnWalk
import Derived.Deep.AppendLies
import Derived.Deep.LoopGhost
import Derived.Deep.Onto
import Derived.Laws.BitsAllLaws
import Derived.Lib.QuoteBits
import Derived.Test.YtaggldhlnjbnhaaShelf
import Derived.Laws.CopyOwn
import Derived.Deep.RegionLaw
import Derived.Deep.RegionHeld3
import Derived.Deep.DeepCutAuto
import Derived.Great.BuildSlice
import Derived.Deep.MidRow
import Derived.Deep.WholeRow
import Derived.Laws.AppendOwn
namespace Go.Proofs.Ytaggldhlnjbnhaa
open Go.RowKit
/-- The first k rows of the part of an image of width W at X, Y, of width n. -/
def rowsL (W : Nat) (L : List Int) (X Y n : Nat) : Nat → List Int
  | 0 => []
  | k + 1 => rowsL W L X Y n k ++ tabI n (fun i => L.getD ((Y + k) * W + X + i) 0)
theorem rowsL_length (W : Nat) (L : List Int) (X Y n k : Nat) : (rowsL W L X Y n k).length = k * n := by
  induction k with
  | zero => simp [rowsL]
  | succ k ih => unfold rowsL; rw [List.length_append, ih, tabI_length, Nat.add_mul, Nat.one_mul]
open Classical in
noncomputable def cropIm (X Y : Int) (L : List Int) (r : Rc) : Im × Bool :=
  if imOk X Y L ∧ covB ⟨0, 0, X, Y⟩ r = true ∧ ¬ r.emp then (⟨r.w, r.h, rowsL X.toNat L r.x.toNat r.y.toNat r.w.toNat r.h.toNat⟩, true) else (zeroIm, false)
theorem crop_no {X Y : Int} {L : List Int} {r : Rc} (h : ¬ (imOk X Y L ∧ covB ⟨0, 0, X, Y⟩ r = true ∧ ¬ r.emp)) : cropIm X Y L r = (zeroIm, false) := if_neg h
/-- A rectangle within the image, in naturals. -/
theorem crop_nat {W H : Nat} {r : Rc} (hc : covB ⟨0, 0, W, H⟩ r = true) (he : ¬ r.emp) :
    ∃ X Y n h : Nat, r = ⟨X, Y, n, h⟩ ∧ 1 ≤ n ∧ 1 ≤ h ∧ X + n ≤ W ∧ Y + h ≤ H := by
  have hc' : (⟨0, 0, W, H⟩ : Rc).ok ∧ r.ok ∧ (r.emp ∨ isect ⟨0, 0, W, H⟩ r = r) := by
    by_cases h : (⟨0, 0, W, H⟩ : Rc).ok ∧ r.ok ∧ (r.emp ∨ isect ⟨0, 0, W, H⟩ r = r)
    · exact h
    · rw [cov_no h] at hc; cases hc
  obtain ⟨h1, h2, h3⟩ := hc'
  have h3 := h3.resolve_left he
  unfold Rc.emp at he
  rcases isect_cases ⟨0, 0, W, H⟩ r h1 h2 with ⟨hi, e⟩ | ⟨hi, e⟩
  · rw [e] at h3
    unfold isectRaw at h3
    have e0 := congrArg Rc.x h3
    have e1 := congrArg Rc.y h3
    have e2 := congrArg Rc.w h3
    have e3 := congrArg Rc.h h3
    unfold isectIn at hi
    dsimp only at e0 e1 e2 e3 hi
    obtain ⟨X, hX⟩ := Int.eq_ofNat_of_zero_le (show 0 ≤ r.x by omega)
    obtain ⟨Y, hY⟩ := Int.eq_ofNat_of_zero_le (show 0 ≤ r.y by omega)
    obtain ⟨n, hn⟩ := Int.eq_ofNat_of_zero_le (show 0 ≤ r.w by omega)
    obtain ⟨h, hh⟩ := Int.eq_ofNat_of_zero_le (show 0 ≤ r.h by omega)
    refine ⟨X, Y, n, h, rc_ext ⟨hX, hY, hn, hh⟩, ?_, ?_, ?_, ?_⟩ <;> omega
  · rw [e] at h3
    exact absurd (Or.inl (by rw [← h3])) he
theorem crop_val {W H X Y n h : Nat} {L : List Int} (h1 : imOk W H L) (hc : covB ⟨0, 0, W, H⟩ ⟨X, Y, n, h⟩ = true) (he : ¬ (⟨X, Y, n, h⟩ : Rc).emp) :
    cropIm W H L ⟨X, Y, n, h⟩ = (⟨n, h, rowsL W L X Y n h⟩, true) := if_pos ⟨h1, hc, he⟩
theorem crop_len (X Y : Int) (L : List Int) (r : Rc) : (cropIm X Y L r).1.d.length ≤ 256 := by
  by_cases h : imOk X Y L ∧ covB ⟨0, 0, X, Y⟩ r = true ∧ ¬ r.emp
  · obtain ⟨W, H, rfl, rfl, wl, wh, hl, hh, hL⟩ := im_nat h.1
    obtain ⟨X, Y, n, k, rfl, h1, h2, h3, h4⟩ := crop_nat h.2.1 h.2.2
    rw [crop_val h.1 h.2.1 h.2.2, rowsL_length]
    exact Nat.mul_le_mul (show k ≤ 16 by omega) (show n ≤ 16 by omega)
  · rw [crop_no h]; simp [zeroIm]
/-- What CropImage answers. -/
def AnsCr (P : Im × Bool) (w : World) (e : Ending) (w' : World) : Prop :=
  ∃ v, e = .returned (.tuple #[.agg #[.int .i64 P.1.w, .int .i64 P.1.h, v], .bool P.2]) ∧ w'.ownsRow w.heap.size 3 1 v P.1.d.length (intCells P.1.d) ∧ Below w.heap.size w w'
theorem ansCr_no {w w' : World} (hb : Below w.heap.size w w') : AnsCr (zeroIm, false) w (.returned (.tuple #[.agg #[.int .i64 0, .int .i64 0, .slice none 0 0], .bool false])) w' :=
  ⟨_, rfl, World.ownsRow_nil _ _ _ _, hb⟩
theorem ansCr_set {w W : World} {lo b n : Nat} {X Y : Int} {A : Option Addr} {c : Nat} {L : List Int} (h : W.ownsRow lo 3 1 (.slice A n c) n (intCells L)) (hn : L.length = n) (hb1 : w.heap.size ≤ b) (hb2 : b < lo) (K : Below w.heap.size w W) :
    AnsCr (⟨X, Y, L⟩, true) w (.returned (.tuple #[.agg #[.int .i64 X, .int .i64 Y, .slice A n c], .bool true])) (((W.setCell ⟨b, 0, none⟩ (.int .i64 X)).setCell ⟨b, 1, none⟩ (.int .i64 Y)).setCell ⟨b, 2, none⟩ (.slice A n c)) := by
  subst hn
  have hlt := fun g hg => (h.lt g hg).1
  exact ⟨_, rfl, ownI_far (ownI_far (ownI_far (h.mono (by omega)) (fun g hg => by have := hlt g hg; dsimp only; omega) _) (fun g hg => by have := hlt g hg; dsimp only; omega) _) (fun g hg => by have := hlt g hg; dsimp only; omega) _, ((K.setCell hb1 _).setCell hb1 _).setCell hb1 _⟩
/-- What CropImage keeps in memory while it gathers the rows. -/
structure CrSt (w : World) (X Y : Int) (u : Value) (r : Rc) (L : List Int) (v : Value) (q : Nat) (M : List Int) (V : World) : Prop where
  fl : FlA w X Y u r V
  d : ImAt V (w.heap.size + 2) 28 0 0 (.slice none 0 0)
  rv : RdI V u L
  own : V.ownsRow (w.heap.size + 3) 3 1 v q (intCells M)
theorem CrSt.call {w : World} {X Y : Int} {u : Value} {r : Rc} {L : List Int} {v : Value} {q : Nat} {M : List Int} {V V' : World} (h : CrSt w X Y u r L v q M V) (k : Below V.heap.size V V') : CrSt w X Y u r L v q M V' :=
  ⟨h.fl.call k, h.d.call k, h.rv.call k, ownI_call h.own k⟩
theorem CrSt.next {w : World} {X Y : Int} {u : Value} {r : Rc} {L : List Int} {v v' : Value} {q q' : Nat} {M M' : List Int} {V V' : World} (h : CrSt w X Y u r L v q M V) (hu : ∀ g, u.ownBlock = some g → g < w.heap.size)
    (ho : V'.ownsRow (w.heap.size + 3) 3 1 v' q' (intCells M')) (hg : V.grownBy V' v.ownBlock) : CrSt w X Y u r L v' q' M' V' := by
  have hlt : ∀ g, v.ownBlock = some g → w.heap.size + 3 ≤ g := fun g hg => (h.own.lt g hg).1
  refine ⟨⟨h.fl.a.grown hg (fun e => by have := hlt _ e.symm; omega), (hg.block _ h.fl.b.lt (fun e => by have := hlt _ e.symm; omega)).trans h.fl.b, h.fl.bw.grown hg h.fl.bw.size (fun k hk => by have := hlt _ hk; omega)⟩, h.d.grown hg (fun e => by have := hlt _ e.symm; omega), h.rv.grown hg (fun g hg2 e => by have := hlt _ e.symm; have := hu _ hg2; omega), ho⟩
theorem CrSt.start {w : World} {X Y : Int} {u : Value} {r : Rc} {L : List Int} {v' : Value} {V V' : World} (hS : FlA w X Y u r V) (hd : ImAt V (w.heap.size + 2) 28 0 0 (.slice none 0 0)) (hrv : RdI V u L)
    (ho : V'.ownsRow (w.heap.size + 3) 3 1 v' 0 []) (hg : V.grownBy V' none) : CrSt w X Y u r L v' 0 [] V' :=
  ⟨⟨hS.a.grown hg (by simp), (hg.block _ hS.b.lt (by simp)).trans hS.b, hS.bw.grown hg hS.bw.size (fun k hk => by cases hk)⟩, hd.grown hg (by simp), hrv.grown hg (by simp), ho⟩
theorem intCells_append (L M : List Int) : intCells (L ++ M) = intCells L ++ intCells M := by simp [intCells]
end Go.Proofs.Ytaggldhlnjbnhaa
