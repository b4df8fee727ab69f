/- The points in which two images differ; what DifferenceOf keeps in memory. No statement is proved here. -/
import Derived.Test.YtmjndoedchiggaaMA
import Derived.Test.YtmjndoedchiggaaImR
import Derived.Test.YtmjndoedchiggaaImO
import Derived.Test.YtmjndoedchiggaaImM
import Derived.Test.YtmjndoedchiggaaImV
import Derived.Test.YtmjndoedchiggaaCpyB
import Derived.Test.YtmjndoedchiggaaProg
import Derived.WalkKit
import Derived.ProofKit
import Derived.OpenShut
import Derived.WalkLawsBesides
import Derived.WalkSpells
import Derived.ShutString
import Derived.ChangeOld
import Derived.Below
import Derived.Lib.Hide
import Derived.BigQuiet
import Derived.Deep.QuietTactic
import Derived.Maps.AppendAt
import Derived.Deep.OwnRows
import Derived.Handy
import Derived.Deep.Draws
import Derived.OwnWalk
import Derived.Deep.AppendLies
import Derived.Deep.LoopGhost
import Derived.Deep.Onto
import Derived.Laws.BitsAllLaws
import Derived.Lib.QuoteBits
import Derived.Test.YtmjndoedchiggaaShelf
import Derived.Laws.CopyOwn
import Derived.Deep.RegionLaw
import Derived.Deep.RegionHeld3
import Derived.Deep.DeepCutAuto
import Derived.Great.BuildSlice
import Derived.Deep.MidRow
import Derived.Deep.WholeRow
import Derived.Laws.AppendOwn
namespace Go.Proofs.Ytmjndoedchiggaa
open Go.RowKit
/-- The points in which two images of width W differ: the rows above y, and of row y the places left of x. -/
def difS (W : Nat) (L M : List Int) (y x : Nat) : Nat → Bool := fun k =>
  decide ((k / 16 < y ∨ (k / 16 = y ∧ k % 16 < x)) ∧ k % 16 < W ∧ L.getD (k / 16 * W + k % 16) 0 ≠ M.getD (k / 16 * W + k % 16) 0)
def difG (W H : Nat) (L M : List Int) : Nat → Bool := difS W L M H 0
theorem difS_start (W : Nat) (L M : List Int) (k : Nat) : difS W L M 0 0 k = false := decide_eq_false fun h => by omega
theorem difS_row (W : Nat) (L M : List Int) (y k : Nat) : difS W L M y W k = difS W L M (y + 1) 0 k := by
  unfold difS
  rw [decide_eq_decide]
  constructor
  · rintro ⟨h1, h2, h3⟩; exact ⟨by omega, h2, h3⟩
  · rintro ⟨h1, h2, h3⟩; exact ⟨by omega, h2, h3⟩
theorem difS_set (W : Nat) (L M : List Int) (y x : Nat) (p q : Int) (b : Bool) (hx : x < W) (hW : W ≤ 16) (hp : L.getD (y * W + x) 0 = p) (hq : M.getD (y * W + x) 0 = q) (hb : b = true ↔ p ≠ q) (k : Nat) :
    gSet (difS W L M y x) (y * 16 + x) b k = difS W L M y (x + 1) k := by
  unfold gSet
  by_cases e : k = y * 16 + x
  · rw [if_pos e]
    have e1 : k / 16 = y := by omega
    have e2 : k % 16 = x := by omega
    unfold difS
    rw [e1, e2, hp, hq]
    rcases b with _ | _
    · exact (decide_eq_false fun h => by have := hb.2 h.2.2; cases this).symm
    · exact (decide_eq_true ⟨by omega, hx, hb.1 rfl⟩).symm
  · rw [if_neg e]
    unfold difS
    rw [decide_eq_decide]
    constructor
    · rintro ⟨h1, h2, h3⟩; exact ⟨by omega, h2, h3⟩
    · rintro ⟨h1, h2, h3⟩; exact ⟨by omega, h2, h3⟩
open Classical in
/-- The region in which two images differ. -/
noncomputable def difL (X Y : Int) (L : List Int) (X2 Y2 : Int) (M : List Int) : List Rc :=
  if imOk X Y L ∧ imOk X2 Y2 M ∧ X = X2 ∧ Y = Y2 then canon (difG X.toNat Y.toNat L M) else []
theorem dif_yes {X Y : Int} {L M : List Int} (h1 : imOk X Y L) (h2 : imOk X Y M) : difL X Y L X Y M = canon (difG X.toNat Y.toNat L M) := if_pos ⟨h1, h2, rfl, rfl⟩
theorem dif_no {X Y : Int} {L : List Int} {X2 Y2 : Int} {M : List Int} (h : ¬ (imOk X Y L ∧ imOk X2 Y2 M ∧ X = X2 ∧ Y = Y2)) : difL X Y L X2 Y2 M = [] := if_neg h
theorem dif_len (X Y : Int) (L : List Int) (X2 Y2 : Int) (M : List Int) : (difL X Y L X2 Y2 M).length ≤ 256 := by
  by_cases h : imOk X Y L ∧ imOk X2 Y2 M ∧ X = X2 ∧ Y = Y2
  · unfold difL; rw [if_pos h]; exact canon_len _
  · rw [dif_no h]; simp
/-- What answers a region. -/
def RgAns (R : List Rc) (w : World) (e : Ending) (w' : World) : Prop :=
  ∃ v, e = .returned (.agg #[v]) ∧ w'.ownsRow w.heap.size 31 4 v R.length (rcsCells R) ∧ Below w.heap.size w w'
theorem nil_ans {w w' : World} (hb : Below w.heap.size w w') : RgAns [] w (.returned (.agg #[.slice none 0 0])) w' := ⟨_, rfl, World.ownsRow_nil _ _ _ _, hb⟩
/-- The variables of DifferenceOf: the two images, the result. -/
structure DfB (w : World) (X Y : Int) (v : Value) (L : List Int) (X2 Y2 : Int) (u : Value) (M : List Int) (W : World) : Prop where
  a : ImAt W w.heap.size 26 X Y v
  b : ImAt W (w.heap.size + 1) 26 X2 Y2 u
  d : RgAt W (w.heap.size + 2) (.slice none 0 0)
  rv : RdI W v L
  ru : RdI W u M
  bw : Below w.heap.size w W
theorem DfB.call {w : World} {X Y : Int} {v : Value} {L : List Int} {X2 Y2 : Int} {u : Value} {M : List Int} {W W' : World} (h : DfB w X Y v L X2 Y2 u M W) (k : Below W.heap.size W W') : DfB w X Y v L X2 Y2 u M W' :=
  ⟨h.a.call k, h.b.call k, h.d.call k, h.rv.call k, h.ru.call k, belI_call h.bw k⟩
theorem DfB.born (w : World) (X Y : Int) (v : Value) (L : List Int) (X2 Y2 : Int) (u : Value) (M : List Int) (hv : RdI w v L) (hu : RdI w u M) :
    DfB w X Y v L X2 Y2 u M (((w.alloc (.cells #[.int .i64 X, .int .i64 Y, v] 26)).alloc (.cells #[.int .i64 X2, .int .i64 Y2, u] 26)).alloc (.cells #[.slice none 0 0] 34)) :=
  ⟨((ImAt.new w _ _ _ _).alloc _).alloc _, (ImAt.newAt (w := w.alloc (.cells #[.int .i64 X, .int .i64 Y, v] 26)) (by simp) _ _ _ _).alloc _, RgAt.newAt (w := (w.alloc (.cells #[.int .i64 X, .int .i64 Y, v] 26)).alloc (.cells #[.int .i64 X2, .int .i64 Y2, u] 26)) (by simp) _,
    ((hv.alloc _).alloc _).alloc _, ((hu.alloc _).alloc _).alloc _, belI_call (belI_call (belI_box _ _) (belI_box _ _)) (belI_box _ _)⟩
theorem RgAt.frozen {w : World} {g : Nat} {v : Value} (h : RgAt w g v) : w.frozen? ⟨g, 0, none⟩ = false := by unfold RgAt at h; simp [World.frozen?, h]
theorem RgAt.grown {w w' : World} {g : Nat} {v : Value} {row : Option Nat} (h : RgAt w g v) (hg : w.grownBy w' row) (hr : some g ≠ row) : RgAt w' g v := (hg.block g h.lt hr).trans h
theorem pxL {W H x y : Nat} {L : List Int} (hL : L.length = W * H) (hx : x < W) (hy : y < H) : ∃ p, L[y * W + x]? = some p ∧ L.getD (y * W + x) 0 = p := by
  have h := plc_lt hx hy
  rw [← hL] at h
  exact ⟨L[y * W + x], List.getElem?_eq_getElem h, by rw [List.getD_eq_getElem?_getD, List.getElem?_eq_getElem h]; rfl⟩
end Go.Proofs.Ytmjndoedchiggaa
