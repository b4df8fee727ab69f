/- Chains as data; lists of images and of regions in memory; counts and marks of the laws. No statement is proved here. -/
import Derived.Test.YtnndifemkichmaaMA
import Derived.Test.YtnndifemkichmaaMB
import Derived.Test.YtnndifemkichmaaLk
import Derived.Test.YtnndifemkichmaaProg
import Derived.WalkKit
import Derived.ProofKit
import Derived.OpenShut
import Derived.WalkLawsBesides
import Derived.WalkSpells
import Derived.ShutString
import Derived.ChangeOld
import Derived.Below
import Derived.Lib.Hide
import Derived.BigQuiet
import Derived.Deep.QuietTactic
import Derived.Maps.AppendAt
import Derived.Deep.OwnRows
import Derived.Handy
import Derived.Deep.Draws
import Derived.OwnWalk
import Derived.Deep.AppendLies
import Derived.Deep.LoopGhost
import Derived.Deep.Onto
import Derived.Deep.MidRow
import Derived.Deep.WholeRow
import Derived.Laws.BitsAllLaws
import Derived.Lib.QuoteBits
import Derived.Deep.RegionHeld3
import Derived.Deep.DeepCutAuto
import Derived.Test.YtnndifemkichmaaShelf
import Derived.Laws.CopyOwn
import Derived.Deep.RegionLaw
import Derived.Great.BuildSlice
import Derived.Laws.AppendOwn
namespace Go.Proofs.Ytnndifemkichmaa
open Go.RowKit
def rgCells (_ : List Rc) (d : Value) : List Value := [d]
def repIms : Rep (List Im) := repSl repIm 58 3
def repRgs : Rep (List (List Rc)) := repSl repRg 90 1
def mkImK (k : Nat) (f : Im) : Im := ⟨k, (k + 1 : Nat), marksI (k + 2) f.d.length⟩
def lenIs (L : List Im) : Nat := (L.map fun f => f.d.length).sum
def sizIs (L : List Im) : Nat := L.length + lenIs L
theorem lenIs_take {L : List Im} {k : Nat} {f : Im} (h : L[k]? = some f) : lenIs (L.take (k + 1)) = lenIs (L.take k) + f.d.length := by
 unfold lenIs
 rw [List.take_add_one, h, Option.toList_some, List.map_append, List.sum_append]
 simp
theorem lenIs_le (L : List Im) (k : Nat) : lenIs (L.take k) ≤ lenIs L := by
 unfold lenIs
 conv => rhs; rw [← List.take_append_drop k L, List.map_append, List.sum_append]
 omega
theorem lenIs_at {L : List Im} {k : Nat} {f : Im} (h : L[k]? = some f) : f.d.length ≤ lenIs L := by
 have := lenIs_le L (k + 1); rw [lenIs_take h] at this; omega
def cntIs (L : List Im) : Nat := L.length * 2 + lenIs L
theorem cntIs_le (L : List Im) (k : Nat) : cntIs (L.take k) ≤ cntIs L := by
 have := lenIs_le L k; unfold cntIs; rw [List.length_take]; omega
theorem cntIs_take {L : List Im} {k : Nat} {f : Im} (h : L[k]? = some f) : cntIs (L.take (k + 1)) = cntIs (L.take k) + 2 + f.d.length := by
 have hk : k < L.length := (List.getElem?_eq_some_iff.1 h).1
 unfold cntIs lenIs
 rw [List.take_add_one, h, Option.toList_some, List.map_append, List.sum_append, List.length_append]
 simp
 omega
def mkIs (k : Nat) : List Im → List Im
 | [] => []
 | f :: L => mkImK k f :: mkIs (k + 2 + f.d.length) L
theorem mkIs_length (k : Nat) (L : List Im) : (mkIs k L).length = L.length := by
 induction L generalizing k with
 | nil => rfl
 | cons f L ih => simp [mkIs, ih]
theorem mkIs_get {L : List Im} {k : Nat} {f : Im} (k0 : Nat) (h : L[k]? = some f) : (mkIs k0 L)[k]? = some (mkImK (k0 + cntIs (L.take k)) f) := by
  induction L generalizing k k0 with
  | nil => simp at h
  | cons g L ih =>
    cases k with
    | zero =>
      obtain rfl : g = f := by simpa using h
      simp [mkIs, cntIs, lenIs]
    | succ k =>
      have h1 := ih (k0 + 2 + g.d.length) (by simpa using h)
      simp only [mkIs, List.getElem?_cons_succ]
      rw [h1]
      congr 2
      simp [cntIs, lenIs]
      omega
def lenGs (L : List (List Rc)) : Nat := (L.map fun f => f.length).sum
theorem lenGs_le (L : List (List Rc)) (k : Nat) : lenGs (L.take k) ≤ lenGs L := by
 unfold lenGs
 conv => rhs; rw [← List.take_append_drop k L, List.map_append, List.sum_append]
 omega
def cntGs (L : List (List Rc)) : Nat := 4 * lenGs L
theorem cntGs_le (L : List (List Rc)) (k : Nat) : cntGs (L.take k) ≤ cntGs L := by
 have := lenGs_le L k; unfold cntGs; omega
theorem cntGs_take {L : List (List Rc)} {k : Nat} {f : (List Rc)} (h : L[k]? = some f) : cntGs (L.take (k + 1)) = cntGs (L.take k) + 4 * f.length := by
 have hk : k < L.length := (List.getElem?_eq_some_iff.1 h).1
 unfold cntGs lenGs
 rw [List.take_add_one, h, Option.toList_some, List.map_append, List.sum_append]
 simp
 omega
def mkGs (k : Nat) : List (List Rc) → List (List Rc)
 | [] => []
 | f :: L => mkRg k f :: mkGs (k + 4 * f.length) L
theorem mkGs_length (k : Nat) (L : List (List Rc)) : (mkGs k L).length = L.length := by
 induction L generalizing k with
 | nil => rfl
 | cons f L ih => simp [mkGs, ih]
theorem mkGs_get {L : List (List Rc)} {k : Nat} {f : (List Rc)} (k0 : Nat) (h : L[k]? = some f) : (mkGs k0 L)[k]? = some (mkRg (k0 + cntGs (L.take k)) f) := by
  induction L generalizing k k0 with
  | nil => simp at h
  | cons g L ih =>
    cases k with
    | zero =>
      obtain rfl : g = f := by simpa using h
      simp [mkGs, cntGs, lenGs]
    | succ k =>
      have h1 := ih (k0 + 4 * g.length) (by simpa using h)
      simp only [mkGs, List.getElem?_cons_succ]
      rw [h1]
      congr 2
      simp [cntGs, lenGs]
      omega
structure Ch where
 ims : List Im
 ages : List Int
 rgs : List (List Rc)
 s : Sn
def chCells (c : Ch) (a b e d : Value) : List Value := [a, b, e, .int .i64 c.s.w, .int .i64 c.s.h, .int .i64 c.s.back, d]
def repCh : Rep Ch where
 R := fun w c vs bs => ∃ a b e d b1 b2 b3 b4, vs = chCells c a b e d ∧ repIms.R w c.ims [a] b1 ∧ repInts.R w c.ages [b] b2 ∧ repRgs.R w c.rgs [e] b3 ∧ repSfs.R w c.s.fs [d] b4 ∧ bs = b1 ++ (b2 ++ (b3 ++ b4))
 ex := by
  rintro w c vs bs ⟨a, b, e, d, b1, b2, b3, b4, rfl, h1, h2, h3, h4, rfl⟩ k hk
  rcases List.mem_append.1 hk with hk | hk
  ·exact repIms.ex h1 k hk
  rcases List.mem_append.1 hk with hk | hk
  ·exact repInts.ex h2 k hk
  rcases List.mem_append.1 hk with hk | hk
  ·exact repRgs.ex h3 k hk
  ·exact repSfs.ex h4 k hk
 keep := by
  rintro w w' c vs bs ⟨a, b, e, d, b1, b2, b3, b4, rfl, h1, h2, h3, h4, rfl⟩ hk
  exact ⟨a, b, e, d, b1, b2, b3, b4, rfl, repIms.keep h1 fun k h => hk k (by simp [h]), repInts.keep h2 fun k h => hk k (by simp [h]), repRgs.keep h3 fun k h => hk k (by simp [h]), repSfs.keep h4 fun k h => hk k (by simp [h]), rfl⟩
theorem r_cn {w : World} {c : Ch} {a b e d : Value} {bs : List Nat} (h : repCh.R w c [a, b, e, .int .i64 c.s.w, .int .i64 c.s.h, .int .i64 c.s.back, d] bs) : ∃ b1 b2 b3 b4, repIms.R w c.ims [a] b1 ∧ repInts.R w c.ages [b] b2 ∧ repRgs.R w c.rgs [e] b3 ∧ repSfs.R w c.s.fs [d] b4 ∧ bs = b1 ++ (b2 ++ (b3 ++ b4)) := by
 obtain ⟨a', b', e', d', b1, b2, b3, b4, he, h⟩ := h
 simp [chCells] at he
 obtain ⟨rfl, rfl, rfl, rfl⟩ := he
 exact ⟨b1, b2, b3, b4, h⟩
def cntCh (f : Ch) : Nat := cntIs f.ims + (f.ages.length + (cntGs f.rgs + cntFs f.s.fs))
def mkCh (k : Nat) (f : Ch) : Ch := ⟨mkIs k f.ims, marksI (k + cntIs f.ims) f.ages.length, mkGs (k + cntIs f.ims + f.ages.length) f.rgs, mkSn (k + cntIs f.ims + f.ages.length + cntGs f.rgs) f.s⟩
end Go.Proofs.Ytnndifemkichmaa
