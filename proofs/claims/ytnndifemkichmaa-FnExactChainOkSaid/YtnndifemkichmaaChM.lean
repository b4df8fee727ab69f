/- Chains as data; lists of images and of regions in memory; counts and marks of the laws. No statement is proved here. -/
import Derived.Test.YtnndifemkichmaaMA
import Derived.Test.YtnndifemkichmaaMB
import Derived.Test.YtnndifemkichmaaLk
import Derived.Test.YtnndifemkichmaaMC
import Derived.Test.YtnndifemkichmaaRgK
import Derived.Test.YtnndifemkichmaaProg
import Derived.WalkKit
import Derived.ProofKit
import Derived.OpenShut
import Derived.WalkLawsBesides
import Derived.WalkSpells
import Derived.ShutString
import Derived.ChangeOld
import Derived.Below
import Derived.Lib.Hide
import Derived.BigQuiet
import Derived.Deep.QuietTactic
import Derived.Maps.AppendAt
import Derived.Deep.OwnRows
import Derived.Handy
import Derived.Deep.Draws
import Derived.OwnWalk
import Derived.Deep.AppendLies
import Derived.Deep.LoopGhost
import Derived.Deep.Onto
import Derived.Deep.MidRow
import Derived.Deep.WholeRow
import Derived.Laws.BitsAllLaws
import Derived.Lib.QuoteBits
import Derived.Deep.RegionHeld3
import Derived.Deep.DeepCutAuto
import Derived.Test.YtnndifemkichmaaShelf
import Derived.Laws.CopyOwn
import Derived.Deep.RegionLaw
import Derived.Great.BuildSlice
import Derived.Laws.AppendOwn
namespace Go.Proofs.Ytnndifemkichmaa
open Go.RowKit
def rgCells (_ : List Rc) (d : Value) : List Value := [d]
def repIms : Rep (List Im) := repSl repIm 58 3
def wkIms : Wk (List Im) := wkSl wkIm 3
def repRgs : Rep (List (List Rc)) := repSl repRg 90 1
def wkRgs : Wk (List (List Rc)) := wkSl wkRg 1
def lenIs (L : List Im) : Nat := (L.map fun f => f.d.length).sum
def sizIs (L : List Im) : Nat := L.length + lenIs L
theorem lenIs_take {L : List Im} {k : Nat} {f : Im} (h : L[k]? = some f) : lenIs (L.take (k + 1)) = lenIs (L.take k) + f.d.length := by
 unfold lenIs
 rw [List.take_add_one, h, Option.toList_some, List.map_append, List.sum_append]
 simp
theorem lenIs_le (L : List Im) (k : Nat) : lenIs (L.take k) ≤ lenIs L := by
 unfold lenIs
 conv => rhs; rw [← List.take_append_drop k L, List.map_append, List.sum_append]
 omega
theorem lenIs_at {L : List Im} {k : Nat} {f : Im} (h : L[k]? = some f) : f.d.length ≤ lenIs L := by
 have := lenIs_le L (k + 1); rw [lenIs_take h] at this; omega
def lenGs (L : List (List Rc)) : Nat := (L.map fun f => f.length).sum
def sizGs (L : List (List Rc)) : Nat := L.length + lenGs L
theorem lenGs_take {L : List (List Rc)} {k : Nat} {f : (List Rc)} (h : L[k]? = some f) : lenGs (L.take (k + 1)) = lenGs (L.take k) + f.length := by
 unfold lenGs
 rw [List.take_add_one, h, Option.toList_some, List.map_append, List.sum_append]
 simp
theorem lenGs_le (L : List (List Rc)) (k : Nat) : lenGs (L.take k) ≤ lenGs L := by
 unfold lenGs
 conv => rhs; rw [← List.take_append_drop k L, List.map_append, List.sum_append]
 omega
theorem lenGs_at {L : List (List Rc)} {k : Nat} {f : (List Rc)} (h : L[k]? = some f) : f.length ≤ lenGs L := by
 have := lenGs_le L (k + 1); rw [lenGs_take h] at this; omega
structure Ch where
 ims : List Im
 ages : List Int
 rgs : List (List Rc)
 s : Sn
def chCells (c : Ch) (a b e d : Value) : List Value := [a, b, e, .int .i64 c.s.w, .int .i64 c.s.h, .int .i64 c.s.back, d]
def repCh : Rep Ch where
 R := fun w c vs bs => ∃ a b e d b1 b2 b3 b4, vs = chCells c a b e d ∧ repIms.R w c.ims [a] b1 ∧ repInts.R w c.ages [b] b2 ∧ repRgs.R w c.rgs [e] b3 ∧ repSfs.R w c.s.fs [d] b4 ∧ bs = b1 ++ (b2 ++ (b3 ++ b4))
 ex := by
  rintro w c vs bs ⟨a, b, e, d, b1, b2, b3, b4, rfl, h1, h2, h3, h4, rfl⟩ k hk
  rcases List.mem_append.1 hk with hk | hk
  ·exact repIms.ex h1 k hk
  rcases List.mem_append.1 hk with hk | hk
  ·exact repInts.ex h2 k hk
  rcases List.mem_append.1 hk with hk | hk
  ·exact repRgs.ex h3 k hk
  ·exact repSfs.ex h4 k hk
 keep := by
  rintro w w' c vs bs ⟨a, b, e, d, b1, b2, b3, b4, rfl, h1, h2, h3, h4, rfl⟩ hk
  exact ⟨a, b, e, d, b1, b2, b3, b4, rfl, repIms.keep h1 fun k h => hk k (by simp [h]), repInts.keep h2 fun k h => hk k (by simp [h]), repRgs.keep h3 fun k h => hk k (by simp [h]), repSfs.keep h4 fun k h => hk k (by simp [h]), rfl⟩
def wkCh : Wk Ch where
 R := fun w c vs => ∃ a b e d, vs = chCells c a b e d ∧ wkIms.R w c.ims [a] ∧ wkInts.R w c.ages [b] ∧ wkRgs.R w c.rgs [e] ∧ wkSfs.R w c.s.fs [d]
 call := by rintro w w' c vs ⟨a, b, e, d, rfl, h1, h2, h3, h4⟩ hb; exact ⟨a, b, e, d, rfl, wkIms.call h1 hb, wkInts.call h2 hb, wkRgs.call h3 hb, wkSfs.call h4 hb⟩
theorem wr_cn {w : World} {c : Ch} {a b e d : Value} (h : wkCh.R w c [a, b, e, .int .i64 c.s.w, .int .i64 c.s.h, .int .i64 c.s.back, d]) : wkIms.R w c.ims [a] ∧ wkInts.R w c.ages [b] ∧ wkRgs.R w c.rgs [e] ∧ wkSfs.R w c.s.fs [d] := by
 obtain ⟨a', b', e', d', he, h⟩ := h
 simp [chCells] at he
 obtain ⟨rfl, rfl, rfl, rfl⟩ := he
 exact h
theorem wints_rd {w : World} {L : List Int} {v : Value} (h : wkInts.R w L [v]) : Rd w v L.length (intCells L) := by
 obtain ⟨u, e, h⟩ := h
 obtain rfl : v = u := by simpa using e
 exact h
theorem wform_cn {w : World} {f : Ch} {a b e d : Value} (h : wkCh.R w f [a, b, e, .int .i64 f.s.w, .int .i64 f.s.h, .int .i64 f.s.back, d]) : ∃ A0 c0 A1 c1 A2 c2 A3 c3, a = .slice A0 f.ims.length c0 ∧ b = .slice A1 f.ages.length c1 ∧ e = .slice A2 f.rgs.length c2 ∧ d = .slice A3 f.s.fs.length c3 := by
 obtain ⟨h1, h2, h3, h4⟩ := wr_cn h
 obtain ⟨A0, c0, e0⟩ := (wkSl_form h1).1
 obtain ⟨A1, c1, e1⟩ := (wints_rd h2).form
 obtain ⟨A2, c2, e2⟩ := (wkSl_form h3).1
 obtain ⟨A3, c3, e3⟩ := (wkSl_form h4).1
 exact ⟨A0, c0, A1, c1, A2, c2, A3, c3, e0, e1, e2, e3⟩
theorem r_cn {w : World} {c : Ch} {a b e d : Value} {bs : List Nat} (h : repCh.R w c [a, b, e, .int .i64 c.s.w, .int .i64 c.s.h, .int .i64 c.s.back, d] bs) : ∃ b1 b2 b3 b4, repIms.R w c.ims [a] b1 ∧ repInts.R w c.ages [b] b2 ∧ repRgs.R w c.rgs [e] b3 ∧ repSfs.R w c.s.fs [d] b4 ∧ bs = b1 ++ (b2 ++ (b3 ++ b4)) := by
 obtain ⟨a', b', e', d', b1, b2, b3, b4, he, h⟩ := h
 simp [chCells] at he
 obtain ⟨rfl, rfl, rfl, rfl⟩ := he
 exact ⟨b1, b2, b3, b4, h⟩
def sizCh (f : Ch) : Nat := sizIs f.ims + (f.ages.length + (sizGs f.rgs + sizFs f.s.fs))
end Go.Proofs.Ytnndifemkichmaa
