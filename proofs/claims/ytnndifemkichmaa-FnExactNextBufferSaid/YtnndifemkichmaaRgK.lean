/- Images and regions as arguments of the laws, in the uniform form. No statement is proved here. -/
import Derived.Test.YtnndifemkichmaaMA
import Derived.Test.YtnndifemkichmaaMB
import Derived.Test.YtnndifemkichmaaLk
import Derived.Test.YtnndifemkichmaaMC
import Derived.Test.YtnndifemkichmaaProg
import Derived.WalkKit
import Derived.ProofKit
import Derived.OpenShut
import Derived.WalkLawsBesides
import Derived.WalkSpells
import Derived.ShutString
import Derived.ChangeOld
import Derived.Below
import Derived.Lib.Hide
import Derived.BigQuiet
import Derived.Deep.QuietTactic
import Derived.Maps.AppendAt
import Derived.Deep.OwnRows
import Derived.Handy
import Derived.Deep.Draws
import Derived.OwnWalk
import Derived.Deep.AppendLies
import Derived.Deep.LoopGhost
import Derived.Deep.Onto
import Derived.Deep.MidRow
import Derived.Deep.WholeRow
import Derived.Laws.BitsAllLaws
import Derived.Lib.QuoteBits
import Derived.Deep.RegionHeld3
import Derived.Deep.DeepCutAuto
import Derived.Test.YtnndifemkichmaaShelf
import Derived.Laws.CopyOwn
import Derived.Deep.RegionLaw
import Derived.Great.BuildSlice
import Derived.Laws.AppendOwn
namespace Go.Proofs.Ytnndifemkichmaa
open Go.RowKit
def wkIm : Wk Im where
 R := fun w I vs => ∃ d, vs = imCells I d ∧ Rd w d I.d.length (intCells I.d)
 call := by rintro w w' f vs ⟨d, rfl, h⟩ hb; exact ⟨d, rfl, h.call hb⟩
theorem wr_im {w : World} {f : Im} {d : Value} (h : wkIm.R w f [.int .i64 f.w, .int .i64 f.h, d]) : Rd w d f.d.length (intCells f.d) := by
 obtain ⟨d', e, h⟩ := h
 have e2 : d = d' := by simpa [imCells] using e
 subst e2
 exact h
theorem wform_im {w : World} {f : Im} {d : Value} (h : wkIm.R w f [.int .i64 f.w, .int .i64 f.h, d]) : ∃ A c, d = .slice A f.d.length c := (wr_im h).form
theorem sz_im_yes (f : Im) (d : Value) (l : Int) (w : World) (hr : wkIm.R w f [.int .i64 f.w, .int .i64 f.h, d]) (h : ((f.d.length : Nat) : Int) ≤ l) (hl : l ≤ 2097152) : Calls Try.prog 80 #[.agg #[.int .i64 f.w, .int .i64 f.h, d], .int .i64 l] w fun e w' => e = .returned (.int .i64 (l - ((f.d.length : Nat) : Int))) ∧ Below w.heap.size w w' := by
 obtain ⟨A, c, rfl⟩ := wform_im hr
 exact szIm_yes _ _ _ _ _ _ h hl w
theorem sz_im_no (f : Im) (d : Value) (l : Int) (w : World) (hr : wkIm.R w f [.int .i64 f.w, .int .i64 f.h, d]) (h0 : 0 ≤ l) (h : l < ((f.d.length : Nat) : Int)) (_ : l ≤ 2097152) : Calls Try.prog 80 #[.agg #[.int .i64 f.w, .int .i64 f.h, d], .int .i64 l] w fun e w' => e = .returned (.int .i64 (-1)) ∧ Below w.heap.size w w' := by
 have hl := (wr_im hr).len.2
 obtain ⟨A, c, rfl⟩ := wform_im hr
 exact szIm_no _ _ _ _ _ hl _ h0 h w
theorem to_im (f : Im) (d : Value) (w : World) (hr : wkIm.R w f [.int .i64 f.w, .int .i64 f.h, d]) (hm : f.d.length ≤ 1048576) : Calls Try.prog 82 #[.agg #[.int .i64 f.w, .int .i64 f.h, d]] w fun e w' => ∃ u bs, e = .returned (.agg #[.int .i64 f.w, .int .i64 f.h, u]) ∧ repIm.Own w.heap.size w' f [.int .i64 f.w, .int .i64 f.h, u] bs ∧ Below w.heap.size w w' := by
 refine (toIm f.w f.h d f.d w hm (wr_im hr)).mono ?_
 rintro e w1 ⟨u, rfl, ho, hb⟩
 have h := ints_own ho
 exact ⟨u, _, rfl, ⟨⟨u, rfl, h.r⟩, h.nd, h.lo⟩, hb⟩
def repRg : Rep (List Rc) where
 R := fun w L vs bs => ∃ v, vs = [v] ∧ w.ownsRow 0 165 4 v L.length (rcsCells L) ∧ bs = v.ownBlock.toList
 ex := by rintro w a vs bs ⟨v, rfl, h, rfl⟩ b hb; exact (own_ltB h b hb).2
 keep := by rintro w w' a vs bs ⟨v, rfl, h, rfl⟩ hk; exact ⟨v, rfl, own_keepB h hk, rfl⟩
def wkRg : Wk (List Rc) where
 R := fun w L vs => ∃ v, vs = [v] ∧ LdR w v L
 call := by rintro w w' f vs ⟨d, rfl, h⟩ hb; exact ⟨d, rfl, h.call hb⟩
theorem rg_own {w w0 : World} {L : List Rc} {d : Value} (h : w.ownsRow w0.heap.size 165 4 d L.length (rcsCells L)) : repRg.Own w0.heap.size w L [d] d.ownBlock.toList :=
 ⟨⟨d, rfl, own_rebase h fun _ _ => Nat.zero_le _, rfl⟩, by cases d.ownBlock <;> simp, fun b hb => (own_ltB h b hb).1⟩
theorem r_rg {w : World} {L : List Rc} {d : Value} {bs : List Nat} (h : repRg.R w L [d] bs) : RdR w d L := by
 obtain ⟨v, e, ho, rfl⟩ := h
 obtain rfl : d = v := by simpa using e
 exact RdR.of_own ho
theorem form_rg {w : World} {L : List Rc} {d : Value} {bs : List Nat} (h : repRg.R w L [d] bs) : ∃ A c, d = .slice A L.length c := (r_rg h).form
theorem wr_rg {w : World} {L : List Rc} {d : Value} (h : wkRg.R w L [d]) : LdR w d L := by
 obtain ⟨v, e, h⟩ := h
 obtain rfl : d = v := by simpa using e
 exact h
theorem wform_rg {w : World} {L : List Rc} {d : Value} (h : wkRg.R w L [d]) : ∃ A c, d = .slice A L.length c := (wr_rg h).form
theorem sz_rg_yes (f : List Rc) (d : Value) (l : Int) (w : World) (hr : wkRg.R w f [d]) (h : ((f.length : Nat) : Int) ≤ l) (hl : l ≤ 2097152) : Calls Try.prog 96 #[.agg #[d], .int .i64 l] w fun e w' => e = .returned (.int .i64 (l - ((f.length : Nat) : Int))) ∧ Below w.heap.size w w' := by
 obtain ⟨A, c, rfl⟩ := wform_rg hr
 exact szRg_yes _ _ _ _ h hl w
theorem sz_rg_no (f : List Rc) (d : Value) (l : Int) (w : World) (hr : wkRg.R w f [d]) (h0 : 0 ≤ l) (h : l < ((f.length : Nat) : Int)) (_ : l ≤ 2097152) : Calls Try.prog 96 #[.agg #[d], .int .i64 l] w fun e w' => e = .returned (.int .i64 (-1)) ∧ Below w.heap.size w w' := by
 have hl := (wr_rg hr).1
 obtain ⟨A, c, rfl⟩ := wform_rg hr
 exact szRg_no _ _ _ hl _ h0 h w
theorem to_rg (f : List Rc) (d : Value) (w : World) (hr : wkRg.R w f [d]) (hm : f.length ≤ 1048576) : Calls Try.prog 102 #[.agg #[d]] w fun e w' => ∃ u bs, e = .returned (.agg #[u]) ∧ repRg.Own w.heap.size w' f [u] bs ∧ Below w.heap.size w w' := by
 refine (toRg d f w hm (wr_rg hr)).mono ?_
 rintro e w1 ⟨u, rfl, ho, hb⟩
 exact ⟨u, _, rfl, rg_own ho, hb⟩
theorem eq_rg (f : List Rc) (d u : Value) (bs cs : List Nat) (w : World) (h1 : repRg.R w f [d] bs) (h2 : repRg.R w f [u] cs) : Calls Try.prog 105 #[.agg #[d], .agg #[u]] w fun e w' => e = .returned (.bool true) ∧ Below w.heap.size w w' := eqRg_same d u f w (r_rg h1) (r_rg h2)
end Go.Proofs.Ytnndifemkichmaa
