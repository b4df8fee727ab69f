/- The laws' helpers over surfaces, edits, images and rectangles in one form. No statement is proved here. -/
import Derived.Test.YtnndifemkichmaaMA
import Derived.Test.YtnndifemkichmaaSfL
import Derived.Test.YtnndifemkichmaaMB
import Derived.Test.YtnndifemkichmaaProg
import Derived.WalkKit
import Derived.ProofKit
import Derived.OpenShut
import Derived.WalkLawsBesides
import Derived.WalkSpells
import Derived.ShutString
import Derived.ChangeOld
import Derived.Below
import Derived.Lib.Hide
import Derived.BigQuiet
import Derived.Deep.QuietTactic
import Derived.Maps.AppendAt
import Derived.Deep.OwnRows
import Derived.Handy
import Derived.Deep.Draws
import Derived.OwnWalk
import Derived.Deep.AppendLies
import Derived.Deep.LoopGhost
import Derived.Deep.Onto
import Derived.Deep.MidRow
import Derived.Deep.WholeRow
import Derived.Laws.BitsAllLaws
import Derived.Lib.QuoteBits
import Derived.Deep.RegionHeld3
import Derived.Deep.DeepCutAuto
import Derived.Test.YtnndifemkichmaaShelf
import Derived.Laws.CopyOwn
import Derived.Deep.RegionLaw
import Derived.Great.BuildSlice
namespace Go.Proofs.Ytnndifemkichmaa
open Go.RowKit
def imCells (I : Im) (d : Value) : List Value := [.int .i64 I.w, .int .i64 I.h, d]
def repIm : Rep Im where
 R := fun w I vs bs => ∃ d, vs = imCells I d ∧ repInts.R w I.d [d] bs
 ex := by rintro w f vs bs ⟨d, rfl, h⟩; exact repInts.ex h
 keep := by rintro w w' f vs bs ⟨d, rfl, h⟩ hk; exact ⟨d, rfl, repInts.keep h hk⟩
theorem ints_form {w : World} {L : List Int} {d : Value} {bs : List Nat} (h : repInts.R w L [d] bs) : (∃ A c, d = .slice A L.length c) ∧ RdI w d L := ⟨(repInts_rd h).form, repInts_rd h⟩
theorem ints_own {w w0 : World} {L : List Int} {d : Value} (h : w.ownsRow w0.heap.size 3 1 d L.length (intCells L)) : repInts.Own w0.heap.size w L [d] d.ownBlock.toList := repInts_own h
theorem r_sf {w : World} {f : Sf} {d : Value} {bs : List Nat} (h : repSf.R w f [.int .i64 f.id, .int .i64 f.x, .int .i64 f.y, .int .i64 f.w, .int .i64 f.h, .int .i64 f.alpha, .int .i64 f.orient, .bool f.vis, .int .i64 f.bw, .int .i64 f.bh, d] bs) : repInts.R w f.data [d] bs := by
 obtain ⟨d', e, h⟩ := h
 have e2 : d = d' := by simpa [sfCells] using e
 subst e2
 exact h
theorem form_sf {w : World} {f : Sf} {d : Value} {bs : List Nat} (h : repSf.R w f [.int .i64 f.id, .int .i64 f.x, .int .i64 f.y, .int .i64 f.w, .int .i64 f.h, .int .i64 f.alpha, .int .i64 f.orient, .bool f.vis, .int .i64 f.bw, .int .i64 f.bh, d] bs) : ∃ A c, d = .slice A f.data.length c := (ints_form (r_sf h)).1
theorem wr_sf {w : World} {f : Sf} {d : Value} (h : wkSf.R w f [.int .i64 f.id, .int .i64 f.x, .int .i64 f.y, .int .i64 f.w, .int .i64 f.h, .int .i64 f.alpha, .int .i64 f.orient, .bool f.vis, .int .i64 f.bw, .int .i64 f.bh, d]) : Rd w d f.data.length (intCells f.data) := by
 obtain ⟨d', e, h⟩ := h
 have e2 : d = d' := by simpa [sfCells] using e
 subst e2
 exact h
theorem sz_sf_yes (f : Sf) (d : Value) (l : Int) (w : World) (hr : wkSf.R w f [.int .i64 f.id, .int .i64 f.x, .int .i64 f.y, .int .i64 f.w, .int .i64 f.h, .int .i64 f.alpha, .int .i64 f.orient, .bool f.vis, .int .i64 f.bw, .int .i64 f.bh, d]) (h : ((f.data.length : Nat) : Int) ≤ l) (hl : l ≤ 2097152) : Calls Try.prog 106 #[.agg #[.int .i64 f.id, .int .i64 f.x, .int .i64 f.y, .int .i64 f.w, .int .i64 f.h, .int .i64 f.alpha, .int .i64 f.orient, .bool f.vis, .int .i64 f.bw, .int .i64 f.bh, d], .int .i64 l] w fun e w' => e = .returned (.int .i64 (l - ((f.data.length : Nat) : Int))) ∧ Below w.heap.size w w' := by
 obtain ⟨A, c, rfl⟩ := (wr_sf hr).form
 exact szSf_yes f _ A c l h hl w
theorem sz_sf_no (f : Sf) (d : Value) (l : Int) (w : World) (hr : wkSf.R w f [.int .i64 f.id, .int .i64 f.x, .int .i64 f.y, .int .i64 f.w, .int .i64 f.h, .int .i64 f.alpha, .int .i64 f.orient, .bool f.vis, .int .i64 f.bw, .int .i64 f.bh, d]) (h0 : 0 ≤ l) (h : l < ((f.data.length : Nat) : Int)) (_ : l ≤ 2097152) : Calls Try.prog 106 #[.agg #[.int .i64 f.id, .int .i64 f.x, .int .i64 f.y, .int .i64 f.w, .int .i64 f.h, .int .i64 f.alpha, .int .i64 f.orient, .bool f.vis, .int .i64 f.bw, .int .i64 f.bh, d], .int .i64 l] w fun e w' => e = .returned (.int .i64 (-1)) ∧ Below w.heap.size w w' := by
 obtain ⟨A, c, rfl⟩ := (wr_sf hr).form
 exact szSf_no f _ A c (wr_sf hr).len.2 l h0 h w
theorem to_sf (f : Sf) (d : Value) (w : World) (hr : wkSf.R w f [.int .i64 f.id, .int .i64 f.x, .int .i64 f.y, .int .i64 f.w, .int .i64 f.h, .int .i64 f.alpha, .int .i64 f.orient, .bool f.vis, .int .i64 f.bw, .int .i64 f.bh, d]) (hm : f.data.length ≤ 1048576) : Calls Try.prog 108 #[.agg #[.int .i64 f.id, .int .i64 f.x, .int .i64 f.y, .int .i64 f.w, .int .i64 f.h, .int .i64 f.alpha, .int .i64 f.orient, .bool f.vis, .int .i64 f.bw, .int .i64 f.bh, d]] w fun e w' => ∃ u bs, e = .returned (.agg #[.int .i64 f.id, .int .i64 f.x, .int .i64 f.y, .int .i64 f.w, .int .i64 f.h, .int .i64 f.alpha, .int .i64 f.orient, .bool f.vis, .int .i64 f.bw, .int .i64 f.bh, u]) ∧ repSf.Own w.heap.size w' f [.int .i64 f.id, .int .i64 f.x, .int .i64 f.y, .int .i64 f.w, .int .i64 f.h, .int .i64 f.alpha, .int .i64 f.orient, .bool f.vis, .int .i64 f.bw, .int .i64 f.bh, u] bs ∧ Below w.heap.size w w' := by
 refine (toSf f d w hm (wr_sf hr)).mono ?_
 rintro e w1 ⟨u, rfl, ho, hb⟩
 have h := ints_own ho
 exact ⟨u, _, rfl, ⟨⟨u, rfl, h.r⟩, h.nd, h.lo⟩, hb⟩
theorem eq_sf (f : Sf) (d u : Value) (bs cs : List Nat) (w : World) (h1 : repSf.R w f [.int .i64 f.id, .int .i64 f.x, .int .i64 f.y, .int .i64 f.w, .int .i64 f.h, .int .i64 f.alpha, .int .i64 f.orient, .bool f.vis, .int .i64 f.bw, .int .i64 f.bh, d] bs) (h2 : repSf.R w f [.int .i64 f.id, .int .i64 f.x, .int .i64 f.y, .int .i64 f.w, .int .i64 f.h, .int .i64 f.alpha, .int .i64 f.orient, .bool f.vis, .int .i64 f.bw, .int .i64 f.bh, u] cs) : Calls Try.prog 114 #[.agg #[.int .i64 f.id, .int .i64 f.x, .int .i64 f.y, .int .i64 f.w, .int .i64 f.h, .int .i64 f.alpha, .int .i64 f.orient, .bool f.vis, .int .i64 f.bw, .int .i64 f.bh, d], .agg #[.int .i64 f.id, .int .i64 f.x, .int .i64 f.y, .int .i64 f.w, .int .i64 f.h, .int .i64 f.alpha, .int .i64 f.orient, .bool f.vis, .int .i64 f.bw, .int .i64 f.bh, u]] w fun e w' => e = .returned (.bool true) ∧ Below w.heap.size w w' :=
 eqSf_same f d u w (repInts_rd (r_sf h1)) (repInts_rd (r_sf h2))
theorem r_im {w : World} {f : Im} {d : Value} {bs : List Nat} (h : repIm.R w f [.int .i64 f.w, .int .i64 f.h, d] bs) : repInts.R w f.d [d] bs := by
 obtain ⟨d', e, h⟩ := h
 have e2 : d = d' := by simpa [imCells] using e
 subst e2
 exact h
theorem eq_im (f : Im) (d u : Value) (bs cs : List Nat) (w : World) (h1 : repIm.R w f [.int .i64 f.w, .int .i64 f.h, d] bs) (h2 : repIm.R w f [.int .i64 f.w, .int .i64 f.h, u] cs) : Calls Try.prog 84 #[.agg #[.int .i64 f.w, .int .i64 f.h, d], .agg #[.int .i64 f.w, .int .i64 f.h, u]] w fun e w' => e = .returned (.bool true) ∧ Below w.heap.size w w' :=
 eqIm_same f.w f.h d u f.d w (repInts_rd (r_im h1)) (repInts_rd (r_im h2))
end Go.Proofs.Ytnndifemkichmaa
