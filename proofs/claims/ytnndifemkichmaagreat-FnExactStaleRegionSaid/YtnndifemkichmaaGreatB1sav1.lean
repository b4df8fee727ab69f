/- Texts of mine in one file: Lk, RgK, OcS, ChM, IsL, IsE, IsM, ChO, OcU. No statement is proved here. -/
import Derived.Test.YtnndifemkichmaaGreatMA
import Derived.Test.YtnndifemkichmaaGreatMB
import Derived.Test.YtnndifemkichmaaGreatB1sa
import Derived.Test.YtnndifemkichmaaGreatMAv1
import Derived.Test.YtnndifemkichmaaGreatCombIv1
import Derived.Test.YtnndifemkichmaaGreatB1nav1
import Derived.Test.YtnndifemkichmaaGreatB1sb
import Derived.Test.YtnndifemkichmaaGreatSnS
import Derived.Test.YtnndifemkichmaaGreatMBv1
import Derived.Test.YtnndifemkichmaaGreatProg
import Derived.WalkKit
import Derived.ProofKit
import Derived.OpenShut
import Derived.WalkLawsBesides
import Derived.WalkSpells
import Derived.ShutString
import Derived.ChangeOld
import Derived.Below
import Derived.Lib.Hide
import Derived.BigQuiet
import Derived.Deep.QuietTactic
import Derived.Maps.AppendAt
import Derived.Deep.OwnRows
import Derived.Handy
import Derived.Deep.Draws
import Derived.OwnWalk
import Derived.Deep.AppendLies
import Derived.Deep.LoopGhost
import Derived.Deep.Onto
import Derived.Deep.MidRow
import Derived.Deep.WholeRow
import Derived.Laws.BitsAllLaws
import Derived.Lib.QuoteBits
import Derived.Deep.RegionHeld3
import Derived.Deep.DeepCutAuto
import Derived.Test.YtnndifemkichmaaGreatShelf
import Derived.Laws.CopyOwn
import Derived.Deep.RegionLaw
import Derived.Great.BuildSlice
import Derived.Laws.AppendOwn
import Derived.Shelf.RegionOpenPlain
import Derived.Lib.SliceRun
import Derived.Deep.RegionWith
import Derived.ChangeKeysEq
import Derived.Deep.DeepAppendRoom
namespace Go.Proofs.YtnndifemkichmaaGreat
open Go.RowKit
def imCells (I : Im) (d : Value) : List Value := [.int .i64 I.w, .int .i64 I.h, d]
def repIm : Rep Im where
 R := fun w I vs bs => ∃ d, vs = imCells I d ∧ repInts.R w I.d [d] bs
 ex := by rintro w f vs bs ⟨d, rfl, h⟩; exact repInts.ex h
 keep := by rintro w w' f vs bs ⟨d, rfl, h⟩ hk; exact ⟨d, rfl, repInts.keep h hk⟩
theorem r_im {w : World} {f : Im} {d : Value} {bs : List Nat} (h : repIm.R w f [.int .i64 f.w, .int .i64 f.h, d] bs) : repInts.R w f.d [d] bs := by
 obtain ⟨d', e, h⟩ := h
 have e2 : d = d' := by simpa [imCells] using e
 subst e2
 exact h
theorem form_im {w : World} {f : Im} {d : Value} {bs : List Nat} (h : repIm.R w f [.int .i64 f.w, .int .i64 f.h, d] bs) : ∃ A c, d = .slice A f.d.length c := (ints_form (r_im h)).1
theorem eq_im (f : Im) (d u : Value) (bs cs : List Nat) (w : World) (h1 : repIm.R w f [.int .i64 f.w, .int .i64 f.h, d] bs) (h2 : repIm.R w f [.int .i64 f.w, .int .i64 f.h, u] cs) : Calls Tryz.prog 172 #[.agg #[.int .i64 f.w, .int .i64 f.h, d], .agg #[.int .i64 f.w, .int .i64 f.h, u]] w fun e w' => e = .returned (.bool true) ∧ Below w.heap.size w w' :=
 eqIm_same f.w f.h d u f.d w (repInts_rd (r_im h1)) (repInts_rd (r_im h2))
end Go.Proofs.YtnndifemkichmaaGreat
namespace Go.Proofs.YtnndifemkichmaaGreat
open Go.RowKit
def wkIm : Wk Im where
 R := fun w I vs => ∃ d, vs = imCells I d ∧ Rd w d I.d.length (intCells I.d)
 call := by rintro w w' f vs ⟨d, rfl, h⟩ hb; exact ⟨d, rfl, h.call hb⟩
theorem wr_im {w : World} {f : Im} {d : Value} (h : wkIm.R w f [.int .i64 f.w, .int .i64 f.h, d]) : Rd w d f.d.length (intCells f.d) := by
 obtain ⟨d', e, h⟩ := h
 have e2 : d = d' := by simpa [imCells] using e
 subst e2
 exact h
theorem wform_im {w : World} {f : Im} {d : Value} (h : wkIm.R w f [.int .i64 f.w, .int .i64 f.h, d]) : ∃ A c, d = .slice A f.d.length c := (wr_im h).form
theorem sz_im_yes (f : Im) (d : Value) (l : Int) (w : World) (hr : wkIm.R w f [.int .i64 f.w, .int .i64 f.h, d]) (h : ((f.d.length : Nat) : Int) ≤ l) (hl : l ≤ 2097152) : Calls Tryz.prog 154 #[.agg #[.int .i64 f.w, .int .i64 f.h, d], .int .i64 l] w fun e w' => e = .returned (.int .i64 (l - ((f.d.length : Nat) : Int))) ∧ Below w.heap.size w w' := by
 obtain ⟨A, c, rfl⟩ := wform_im hr
 exact szIm_yes _ _ _ _ _ _ h hl w
theorem sz_im_no (f : Im) (d : Value) (l : Int) (w : World) (hr : wkIm.R w f [.int .i64 f.w, .int .i64 f.h, d]) (h0 : 0 ≤ l) (h : l < ((f.d.length : Nat) : Int)) (_ : l ≤ 2097152) : Calls Tryz.prog 154 #[.agg #[.int .i64 f.w, .int .i64 f.h, d], .int .i64 l] w fun e w' => e = .returned (.int .i64 (-1)) ∧ Below w.heap.size w w' := by
 have hl := (wr_im hr).len.2
 obtain ⟨A, c, rfl⟩ := wform_im hr
 exact szIm_no _ _ _ _ _ hl _ h0 h w
theorem to_im (f : Im) (d : Value) (w : World) (hr : wkIm.R w f [.int .i64 f.w, .int .i64 f.h, d]) (hm : f.d.length ≤ 1048576) : Calls Tryz.prog 166 #[.agg #[.int .i64 f.w, .int .i64 f.h, d]] w fun e w' => ∃ u bs, e = .returned (.agg #[.int .i64 f.w, .int .i64 f.h, u]) ∧ repIm.Own w.heap.size w' f [.int .i64 f.w, .int .i64 f.h, u] bs ∧ Below w.heap.size w w' := by
 refine (toIm f.w f.h d f.d w hm (wr_im hr)).mono ?_
 rintro e w1 ⟨u, rfl, ho, hb⟩
 have h := ints_own ho
 exact ⟨u, _, rfl, ⟨⟨u, rfl, h.r⟩, h.nd, h.lo⟩, hb⟩
def repRg : Rep (List Rc) where
 R := fun w L vs bs => ∃ v, vs = [v] ∧ w.ownsRow 0 131 4 v L.length (rcsCells L) ∧ bs = v.ownBlock.toList
 ex := by rintro w a vs bs ⟨v, rfl, h, rfl⟩ b hb; exact (own_ltB h b hb).2
 keep := by rintro w w' a vs bs ⟨v, rfl, h, rfl⟩ hk; exact ⟨v, rfl, own_keepB h hk, rfl⟩
def wkRg : Wk (List Rc) where
 R := fun w L vs => ∃ v, vs = [v] ∧ LdR w v L
 call := by rintro w w' f vs ⟨d, rfl, h⟩ hb; exact ⟨d, rfl, h.call hb⟩
theorem rg_own {w w0 : World} {L : List Rc} {d : Value} (h : w.ownsRow w0.heap.size 131 4 d L.length (rcsCells L)) : repRg.Own w0.heap.size w L [d] d.ownBlock.toList :=
 ⟨⟨d, rfl, own_rebase h fun _ _ => Nat.zero_le _, rfl⟩, by cases d.ownBlock <;> simp, fun b hb => (own_ltB h b hb).1⟩
theorem rep_rg_own {B : Nat} {w : World} {L : List Rc} {d : Value} {bs : List Nat} (h : repRg.Own B w L [d] bs) : w.ownsRow B 131 4 d L.length (rcsCells L) ∧ bs = d.ownBlock.toList := by
 obtain ⟨v, e, ho, rfl⟩ := h.r
 obtain rfl : d = v := by simpa using e
 exact ⟨own_rebase ho fun b hb => h.lo b hb, rfl⟩
theorem r_rg {w : World} {L : List Rc} {d : Value} {bs : List Nat} (h : repRg.R w L [d] bs) : RdR w d L := by
 obtain ⟨v, e, ho, rfl⟩ := h
 obtain rfl : d = v := by simpa using e
 exact RdR.of_own ho
theorem form_rg {w : World} {L : List Rc} {d : Value} {bs : List Nat} (h : repRg.R w L [d] bs) : ∃ A c, d = .slice A L.length c := (r_rg h).form
theorem wr_rg {w : World} {L : List Rc} {d : Value} (h : wkRg.R w L [d]) : LdR w d L := by
 obtain ⟨v, e, h⟩ := h
 obtain rfl : d = v := by simpa using e
 exact h
theorem wform_rg {w : World} {L : List Rc} {d : Value} (h : wkRg.R w L [d]) : ∃ A c, d = .slice A L.length c := (wr_rg h).form
def mkRg (k : Nat) (L : List Rc) : List Rc := marksL k L.length
theorem sz_rg_yes (f : List Rc) (d : Value) (l : Int) (w : World) (hr : wkRg.R w f [d]) (h : ((f.length : Nat) : Int) ≤ l) (hl : l ≤ 2097152) : Calls Tryz.prog 155 #[.agg #[d], .int .i64 l] w fun e w' => e = .returned (.int .i64 (l - ((f.length : Nat) : Int))) ∧ Below w.heap.size w w' := by
 obtain ⟨A, c, rfl⟩ := wform_rg hr
 exact szRg_yes _ _ _ _ h hl w
theorem sz_rg_no (f : List Rc) (d : Value) (l : Int) (w : World) (hr : wkRg.R w f [d]) (h0 : 0 ≤ l) (h : l < ((f.length : Nat) : Int)) (_ : l ≤ 2097152) : Calls Tryz.prog 155 #[.agg #[d], .int .i64 l] w fun e w' => e = .returned (.int .i64 (-1)) ∧ Below w.heap.size w w' := by
 have hl := (wr_rg hr).1
 obtain ⟨A, c, rfl⟩ := wform_rg hr
 exact szRg_no _ _ _ hl _ h0 h w
theorem to_rg (f : List Rc) (d : Value) (w : World) (hr : wkRg.R w f [d]) (hm : f.length ≤ 1048576) : Calls Tryz.prog 167 #[.agg #[d]] w fun e w' => ∃ u bs, e = .returned (.agg #[u]) ∧ repRg.Own w.heap.size w' f [u] bs ∧ Below w.heap.size w w' := by
 refine (toRg d f w hm (wr_rg hr)).mono ?_
 rintro e w1 ⟨u, rfl, ho, hb⟩
 exact ⟨u, _, rfl, rg_own ho, hb⟩
theorem eq_rg (f : List Rc) (d u : Value) (bs cs : List Nat) (w : World) (h1 : repRg.R w f [d] bs) (h2 : repRg.R w f [u] cs) : Calls Tryz.prog 23 #[.agg #[d], .agg #[u]] w fun e w' => e = .returned (.bool true) ∧ Below w.heap.size w w' := eqRg_same d u f w (r_rg h1) (r_rg h2)
theorem mark_rg (B : Nat) (f : List Rc) (d : Value) (bs : List Nat) (k0 : Nat) (w : World) (hm : k0 + (4 * f.length) ≤ 1000000000) (ho : repRg.Own B w f [d] bs) : Calls Tryz.prog 28 #[.agg #[d], .int .i64 k0] w fun e w' => e = .returned (.int .i64 ((k0 + (4 * f.length) : Nat) : Int)) ∧ repRg.R w' (mkRg k0 f) [d] bs ∧ Chg w w' bs := by
 obtain ⟨h1, rfl⟩ := rep_rg_own ho
 refine (markRg B d f k0 w (by omega) h1).mono ?_
 rintro e w1 ⟨rfl, h2, hg⟩
 refine ⟨rfl, ⟨d, rfl, ?_, rfl⟩, Chg.of_grown hg⟩
 have hl : (mkRg k0 f).length = f.length := by have := h2.1; rw [show (rcsCells (marksL k0 f.length)).length = (marksL k0 f.length).length * 4 from by first | exact rcsCells_length _ | simp [rcsCells]] at this; unfold mkRg; omega
 rw [hl]
 exact own_rebase h2 fun _ _ => Nat.zero_le _
theorem held_rg (f : List Rc) (d : Value) (bs : List Nat) (k0 : Nat) (w : World) (hm : k0 + (4 * f.length) ≤ 1000000000) (hr : repRg.R w (mkRg k0 f) [d] bs) : Calls Tryz.prog 29 #[.agg #[d], .int .i64 k0] w fun e w' => e = .returned (.int .i64 ((k0 + (4 * f.length) : Nat) : Int)) ∧ Below w.heap.size w w' :=
 heldRg d k0 f.length w (by omega) (r_rg (L := mkRg k0 f) hr)
end Go.Proofs.YtnndifemkichmaaGreat
namespace Go.Proofs.YtnndifemkichmaaGreat
open Go.RowKit
structure CwS (w : World) (s : Sn) (v : Value) (V : World) : Prop where
 a : BkAt V w.heap.size 26 #[.int .i64 s.w, .int .i64 s.h, .int .i64 s.back, v]
 x : BxR V (w.heap.size + 1)
 bw : Below w.heap.size w V
theorem CwS.call {w : World} {s : Sn} {v : Value} {V V' : World} (h : CwS w s v V) (hb : Below V.heap.size V V') : CwS w s v V' := ⟨h.a.call hb, (hb.block _ h.x.lt).trans h.x, belI_call h.bw hb⟩
theorem CwS.grown {w : World} {s : Sn} {v u : Value} {n : Nat} {xs : List Value} {V V' : World} (h : CwS w s v V) (ho : V.ownsRow (w.heap.size + 2) 131 4 u n xs) (hg : V.grownBy V' u.ownBlock) : CwS w s v V' := by
 have hlo : ∀ k, u.ownBlock = some k → w.heap.size + 2 ≤ k := fun k hk => (own_ltB ho k (by rw [hk]; simp)).1
 refine ⟨h.a.grown hg fun e => by have := hlo _ e.symm; omega, (hg.block _ h.x.lt fun e => by have := hlo _ e.symm; omega).trans h.x, (Chg.of_grown hg).below h.bw h.bw.size fun b hb => ?_⟩
 have := hlo b (by simpa using hb)
 omega
theorem CwS.born {w : World} {s : Sn} {v : Value} : CwS w s v ((w.alloc (.cells #[.int .i64 s.w, .int .i64 s.h, .int .i64 s.back, v] 26)).alloc (.cells #[.slice none 0 0] 55)) :=
 ⟨(BkAt.new _ _ _).call (belI_box _ _), by have := heap_alloc_new (w.alloc (.cells #[.int .i64 s.w, .int .i64 s.h, .int .i64 s.back, v] 26)) (.cells #[.slice none 0 0] 55); unfold BxR; simpa using this, belI_call (belI_box _ _) (belI_box _ _)⟩
theorem CwS.res {w : World} {s : Sn} {v : Value} {V : World} (h : CwS w s v V) : V.cell? ⟨w.heap.size + 1, 0, none⟩ = some (.slice none 0 0) ∧ V.frozen? ⟨w.heap.size + 1, 0, none⟩ = false := by
 constructor
 ·simp [World.cell?, show V.heap[w.heap.size + 1]? = _ from h.x]
 ·simp [World.frozen?, show V.heap[w.heap.size + 1]? = _ from h.x]
theorem own_nil2 (V : World) (B : Nat) (hB : B ≤ V.heap.size) : (V.alloc (.cells #[] 131)).ownsRow B 131 4 (.slice (some ⟨V.heap.size, 0, none⟩) 0 0) 0 [] :=
 ⟨rfl, .inr ⟨V.heap.size, 0, #[], rfl, hB, heap_alloc_new V _, Nat.le_refl _, by unfold maxLen; omega, rfl, rfl⟩⟩
end Go.Proofs.YtnndifemkichmaaGreat
namespace Go.Proofs.YtnndifemkichmaaGreat
open Go.RowKit
def rgCells (_ : List Rc) (d : Value) : List Value := [d]
def repIms : Rep (List Im) := repSl repIm 70 3
def wkIms : Wk (List Im) := wkSl wkIm 3
def repRgs : Rep (List (List Rc)) := repSl repRg 55 1
def wkRgs : Wk (List (List Rc)) := wkSl wkRg 1
def mkImK (k : Nat) (f : Im) : Im := ⟨k, (k + 1 : Nat), marksI (k + 2) f.d.length⟩
def lenIs (L : List Im) : Nat := (L.map fun f => f.d.length).sum
def sizIs (L : List Im) : Nat := L.length + lenIs L
theorem lenIs_take {L : List Im} {k : Nat} {f : Im} (h : L[k]? = some f) : lenIs (L.take (k + 1)) = lenIs (L.take k) + f.d.length := by
 unfold lenIs
 rw [List.take_add_one, h, Option.toList_some, List.map_append, List.sum_append]
 simp
theorem lenIs_le (L : List Im) (k : Nat) : lenIs (L.take k) ≤ lenIs L := by
 unfold lenIs
 conv => rhs; rw [← List.take_append_drop k L, List.map_append, List.sum_append]
 omega
theorem lenIs_at {L : List Im} {k : Nat} {f : Im} (h : L[k]? = some f) : f.d.length ≤ lenIs L := by
 have := lenIs_le L (k + 1); rw [lenIs_take h] at this; omega
def cntIs (L : List Im) : Nat := L.length * 2 + lenIs L
theorem cntIs_le (L : List Im) (k : Nat) : cntIs (L.take k) ≤ cntIs L := by
 have := lenIs_le L k; unfold cntIs; rw [List.length_take]; omega
theorem cntIs_take {L : List Im} {k : Nat} {f : Im} (h : L[k]? = some f) : cntIs (L.take (k + 1)) = cntIs (L.take k) + 2 + f.d.length := by
 have hk : k < L.length := (List.getElem?_eq_some_iff.1 h).1
 unfold cntIs lenIs
 rw [List.take_add_one, h, Option.toList_some, List.map_append, List.sum_append, List.length_append]
 simp
 omega
def mkIs (k : Nat) : List Im → List Im
 | [] => []
 | f :: L => mkImK k f :: mkIs (k + 2 + f.d.length) L
theorem mkIs_length (k : Nat) (L : List Im) : (mkIs k L).length = L.length := by
 induction L generalizing k with
 | nil => rfl
 | cons f L ih => simp [mkIs, ih]
theorem mkIs_get {L : List Im} {k : Nat} {f : Im} (k0 : Nat) (h : L[k]? = some f) : (mkIs k0 L)[k]? = some (mkImK (k0 + cntIs (L.take k)) f) := by
  induction L generalizing k k0 with
  | nil => simp at h
  | cons g L ih =>
    cases k with
    | zero =>
      obtain rfl : g = f := by simpa using h
      simp [mkIs, cntIs, lenIs]
    | succ k =>
      have h1 := ih (k0 + 2 + g.d.length) (by simpa using h)
      simp only [mkIs, List.getElem?_cons_succ]
      rw [h1]
      congr 2
      simp [cntIs, lenIs]
      omega
theorem cntIs_siz (L : List Im) : cntIs L ≤ 10 * sizIs L := by unfold cntIs sizIs; omega
def lenGs (L : List (List Rc)) : Nat := (L.map fun f => f.length).sum
def sizGs (L : List (List Rc)) : Nat := L.length + lenGs L
theorem lenGs_take {L : List (List Rc)} {k : Nat} {f : (List Rc)} (h : L[k]? = some f) : lenGs (L.take (k + 1)) = lenGs (L.take k) + f.length := by
 unfold lenGs
 rw [List.take_add_one, h, Option.toList_some, List.map_append, List.sum_append]
 simp
theorem lenGs_le (L : List (List Rc)) (k : Nat) : lenGs (L.take k) ≤ lenGs L := by
 unfold lenGs
 conv => rhs; rw [← List.take_append_drop k L, List.map_append, List.sum_append]
 omega
theorem lenGs_at {L : List (List Rc)} {k : Nat} {f : (List Rc)} (h : L[k]? = some f) : f.length ≤ lenGs L := by
 have := lenGs_le L (k + 1); rw [lenGs_take h] at this; omega
def cntGs (L : List (List Rc)) : Nat := 4 * lenGs L
theorem cntGs_le (L : List (List Rc)) (k : Nat) : cntGs (L.take k) ≤ cntGs L := by
 have := lenGs_le L k; unfold cntGs; omega
theorem cntGs_take {L : List (List Rc)} {k : Nat} {f : (List Rc)} (h : L[k]? = some f) : cntGs (L.take (k + 1)) = cntGs (L.take k) + 4 * f.length := by
 have hk : k < L.length := (List.getElem?_eq_some_iff.1 h).1
 unfold cntGs lenGs
 rw [List.take_add_one, h, Option.toList_some, List.map_append, List.sum_append]
 simp
 omega
def mkGs (k : Nat) : List (List Rc) → List (List Rc)
 | [] => []
 | f :: L => mkRg k f :: mkGs (k + 4 * f.length) L
theorem mkGs_length (k : Nat) (L : List (List Rc)) : (mkGs k L).length = L.length := by
 induction L generalizing k with
 | nil => rfl
 | cons f L ih => simp [mkGs, ih]
theorem mkGs_get {L : List (List Rc)} {k : Nat} {f : (List Rc)} (k0 : Nat) (h : L[k]? = some f) : (mkGs k0 L)[k]? = some (mkRg (k0 + cntGs (L.take k)) f) := by
  induction L generalizing k k0 with
  | nil => simp at h
  | cons g L ih =>
    cases k with
    | zero =>
      obtain rfl : g = f := by simpa using h
      simp [mkGs, cntGs, lenGs]
    | succ k =>
      have h1 := ih (k0 + 4 * g.length) (by simpa using h)
      simp only [mkGs, List.getElem?_cons_succ]
      rw [h1]
      congr 2
      simp [cntGs, lenGs]
      omega
theorem cntGs_siz (L : List (List Rc)) : cntGs L ≤ 10 * sizGs L := by unfold cntGs sizGs; omega
structure Ch where
 ims : List Im
 ages : List Int
 rgs : List (List Rc)
 s : Sn
def chCells (c : Ch) (a b e d : Value) : List Value := [a, b, e, .int .i64 c.s.w, .int .i64 c.s.h, .int .i64 c.s.back, d]
def repCh : Rep Ch where
 R := fun w c vs bs => ∃ a b e d b1 b2 b3 b4, vs = chCells c a b e d ∧ repIms.R w c.ims [a] b1 ∧ repInts.R w c.ages [b] b2 ∧ repRgs.R w c.rgs [e] b3 ∧ repSfs.R w c.s.fs [d] b4 ∧ bs = b1 ++ (b2 ++ (b3 ++ b4))
 ex := by
  rintro w c vs bs ⟨a, b, e, d, b1, b2, b3, b4, rfl, h1, h2, h3, h4, rfl⟩ k hk
  rcases List.mem_append.1 hk with hk | hk
  ·exact repIms.ex h1 k hk
  rcases List.mem_append.1 hk with hk | hk
  ·exact repInts.ex h2 k hk
  rcases List.mem_append.1 hk with hk | hk
  ·exact repRgs.ex h3 k hk
  ·exact repSfs.ex h4 k hk
 keep := by
  rintro w w' c vs bs ⟨a, b, e, d, b1, b2, b3, b4, rfl, h1, h2, h3, h4, rfl⟩ hk
  exact ⟨a, b, e, d, b1, b2, b3, b4, rfl, repIms.keep h1 fun k h => hk k (by simp [h]), repInts.keep h2 fun k h => hk k (by simp [h]), repRgs.keep h3 fun k h => hk k (by simp [h]), repSfs.keep h4 fun k h => hk k (by simp [h]), rfl⟩
def wkCh : Wk Ch where
 R := fun w c vs => ∃ a b e d, vs = chCells c a b e d ∧ wkIms.R w c.ims [a] ∧ wkInts.R w c.ages [b] ∧ wkRgs.R w c.rgs [e] ∧ wkSfs.R w c.s.fs [d]
 call := by rintro w w' c vs ⟨a, b, e, d, rfl, h1, h2, h3, h4⟩ hb; exact ⟨a, b, e, d, rfl, wkIms.call h1 hb, wkInts.call h2 hb, wkRgs.call h3 hb, wkSfs.call h4 hb⟩
theorem wr_cn {w : World} {c : Ch} {a b e d : Value} (h : wkCh.R w c [a, b, e, .int .i64 c.s.w, .int .i64 c.s.h, .int .i64 c.s.back, d]) : wkIms.R w c.ims [a] ∧ wkInts.R w c.ages [b] ∧ wkRgs.R w c.rgs [e] ∧ wkSfs.R w c.s.fs [d] := by
 obtain ⟨a', b', e', d', he, h⟩ := h
 simp [chCells] at he
 obtain ⟨rfl, rfl, rfl, rfl⟩ := he
 exact h
theorem wints_rd {w : World} {L : List Int} {v : Value} (h : wkInts.R w L [v]) : Rd w v L.length (intCells L) := by
 obtain ⟨u, e, h⟩ := h
 obtain rfl : v = u := by simpa using e
 exact h
theorem wform_cn {w : World} {f : Ch} {a b e d : Value} (h : wkCh.R w f [a, b, e, .int .i64 f.s.w, .int .i64 f.s.h, .int .i64 f.s.back, d]) : ∃ A0 c0 A1 c1 A2 c2 A3 c3, a = .slice A0 f.ims.length c0 ∧ b = .slice A1 f.ages.length c1 ∧ e = .slice A2 f.rgs.length c2 ∧ d = .slice A3 f.s.fs.length c3 := by
 obtain ⟨h1, h2, h3, h4⟩ := wr_cn h
 obtain ⟨A0, c0, e0⟩ := (wkSl_form h1).1
 obtain ⟨A1, c1, e1⟩ := (wints_rd h2).form
 obtain ⟨A2, c2, e2⟩ := (wkSl_form h3).1
 obtain ⟨A3, c3, e3⟩ := (wkSl_form h4).1
 exact ⟨A0, c0, A1, c1, A2, c2, A3, c3, e0, e1, e2, e3⟩
theorem r_cn {w : World} {c : Ch} {a b e d : Value} {bs : List Nat} (h : repCh.R w c [a, b, e, .int .i64 c.s.w, .int .i64 c.s.h, .int .i64 c.s.back, d] bs) : ∃ b1 b2 b3 b4, repIms.R w c.ims [a] b1 ∧ repInts.R w c.ages [b] b2 ∧ repRgs.R w c.rgs [e] b3 ∧ repSfs.R w c.s.fs [d] b4 ∧ bs = b1 ++ (b2 ++ (b3 ++ b4)) := by
 obtain ⟨a', b', e', d', b1, b2, b3, b4, he, h⟩ := h
 simp [chCells] at he
 obtain ⟨rfl, rfl, rfl, rfl⟩ := he
 exact ⟨b1, b2, b3, b4, h⟩
def sizCh (f : Ch) : Nat := sizIs f.ims + (f.ages.length + (sizGs f.rgs + sizFs f.s.fs))
def cntCh (f : Ch) : Nat := cntIs f.ims + (f.ages.length + (cntGs f.rgs + cntFs f.s.fs))
theorem cntCh_siz (f : Ch) : cntCh f ≤ 10 * sizCh f := by
 have := cntIs_siz f.ims; have := cntGs_siz f.rgs; have := cnt_le_siz f.s.fs
 unfold cntCh sizCh; omega
def mkCh (k : Nat) (f : Ch) : Ch := ⟨mkIs k f.ims, marksI (k + cntIs f.ims) f.ages.length, mkGs (k + cntIs f.ims + f.ages.length) f.rgs, mkSn (k + cntIs f.ims + f.ages.length + cntGs f.rgs) f.s⟩
end Go.Proofs.YtnndifemkichmaaGreat
namespace Go.Proofs.YtnndifemkichmaaGreat
open Go.RowKit
set_option maxHeartbeats 2000000 in
set_option maxRecDepth 10000 in
theorem szIs_yes (L : List Im) (v : Value) (l : Int) (w : World) (h : wkIms.R w L [v]) (hl : ((sizIs L : Nat) : Int) ≤ l) (hl2 : l ≤ 2097152) :
  Calls Tryz.prog 78 #[v, .int .i64 l] w fun e w' => e = .returned (.int .i64 (l - ((sizIs L : Nat) : Int))) ∧ Below w.heap.size w w' := by
 obtain ⟨⟨A, c, rfl⟩, hm⟩ := wkSl_form h
 obtain ⟨n, hn⟩ : ∃ n, n = L.length := ⟨_, rfl⟩
 rw [← hn] at h hm ⊢
 unfold maxLen at hm
 unfold sizIs at hl ⊢
 rw [← hn] at hl ⊢
 have H := Lib.hid h
 have Hn := Lib.hid hn
 clear h hn
 have hn0 : ¬ l - (n : Int) < 0 := by omega
 obtain ⟨T, hT⟩ : ∃ T, T = lenIs L := ⟨_, rfl⟩
 rw [← hT] at hl ⊢
 have HT := Lib.hid hT
 clear hT
 go_enter Tryz.func78, Tryz.ntmps78
 go_wp2_with fail
 go_loopw [1, 5] (fun s1 s5 wr => ∃ (k : Nat) (t : Int), k ≤ n ∧ s5 = .int .i64 k ∧ s1 = .int .i64 t ∧ Hid (t = l - (n : Int) - ((lenIs (L.take k) : Nat) : Int)) ∧ Hid (Below w.heap.size w wr)) (fun _ s5 _ => n - (intOf s5).toNat)
 case atStart => exact ⟨0, _, Nat.zero_le _, rfl, rfl, Lib.hid (by simp [lenIs]), Lib.hid (Below.refl _ _)⟩
 case round =>
  obtain ⟨k, t, hk, rfl, rfl, Ht, HB⟩ := hrel
  have ht1 : t ≤ 2097152 := by have := Ht.out; omega
  by_cases hlt : k < n
  ·obtain ⟨ad, f, xs, rfl, hf, hxl, hR, hC⟩ := wkSl_at (wkIms.call H.out HB.out) (by omega) (k := k) (by rw [← Hn.out]; exact hlt)
   have hR2 := hR
   obtain ⟨d, rfl, hd⟩ := hR2
   have h1 := lenIs_take hf
   have h2 := lenIs_le L (k + 1)
   rw [← HT.out] at h2
   have hle : ((f.d.length : Nat) : Int) ≤ t := by have := Ht.out; omega
   have hz := sz_im_yes f d t wr hR hle ht1
   have hn1 : ¬ t - ((f.d.length : Nat) : Int) < 0 := by omega
   have HZ := Lib.hid hz
   have Ht2 : Hid (t - ((f.d.length : Nat) : Int) = l - (n : Int) - ((lenIs (L.take (k + 1)) : Nat) : Int)) := Lib.hid (by have := Ht.out; rw [h1]; push_cast; omega)
   have k0 : (0 : Int) ≤ (k : Int) := by omega
   have k1 : (k : Int) < (n : Int) := by omega
   have c0 := hC.1
   simp only [imCells, List.getElem?_cons_zero] at c0
   have c1 := hC.2 1 _ (by omega) rfl
   have c2 := hC.2 2 _ (by omega) rfl
   clear hf hR hd hC hz h1 h2 hxl
   go_wp2_with fail
   refine HZ.out.mono ?_
   rintro e w1 ⟨rfl, hb⟩
   have HB2 := Lib.hid (belI_call HB.out hb)
   clear c0 c1 c2 hb
   go_wp2_with fail
   go_roundw
   case rel => exact ⟨k + 1, _, by omega, by go_num, rfl, Ht2, HB2⟩
   case measure => simp [intOf]; omega
  ·obtain rfl : k = n := by omega
   have he : t = l - ((k + T : Nat) : Int) := by have := Ht.out; rw [List.take_of_length_le (by rw [← Hn.out]; exact Nat.le_refl _), ← HT.out] at this; push_cast; omega
   have He := Lib.hid he
   clear he
   go_wp2_with fail
   go_ret
   exact ⟨ret_int He.out, HB.out⟩
set_option maxHeartbeats 2000000 in
set_option maxRecDepth 10000 in
theorem szIs_no (L : List Im) (v : Value) (l : Int) (w : World) (h : wkIms.R w L [v]) (h0 : 0 ≤ l) (hl : l < ((sizIs L : Nat) : Int)) (hl2 : l ≤ 2097152) :
  Calls Tryz.prog 78 #[v, .int .i64 l] w fun e w' => e = .returned (.int .i64 (-1)) ∧ Below w.heap.size w w' := by
 obtain ⟨⟨A, c, rfl⟩, hm⟩ := wkSl_form h
 obtain ⟨n, hn⟩ : ∃ n, n = L.length := ⟨_, rfl⟩
 rw [← hn] at h hm ⊢
 unfold maxLen at hm
 unfold sizIs at hl
 rw [← hn] at hl
 have H := Lib.hid h
 have Hn := Lib.hid hn
 clear h hn
 by_cases hn1 : l - (n : Int) < 0
 ·clear hl
  go_enter Tryz.func78, Tryz.ntmps78
  go_wp2_with fail
  go_ret
  exact ⟨rfl, Below.refl _ _⟩
 obtain ⟨T, hT⟩ : ∃ T, T = lenIs L := ⟨_, rfl⟩
 rw [← hT] at hl
 have HT := Lib.hid hT
 clear hT
 go_enter Tryz.func78, Tryz.ntmps78
 go_wp2_with fail
 go_loopw [1, 5] (fun s1 s5 wr => ∃ (k : Nat) (t : Int), k ≤ n ∧ s5 = .int .i64 k ∧ s1 = .int .i64 t ∧ Hid (t = l - (n : Int) - ((lenIs (L.take k) : Nat) : Int) ∧ 0 ≤ t) ∧ Hid (Below w.heap.size w wr)) (fun _ s5 _ => n - (intOf s5).toNat)
 case atStart => exact ⟨0, _, Nat.zero_le _, rfl, rfl, Lib.hid (by simp [lenIs]; omega), Lib.hid (Below.refl _ _)⟩
 case round =>
  obtain ⟨k, t, hk, rfl, rfl, Ht, HB⟩ := hrel
  have ht1 : t ≤ 2097152 := by have := Ht.out.1; omega
  have ht0 := Ht.out.2
  by_cases hlt : k < n
  ·obtain ⟨ad, f, xs, rfl, hf, hxl, hR, hC⟩ := wkSl_at (wkIms.call H.out HB.out) (by omega) (k := k) (by rw [← Hn.out]; exact hlt)
   have hR2 := hR
   obtain ⟨d, rfl, hd⟩ := hR2
   have h1 := lenIs_take hf
   have k0 : (0 : Int) ≤ (k : Int) := by omega
   have k1 : (k : Int) < (n : Int) := by omega
   have c0 := hC.1
   simp only [imCells, List.getElem?_cons_zero] at c0
   have c1 := hC.2 1 _ (by omega) rfl
   have c2 := hC.2 2 _ (by omega) rfl
   by_cases hle : ((f.d.length : Nat) : Int) ≤ t
   ·have HZ := Lib.hid (sz_im_yes f d t wr hR hle ht1)
    have hn3 : ¬ t - ((f.d.length : Nat) : Int) < 0 := by omega
    have Ht2 : Hid (t - ((f.d.length : Nat) : Int) = l - (n : Int) - ((lenIs (L.take (k + 1)) : Nat) : Int) ∧ 0 ≤ t - ((f.d.length : Nat) : Int)) := Lib.hid (by have := Ht.out.1; rw [h1]; push_cast; omega)
    clear hf hR hd hC h1 hxl
    go_wp2_with fail
    refine HZ.out.mono ?_
    rintro e w1 ⟨rfl, hb⟩
    have HB2 := Lib.hid (belI_call HB.out hb)
    clear c0 c1 c2 hb
    go_wp2_with fail
    go_roundw
    case rel => exact ⟨k + 1, _, by omega, by go_num, rfl, Ht2, HB2⟩
    case measure => simp [intOf]; omega
   ·have HZ := Lib.hid (sz_im_no f d t wr hR ht0 (by omega) ht1)
    clear hf hR hd hC h1 hxl
    go_wp2_with fail
    refine HZ.out.mono ?_
    rintro e w1 ⟨rfl, hb⟩
    have HB2 := Lib.hid (belI_call HB.out hb)
    clear c0 c1 c2 hb
    go_wp2_with fail
    go_ret
    exact ⟨rfl, HB2.out⟩
  ·obtain rfl : k = n := by omega
   have := Ht.out.1
   rw [List.take_of_length_le (by rw [← Hn.out]; exact Nat.le_refl _), ← HT.out] at this
   omega
set_option maxHeartbeats 2000000 in
set_option maxRecDepth 10000 in
theorem szGs_yes (L : List (List Rc)) (v : Value) (l : Int) (w : World) (h : wkRgs.R w L [v]) (hl : ((sizGs L : Nat) : Int) ≤ l) (hl2 : l ≤ 2097152) :
  Calls Tryz.prog 80 #[v, .int .i64 l] w fun e w' => e = .returned (.int .i64 (l - ((sizGs L : Nat) : Int))) ∧ Below w.heap.size w w' := by
 obtain ⟨⟨A, c, rfl⟩, hm⟩ := wkSl_form h
 obtain ⟨n, hn⟩ : ∃ n, n = L.length := ⟨_, rfl⟩
 rw [← hn] at h hm ⊢
 unfold maxLen at hm
 unfold sizGs at hl ⊢
 rw [← hn] at hl ⊢
 have H := Lib.hid h
 have Hn := Lib.hid hn
 clear h hn
 have hn0 : ¬ l - (n : Int) < 0 := by omega
 obtain ⟨T, hT⟩ : ∃ T, T = lenGs L := ⟨_, rfl⟩
 rw [← hT] at hl ⊢
 have HT := Lib.hid hT
 clear hT
 go_enter Tryz.func80, Tryz.ntmps80
 go_wp2_with fail
 go_loopw [1, 5] (fun s1 s5 wr => ∃ (k : Nat) (t : Int), k ≤ n ∧ s5 = .int .i64 k ∧ s1 = .int .i64 t ∧ Hid (t = l - (n : Int) - ((lenGs (L.take k) : Nat) : Int)) ∧ Hid (Below w.heap.size w wr)) (fun _ s5 _ => n - (intOf s5).toNat)
 case atStart => exact ⟨0, _, Nat.zero_le _, rfl, rfl, Lib.hid (by simp [lenGs]), Lib.hid (Below.refl _ _)⟩
 case round =>
  obtain ⟨k, t, hk, rfl, rfl, Ht, HB⟩ := hrel
  have ht1 : t ≤ 2097152 := by have := Ht.out; omega
  by_cases hlt : k < n
  ·obtain ⟨ad, f, xs, rfl, hf, hxl, hR, hC⟩ := wkSl_at (wkRgs.call H.out HB.out) (by omega) (k := k) (by rw [← Hn.out]; exact hlt)
   have hR2 := hR
   obtain ⟨d, rfl, hd⟩ := hR2
   have h1 := lenGs_take hf
   have h2 := lenGs_le L (k + 1)
   rw [← HT.out] at h2
   have hle : ((f.length : Nat) : Int) ≤ t := by have := Ht.out; omega
   have hz := sz_rg_yes f d t wr hR hle ht1
   have hn1 : ¬ t - ((f.length : Nat) : Int) < 0 := by omega
   have HZ := Lib.hid hz
   have Ht2 : Hid (t - ((f.length : Nat) : Int) = l - (n : Int) - ((lenGs (L.take (k + 1)) : Nat) : Int)) := Lib.hid (by have := Ht.out; rw [h1]; push_cast; omega)
   have k0 : (0 : Int) ≤ (k : Int) := by omega
   have k1 : (k : Int) < (n : Int) := by omega
   have c0 := hC.1
   simp only [List.getElem?_cons_zero, Nat.mul_one] at c0
   clear hf hR hd hC hz h1 h2 hxl
   go_wp2_with fail
   refine HZ.out.mono ?_
   rintro e w1 ⟨rfl, hb⟩
   have HB2 := Lib.hid (belI_call HB.out hb)
   clear c0 hb
   go_wp2_with fail
   go_roundw
   case rel => exact ⟨k + 1, _, by omega, by go_num, rfl, Ht2, HB2⟩
   case measure => simp [intOf]; omega
  ·obtain rfl : k = n := by omega
   have he : t = l - ((k + T : Nat) : Int) := by have := Ht.out; rw [List.take_of_length_le (by rw [← Hn.out]; exact Nat.le_refl _), ← HT.out] at this; push_cast; omega
   have He := Lib.hid he
   clear he
   go_wp2_with fail
   go_ret
   exact ⟨ret_int He.out, HB.out⟩
set_option maxHeartbeats 2000000 in
set_option maxRecDepth 10000 in
theorem szGs_no (L : List (List Rc)) (v : Value) (l : Int) (w : World) (h : wkRgs.R w L [v]) (h0 : 0 ≤ l) (hl : l < ((sizGs L : Nat) : Int)) (hl2 : l ≤ 2097152) :
  Calls Tryz.prog 80 #[v, .int .i64 l] w fun e w' => e = .returned (.int .i64 (-1)) ∧ Below w.heap.size w w' := by
 obtain ⟨⟨A, c, rfl⟩, hm⟩ := wkSl_form h
 obtain ⟨n, hn⟩ : ∃ n, n = L.length := ⟨_, rfl⟩
 rw [← hn] at h hm ⊢
 unfold maxLen at hm
 unfold sizGs at hl
 rw [← hn] at hl
 have H := Lib.hid h
 have Hn := Lib.hid hn
 clear h hn
 by_cases hn1 : l - (n : Int) < 0
 ·clear hl
  go_enter Tryz.func80, Tryz.ntmps80
  go_wp2_with fail
  go_ret
  exact ⟨rfl, Below.refl _ _⟩
 obtain ⟨T, hT⟩ : ∃ T, T = lenGs L := ⟨_, rfl⟩
 rw [← hT] at hl
 have HT := Lib.hid hT
 clear hT
 go_enter Tryz.func80, Tryz.ntmps80
 go_wp2_with fail
 go_loopw [1, 5] (fun s1 s5 wr => ∃ (k : Nat) (t : Int), k ≤ n ∧ s5 = .int .i64 k ∧ s1 = .int .i64 t ∧ Hid (t = l - (n : Int) - ((lenGs (L.take k) : Nat) : Int) ∧ 0 ≤ t) ∧ Hid (Below w.heap.size w wr)) (fun _ s5 _ => n - (intOf s5).toNat)
 case atStart => exact ⟨0, _, Nat.zero_le _, rfl, rfl, Lib.hid (by simp [lenGs]; omega), Lib.hid (Below.refl _ _)⟩
 case round =>
  obtain ⟨k, t, hk, rfl, rfl, Ht, HB⟩ := hrel
  have ht1 : t ≤ 2097152 := by have := Ht.out.1; omega
  have ht0 := Ht.out.2
  by_cases hlt : k < n
  ·obtain ⟨ad, f, xs, rfl, hf, hxl, hR, hC⟩ := wkSl_at (wkRgs.call H.out HB.out) (by omega) (k := k) (by rw [← Hn.out]; exact hlt)
   have hR2 := hR
   obtain ⟨d, rfl, hd⟩ := hR2
   have h1 := lenGs_take hf
   have k0 : (0 : Int) ≤ (k : Int) := by omega
   have k1 : (k : Int) < (n : Int) := by omega
   have c0 := hC.1
   simp only [List.getElem?_cons_zero, Nat.mul_one] at c0
   by_cases hle : ((f.length : Nat) : Int) ≤ t
   ·have HZ := Lib.hid (sz_rg_yes f d t wr hR hle ht1)
    have hn3 : ¬ t - ((f.length : Nat) : Int) < 0 := by omega
    have Ht2 : Hid (t - ((f.length : Nat) : Int) = l - (n : Int) - ((lenGs (L.take (k + 1)) : Nat) : Int) ∧ 0 ≤ t - ((f.length : Nat) : Int)) := Lib.hid (by have := Ht.out.1; rw [h1]; push_cast; omega)
    clear hf hR hd hC h1 hxl
    go_wp2_with fail
    refine HZ.out.mono ?_
    rintro e w1 ⟨rfl, hb⟩
    have HB2 := Lib.hid (belI_call HB.out hb)
    clear c0 hb
    go_wp2_with fail
    go_roundw
    case rel => exact ⟨k + 1, _, by omega, by go_num, rfl, Ht2, HB2⟩
    case measure => simp [intOf]; omega
   ·have HZ := Lib.hid (sz_rg_no f d t wr hR ht0 (by omega) ht1)
    clear hf hR hd hC h1 hxl
    go_wp2_with fail
    refine HZ.out.mono ?_
    rintro e w1 ⟨rfl, hb⟩
    have HB2 := Lib.hid (belI_call HB.out hb)
    clear c0 hb
    go_wp2_with fail
    go_ret
    exact ⟨rfl, HB2.out⟩
  ·obtain rfl : k = n := by omega
   have := Ht.out.1
   rw [List.take_of_length_le (by rw [← Hn.out]; exact Nat.le_refl _), ← HT.out] at this
   omega
end Go.Proofs.YtnndifemkichmaaGreat
namespace Go.Proofs.YtnndifemkichmaaGreat
open Go.RowKit
theorem form_lIs {w : World} {v : Value} {L : List Im} {bs : List Nat} (h : repIms.R w L [v] bs) : (∃ A c, v = .slice A L.length c) ∧ L.length ≤ maxLen := by
 rcases SlU.of_rep h with ⟨rfl, rfl, rfl⟩ | ⟨g, c, xs, bss, rfl, hU, rfl⟩
 ·exact ⟨⟨none, 0, rfl⟩, Nat.zero_le _⟩
 ·rcases hU.ow.2 with ⟨he, _⟩ | ⟨g', cap, cur, he, _, _, hn, hc, _⟩
  ·cases he
  ·exact ⟨⟨_, _, rfl⟩, by omega⟩
theorem at_lIs {w : World} {A : Option Addr} {n c k : Nat} {L : List Im} {bs : List Nat} (h : repIms.R w L [.slice A n c] bs) (hk : k < L.length) : ∃ g f d b, A = some ⟨g, 0, none⟩ ∧ L[k]? = some f ∧ repIm.R w f (imCells f d) b ∧ ∀ j u, (imCells f d)[j]? = some u → w.cell? ⟨g, k * 3 + j, none⟩ = some u := by
 rcases SlU.of_rep h with ⟨_, rfl, _⟩ | ⟨g, c', xs, bss, he, hU, _⟩
 ·simp at hk
 ·injection he with e1 e2 e3
  subst e1
  obtain ⟨f, x, b, hf, hx, hb, hl, hR, hc⟩ := hU.at_ hk
  have hR2 := hR
  obtain ⟨d, rfl, _⟩ := hR2
  exact ⟨g, f, d, b, rfl, hf, hR, hc⟩
structure EqSIs (w : World) (g g' k : Nat) (f : Im) (d d' : Value) (b b' : List Nat) (W : World) : Prop where
 c : ∀ j u, (imCells f d)[j]? = some u → W.cell? ⟨g, k * 3 + j, none⟩ = some u
 c' : ∀ j u, (imCells f d')[j]? = some u → W.cell? ⟨g', k * 3 + j, none⟩ = some u
 r : repIm.R W f (imCells f d) b
 r' : repIm.R W f (imCells f d') b'
 bw : Below w.heap.size w W
theorem EqSIs.call {w : World} {g g' k : Nat} {f : Im} {d d' : Value} {b b' : List Nat} {W W' : World} (h : EqSIs w g g' k f d d' b b' W) (hb : Below W.heap.size W W') : EqSIs w g g' k f d d' b b' W' :=
 ⟨fun j u hu => (hb.cell (World.block_lt_of_cell? W _ (h.c j u hu))).trans (h.c j u hu), fun j u hu => (hb.cell (World.block_lt_of_cell? W _ (h.c' j u hu))).trans (h.c' j u hu), Rep.call h.r hb, Rep.call h.r' hb, belI_call h.bw hb⟩
set_option maxHeartbeats 2000000 in
set_option maxRecDepth 10000 in
theorem eqIs_same (L : List Im) (v u : Value) (bs cs : List Nat) (w : World) (h1 : repIms.R w L [v] bs) (h2 : repIms.R w L [u] cs) : Calls Tryz.prog 94 #[v, u] w fun e w' => e = .returned (.bool true) ∧ Below w.heap.size w w' := by
 obtain ⟨⟨A, c, rfl⟩, hm⟩ := form_lIs h1
 obtain ⟨⟨A', c', rfl⟩, _⟩ := form_lIs h2
 obtain ⟨n, hn⟩ : ∃ n, n = L.length := ⟨_, rfl⟩
 rw [← hn] at h1 h2 hm ⊢
 unfold maxLen at hm
 have H1 := Lib.hid h1
 have H2 := Lib.hid h2
 have Hn := Lib.hid hn
 clear h1 h2 hn
 go_enter Tryz.func94, Tryz.ntmps94
 go_wp2_with fail
 go_loopw [5] (fun s5 wr => ∃ k : Nat, k ≤ n ∧ s5 = .int .i64 k ∧ Hid (Below w.heap.size w wr)) (fun s5 _ => n - (intOf s5).toNat)
 case atStart => exact ⟨0, Nat.zero_le _, rfl, Lib.hid (Below.refl _ _)⟩
 case round =>
  obtain ⟨k, hk, rfl, HB⟩ := hrel
  by_cases hlt : k < n
  ·obtain ⟨g, f, d, b, rfl, hf, hR, hC⟩ := at_lIs (Rep.call H1.out HB.out) (k := k) (by rw [← Hn.out]; exact hlt)
   obtain ⟨g', f', d', b', rfl, hf', hR', hC'⟩ := at_lIs (Rep.call H2.out HB.out) (k := k) (by rw [← Hn.out]; exact hlt)
   obtain rfl : f = f' := Option.some.inj (hf.symm.trans hf')
   have hT : EqSIs w g g' k f d d' b b' wr := ⟨hC, hC', hR, hR', HB.out⟩
   have k0 : (0 : Int) ≤ (k : Int) := by omega
   have k1 : (k : Int) < (n : Int) := by omega
   clear hf hf' hR hR' hC hC'
   go_upto_region 6 with fail
   refine wp_region_held_drew (S := fun W => EqSIs w g g' k f d d' b b' W) (by kernel_rfl) (hT.call (belI_drew _)) (fun hS => ?_)
   refine tcH (i := 0) (v := .slice (some ⟨g, 0, none⟩) n c) rfl (by intro w' hSw; (try dsimp only at hSw); (have a0 := hSw.c 0 _ rfl); (rw [Nat.add_zero] at a0); (have a1 := hSw.c 1 _ rfl); (have a2 := hSw.c 2 _ rfl); (have b0 := hSw.c' 0 _ rfl); (rw [Nat.add_zero] at b0); (have b1 := hSw.c' 1 _ rfl); (have b2 := hSw.c' 2 _ rfl); go_simp) ?_
   refine tcH (i := 1) (v := .int .i64 (k : Int)) rfl (by intro w' hSw; (try dsimp only at hSw); (have a0 := hSw.c 0 _ rfl); (rw [Nat.add_zero] at a0); (have a1 := hSw.c 1 _ rfl); (have a2 := hSw.c 2 _ rfl); (have b0 := hSw.c' 0 _ rfl); (rw [Nat.add_zero] at b0); (have b1 := hSw.c' 1 _ rfl); (have b2 := hSw.c' 2 _ rfl); go_simp) ?_
   refine tcH (i := 2) (v := .pointer (some ⟨g, k * 3, none⟩)) rfl (by intro w' hSw; (try dsimp only at hSw); (have a0 := hSw.c 0 _ rfl); (rw [Nat.add_zero] at a0); (have a1 := hSw.c 1 _ rfl); (have a2 := hSw.c 2 _ rfl); (have b0 := hSw.c' 0 _ rfl); (rw [Nat.add_zero] at b0); (have b1 := hSw.c' 1 _ rfl); (have b2 := hSw.c' 2 _ rfl); go_simp) ?_
   refine tcH (i := 3) (v := .agg #[.int .i64 f.w, .int .i64 f.h, d]) rfl (by intro w' hSw; (try dsimp only at hSw); (have a0 := hSw.c 0 _ rfl); (rw [Nat.add_zero] at a0); (have a1 := hSw.c 1 _ rfl); (have a2 := hSw.c 2 _ rfl); (have b0 := hSw.c' 0 _ rfl); (rw [Nat.add_zero] at b0); (have b1 := hSw.c' 1 _ rfl); (have b2 := hSw.c' 2 _ rfl); go_simp) ?_
   refine tcH (i := 4) (v := .slice (some ⟨g', 0, none⟩) n c') rfl (by intro w' hSw; (try dsimp only at hSw); (have a0 := hSw.c 0 _ rfl); (rw [Nat.add_zero] at a0); (have a1 := hSw.c 1 _ rfl); (have a2 := hSw.c 2 _ rfl); (have b0 := hSw.c' 0 _ rfl); (rw [Nat.add_zero] at b0); (have b1 := hSw.c' 1 _ rfl); (have b2 := hSw.c' 2 _ rfl); go_simp) ?_
   refine tcH (i := 5) (v := .int .i64 (k : Int)) rfl (by intro w' hSw; (try dsimp only at hSw); (have a0 := hSw.c 0 _ rfl); (rw [Nat.add_zero] at a0); (have a1 := hSw.c 1 _ rfl); (have a2 := hSw.c 2 _ rfl); (have b0 := hSw.c' 0 _ rfl); (rw [Nat.add_zero] at b0); (have b1 := hSw.c' 1 _ rfl); (have b2 := hSw.c' 2 _ rfl); go_simp) ?_
   refine tcH (i := 6) (v := .pointer (some ⟨g', k * 3, none⟩)) rfl (by intro w' hSw; (try dsimp only at hSw); (have a0 := hSw.c 0 _ rfl); (rw [Nat.add_zero] at a0); (have a1 := hSw.c 1 _ rfl); (have a2 := hSw.c 2 _ rfl); (have b0 := hSw.c' 0 _ rfl); (rw [Nat.add_zero] at b0); (have b1 := hSw.c' 1 _ rfl); (have b2 := hSw.c' 2 _ rfl); go_simp) ?_
   refine tcH (i := 7) (v := .agg #[.int .i64 f.w, .int .i64 f.h, d']) rfl (by intro w' hSw; (try dsimp only at hSw); (have a0 := hSw.c 0 _ rfl); (rw [Nat.add_zero] at a0); (have a1 := hSw.c 1 _ rfl); (have a2 := hSw.c 2 _ rfl); (have b0 := hSw.c' 0 _ rfl); (rw [Nat.add_zero] at b0); (have b1 := hSw.c' 1 _ rfl); (have b2 := hSw.c' 2 _ rfl); go_simp) ?_
   (try simp only [Act.put]); (try simp only [zPa]); (try simp only [zPb, zPc])
   refine wpAnyH_ready (rs := [8]) (by kernel_rfl) (by simp) ?_
   refine (AllReadyH.cons rfl (fun K hK => ?_) AllReadyH.nil)
   ·rw [if_pos (by kernel_rfl)]
    (try simp only [zGa]); (try simp only [zGb]); (try simp only [zGc])
    go_simp
    with_reducible refine (eq_im f d d' b b' _ hS.r hS.r').mono ?_
    rintro e W' ⟨rfl, hb⟩
    dsimp only
    refine hK.out _ _ (hS.call hb) (fun hS => ?_)
    clear hK
    (try simp only [Act.put]); (try simp only [zPa]); (try simp only [zPb, zPc])
    refine tcH (i := 9) (v := .bool false) rfl (by intro w' hSw; (try dsimp only at hSw); (have a0 := hSw.c 0 _ rfl); (rw [Nat.add_zero] at a0); (have a1 := hSw.c 1 _ rfl); (have a2 := hSw.c 2 _ rfl); (have b0 := hSw.c' 0 _ rfl); (rw [Nat.add_zero] at b0); (have b1 := hSw.c' 1 _ rfl); (have b2 := hSw.c' 2 _ rfl); go_simp) ?_
    refine wpAnyH_done (by kernel_rfl) ?_ _
    go_wp2_with fail
    go_roundw
    case rel => exact ⟨k + 1, by omega, by go_num, Lib.hid hS.bw⟩
    case measure => simp [intOf]; omega
  ·obtain rfl : k = n := by omega
   go_wp2_with fail
   go_ret
   exact ⟨rfl, HB.out⟩
theorem form_lGs {w : World} {v : Value} {L : List (List Rc)} {bs : List Nat} (h : repRgs.R w L [v] bs) : (∃ A c, v = .slice A L.length c) ∧ L.length ≤ maxLen := by
 rcases SlU.of_rep h with ⟨rfl, rfl, rfl⟩ | ⟨g, c, xs, bss, rfl, hU, rfl⟩
 ·exact ⟨⟨none, 0, rfl⟩, Nat.zero_le _⟩
 ·rcases hU.ow.2 with ⟨he, _⟩ | ⟨g', cap, cur, he, _, _, hn, hc, _⟩
  ·cases he
  ·exact ⟨⟨_, _, rfl⟩, by omega⟩
theorem at_lGs {w : World} {A : Option Addr} {n c k : Nat} {L : List (List Rc)} {bs : List Nat} (h : repRgs.R w L [.slice A n c] bs) (hk : k < L.length) : ∃ g f d b, A = some ⟨g, 0, none⟩ ∧ L[k]? = some f ∧ repRg.R w f (rgCells f d) b ∧ ∀ j u, (rgCells f d)[j]? = some u → w.cell? ⟨g, k * 1 + j, none⟩ = some u := by
 rcases SlU.of_rep h with ⟨_, rfl, _⟩ | ⟨g, c', xs, bss, he, hU, _⟩
 ·simp at hk
 ·injection he with e1 e2 e3
  subst e1
  obtain ⟨f, x, b, hf, hx, hb, hl, hR, hc⟩ := hU.at_ hk
  have hR2 := hR
  obtain ⟨d, rfl, _⟩ := hR2
  exact ⟨g, f, d, b, rfl, hf, hR, hc⟩
structure EqSGs (w : World) (g g' k : Nat) (f : (List Rc)) (d d' : Value) (b b' : List Nat) (W : World) : Prop where
 c : ∀ j u, (rgCells f d)[j]? = some u → W.cell? ⟨g, k * 1 + j, none⟩ = some u
 c' : ∀ j u, (rgCells f d')[j]? = some u → W.cell? ⟨g', k * 1 + j, none⟩ = some u
 r : repRg.R W f (rgCells f d) b
 r' : repRg.R W f (rgCells f d') b'
 bw : Below w.heap.size w W
theorem EqSGs.call {w : World} {g g' k : Nat} {f : (List Rc)} {d d' : Value} {b b' : List Nat} {W W' : World} (h : EqSGs w g g' k f d d' b b' W) (hb : Below W.heap.size W W') : EqSGs w g g' k f d d' b b' W' :=
 ⟨fun j u hu => (hb.cell (World.block_lt_of_cell? W _ (h.c j u hu))).trans (h.c j u hu), fun j u hu => (hb.cell (World.block_lt_of_cell? W _ (h.c' j u hu))).trans (h.c' j u hu), Rep.call h.r hb, Rep.call h.r' hb, belI_call h.bw hb⟩
set_option maxHeartbeats 2000000 in
set_option maxRecDepth 10000 in
theorem eqGs_same (L : List (List Rc)) (v u : Value) (bs cs : List Nat) (w : World) (h1 : repRgs.R w L [v] bs) (h2 : repRgs.R w L [u] cs) : Calls Tryz.prog 95 #[v, u] w fun e w' => e = .returned (.bool true) ∧ Below w.heap.size w w' := by
 obtain ⟨⟨A, c, rfl⟩, hm⟩ := form_lGs h1
 obtain ⟨⟨A', c', rfl⟩, _⟩ := form_lGs h2
 obtain ⟨n, hn⟩ : ∃ n, n = L.length := ⟨_, rfl⟩
 rw [← hn] at h1 h2 hm ⊢
 unfold maxLen at hm
 have H1 := Lib.hid h1
 have H2 := Lib.hid h2
 have Hn := Lib.hid hn
 clear h1 h2 hn
 go_enter Tryz.func95, Tryz.ntmps95
 go_wp2_with fail
 go_loopw [5] (fun s5 wr => ∃ k : Nat, k ≤ n ∧ s5 = .int .i64 k ∧ Hid (Below w.heap.size w wr)) (fun s5 _ => n - (intOf s5).toNat)
 case atStart => exact ⟨0, Nat.zero_le _, rfl, Lib.hid (Below.refl _ _)⟩
 case round =>
  obtain ⟨k, hk, rfl, HB⟩ := hrel
  by_cases hlt : k < n
  ·obtain ⟨g, f, d, b, rfl, hf, hR, hC⟩ := at_lGs (Rep.call H1.out HB.out) (k := k) (by rw [← Hn.out]; exact hlt)
   obtain ⟨g', f', d', b', rfl, hf', hR', hC'⟩ := at_lGs (Rep.call H2.out HB.out) (k := k) (by rw [← Hn.out]; exact hlt)
   obtain rfl : f = f' := Option.some.inj (hf.symm.trans hf')
   have hT : EqSGs w g g' k f d d' b b' wr := ⟨hC, hC', hR, hR', HB.out⟩
   have k0 : (0 : Int) ≤ (k : Int) := by omega
   have k1 : (k : Int) < (n : Int) := by omega
   clear hf hf' hR hR' hC hC'
   go_upto_region 6 with fail
   refine wp_region_held_drew (S := fun W => EqSGs w g g' k f d d' b b' W) (by kernel_rfl) (hT.call (belI_drew _)) (fun hS => ?_)
   refine tcH (i := 0) (v := .slice (some ⟨g, 0, none⟩) n c) rfl (by intro w' hSw; (try dsimp only at hSw); (have a0 := hSw.c 0 _ rfl); (rw [Nat.add_zero, Nat.mul_one] at a0); (have b0 := hSw.c' 0 _ rfl); (rw [Nat.add_zero, Nat.mul_one] at b0); go_simp) ?_
   refine tcH (i := 1) (v := .int .i64 (k : Int)) rfl (by intro w' hSw; (try dsimp only at hSw); (have a0 := hSw.c 0 _ rfl); (rw [Nat.add_zero, Nat.mul_one] at a0); (have b0 := hSw.c' 0 _ rfl); (rw [Nat.add_zero, Nat.mul_one] at b0); go_simp) ?_
   refine tcH (i := 2) (v := .pointer (some ⟨g, k, none⟩)) rfl (by intro w' hSw; (try dsimp only at hSw); (have a0 := hSw.c 0 _ rfl); (rw [Nat.add_zero, Nat.mul_one] at a0); (have b0 := hSw.c' 0 _ rfl); (rw [Nat.add_zero, Nat.mul_one] at b0); go_simp) ?_
   refine tcH (i := 3) (v := .agg #[d]) rfl (by intro w' hSw; (try dsimp only at hSw); (have a0 := hSw.c 0 _ rfl); (rw [Nat.add_zero, Nat.mul_one] at a0); (have b0 := hSw.c' 0 _ rfl); (rw [Nat.add_zero, Nat.mul_one] at b0); go_simp) ?_
   refine tcH (i := 4) (v := .slice (some ⟨g', 0, none⟩) n c') rfl (by intro w' hSw; (try dsimp only at hSw); (have a0 := hSw.c 0 _ rfl); (rw [Nat.add_zero, Nat.mul_one] at a0); (have b0 := hSw.c' 0 _ rfl); (rw [Nat.add_zero, Nat.mul_one] at b0); go_simp) ?_
   refine tcH (i := 5) (v := .int .i64 (k : Int)) rfl (by intro w' hSw; (try dsimp only at hSw); (have a0 := hSw.c 0 _ rfl); (rw [Nat.add_zero, Nat.mul_one] at a0); (have b0 := hSw.c' 0 _ rfl); (rw [Nat.add_zero, Nat.mul_one] at b0); go_simp) ?_
   refine tcH (i := 6) (v := .pointer (some ⟨g', k, none⟩)) rfl (by intro w' hSw; (try dsimp only at hSw); (have a0 := hSw.c 0 _ rfl); (rw [Nat.add_zero, Nat.mul_one] at a0); (have b0 := hSw.c' 0 _ rfl); (rw [Nat.add_zero, Nat.mul_one] at b0); go_simp) ?_
   refine tcH (i := 7) (v := .agg #[d']) rfl (by intro w' hSw; (try dsimp only at hSw); (have a0 := hSw.c 0 _ rfl); (rw [Nat.add_zero, Nat.mul_one] at a0); (have b0 := hSw.c' 0 _ rfl); (rw [Nat.add_zero, Nat.mul_one] at b0); go_simp) ?_
   (try simp only [Act.put]); (try simp only [zPa]); (try simp only [zPb, zPc])
   refine wpAnyH_ready (rs := [8]) (by kernel_rfl) (by simp) ?_
   refine (AllReadyH.cons rfl (fun K hK => ?_) AllReadyH.nil)
   ·rw [if_pos (by kernel_rfl)]
    (try simp only [zGa]); (try simp only [zGb]); (try simp only [zGc])
    go_simp
    with_reducible refine (eq_rg f d d' b b' _ hS.r hS.r').mono ?_
    rintro e W' ⟨rfl, hb⟩
    dsimp only
    refine hK.out _ _ (hS.call hb) (fun hS => ?_)
    clear hK
    (try simp only [Act.put]); (try simp only [zPa]); (try simp only [zPb, zPc])
    refine tcH (i := 9) (v := .bool false) rfl (by intro w' hSw; (try dsimp only at hSw); (have a0 := hSw.c 0 _ rfl); (rw [Nat.add_zero, Nat.mul_one] at a0); (have b0 := hSw.c' 0 _ rfl); (rw [Nat.add_zero, Nat.mul_one] at b0); go_simp) ?_
    refine wpAnyH_done (by kernel_rfl) ?_ _
    go_wp2_with fail
    go_roundw
    case rel => exact ⟨k + 1, by omega, by go_num, Lib.hid hS.bw⟩
    case measure => simp [intOf]; omega
  ·obtain rfl : k = n := by omega
   go_wp2_with fail
   go_ret
   exact ⟨rfl, HB.out⟩
end Go.Proofs.YtnndifemkichmaaGreat
namespace Go.Proofs.YtnndifemkichmaaGreat
open Go.RowKit
set_option maxHeartbeats 8000000 in
set_option maxRecDepth 10000 in
theorem markIs (B : Nat) (L : List Im) (v : Value) (bs : List Nat) (k0 : Nat) (w : World) (hm : k0 + cntIs L ≤ 1000000000) (ho : repIms.Own B w L [v] bs) :
  Calls Tryz.prog 97 #[v, .int .i64 k0] w fun e w' => e = .returned (.int .i64 ((k0 + cntIs L : Nat) : Int)) ∧ repIms.R w' (mkIs k0 L) [v] bs ∧ Chg w w' bs := by
 rcases SlU.of_rep ho.r with ⟨rfl, rfl, rfl⟩ | ⟨g, c, xs0, bss, rfl, hU0, rfl⟩
 ·have HR := Lib.hid ho.r
  clear ho
  have hz : cntIs [] = 0 := rfl
  have Hz := Lib.hid hz
  clear hz hm
  go_enter Tryz.func97, Tryz.ntmps97
  go_wp2_with fail
  go_loopw [1, 5] (fun s1 s5 wr => s1 = .int .i64 k0 ∧ s5 = .int .i64 0 ∧ wr = w) (fun _ _ _ => 0)
  case atStart => exact ⟨rfl, rfl, rfl⟩
  case round =>
   obtain ⟨rfl, rfl, rfl⟩ := hrel
   go_wp2_with fail
   go_ret
   exact ⟨ret_int (by rw [Hz.out, Nat.add_zero]), HR.out, Chg.refl _ _⟩
 obtain ⟨n1, n2, _, _⟩ := hU0.nodup ho
 obtain ⟨n, hn⟩ : ∃ n, n = L.length := ⟨_, rfl⟩
 have hmL : L.length ≤ 9223372036854775807 := by have := (form_lIs ho.r).2; unfold maxLen at this; omega
 rw [← hn] at hU0 hmL ⊢
 have Hn := Lib.hid hn
 have Hm := Lib.hid hm
 have HN := Lib.hid (And.intro n1 n2)
 have HU0 := Lib.hid hU0
 clear ho hn hm n1 n2 hU0
 go_enter Tryz.func97, Tryz.ntmps97
 go_wp2_with fail
 go_loopw [1, 5] (fun s1 s5 wr => ∃ (k m : Nat) (xs : List (List Value)), k ≤ n ∧ s5 = .int .i64 k ∧ s1 = .int .i64 (m : Int) ∧ Hid (m = k0 + cntIs (L.take k)) ∧ SlU repIm 70 3 wr (mixG (mkIs k0 L) L k) g c n xs bss ∧ Hid (Chg w wr (g :: bss.flatten))) (fun _ s5 _ => n - (intOf s5).toNat)
 case atStart => exact ⟨0, k0, xs0, Nat.zero_le _, rfl, rfl, Lib.hid rfl, by rw [mix_zero]; exact HU0.out, Lib.hid (Chg.refl _ _)⟩
 case round =>
  obtain ⟨k, m, xs, hk, rfl, rfl, HM, hU, HCh⟩ := hrel
  by_cases hlt : k < n
  ·obtain ⟨f0, x, b, hf0, hx, hb, hxl, hR, hC⟩ := hU.at_ hlt
   obtain ⟨f, hf⟩ : ∃ f, L[k]? = some f := ⟨_, List.getElem?_eq_getElem (by rw [← Hn.out]; exact hlt)⟩
   obtain rfl : f0 = f := Option.some.inj (hf0.symm.trans (mix_get (mkIs_length k0 L) hf))
   have h1 := cntIs_take hf
   have hmx : m + 2 + f0.d.length ≤ 1000000000 := by
    have h2 := HM.out
    have h3 := cntIs_le L (k + 1)
    have h4 := Hm.out
    omega
   obtain ⟨d, rfl, hd⟩ := hR
   have hd2 := hd
   obtain ⟨d', e1, how, e2⟩ := hd2
   obtain rfl : d = d' := by simpa using e1
   obtain ⟨Ad, cd, hdd⟩ := (ints_form hd).1
   have hkx : k < xs.length := (List.getElem?_eq_some_iff.1 hx).1
   have hS0 := SetK.zero hU hx
   have hgd : ∀ q ∈ d.ownBlock.toList, q ≠ g := fun q hq e => HN.out.1 (by rw [← e]; exact flat_mem hb (by rw [e2]; exact hq))
   have k0' : (0 : Int) ≤ (k : Int) := by omega
   have k1 : (k : Int) < (n : Int) := by omega
   have m0 : (0 : Int) ≤ (m : Int) := by omega
   have m1 : (m : Int) ≤ 1000000000 := by omega
   have y0 := hC 0 _ rfl
   rw [Nat.add_zero] at y0
   have z0 := hU.frozen (k * 3)
   have y1 := hC 1 _ rfl
   have z1 := hU.frozen (k * 3 + 1)
   have y2 := hC 2 _ rfl
   have z2 := hU.frozen (k * 3 + 2)
   clear hf0
   have HX := Lib.hid hx
   have HBb := Lib.hid hb
   have HUk := Lib.hid hU
   have HS0 := Lib.hid hS0
   have Hf := Lib.hid hf
   have How := Lib.hid how
   have He2 := Lib.hid e2
   have Hgd := Lib.hid hgd
   have H1 := Lib.hid h1
   clear hx hb hU hS0 hf how e1 e2 hgd hd h1 hC hxl
   subst hdd
   go_wp2_with fail
   obtain ⟨WS, hWS⟩ : ∃ W, W = ((wr.setCell ⟨g, k * 3, none⟩ (.int .i64 ((m : Int)))).setCell ⟨g, k * 3 + 1, none⟩ (.int .i64 ((m : Int) + 1))) := ⟨_, rfl⟩
   rw [← hWS]
   have hS1 := HS0.out.put hkx 0 (by omega) (.int .i64 ((m : Int))) rfl
   have hS2 := hS1.put hkx 1 (by omega) (.int .i64 ((m : Int) + 1)) rfl
   have hSN : SetK 70 3 wr ((wr.setCell ⟨g, k * 3, none⟩ (.int .i64 ((m : Int)))).setCell ⟨g, k * 3 + 1, none⟩ (.int .i64 ((m : Int) + 1))) g c n k xs [.int .i64 ((m : Int)), .int .i64 ((m : Int) + 1), .slice Ad f0.d.length cd] := hS2
   rw [← hWS] at hSN
   have p1 : (m : Int) + 1 = ((m + 1 : Nat) : Int) := by push_cast; omega
   have p2 : (m : Int) + 1 + 1 = ((m + 2 : Nat) : Int) := by push_cast; omega
   have hcells : [Value.int .i64 ((m : Int)), Value.int .i64 ((m : Int) + 1), Value.slice Ad f0.d.length cd] = imCells (mkImK m f0) (.slice Ad f0.d.length cd) := by rw [p1]; rfl
   rw [hcells] at hSN
   have hch := Chg.of_grown hSN.gr
   have hown := own_chgN How.out hch (fun b hb e => Hgd.out b hb (by simpa using e))
   have HSN := Lib.hid hSN
   have HCG := Lib.hid hch
   have HOWN := Lib.hid hown
   clear hSN hch hown hWS hcells hS1 hS2
   clear y0 z0 y1 z1 y2 z2
   rw [p2]
   refine (markIS 0 _ _ f0.d (m + 2) _ hmx HOWN.out).mono ?_
   rintro e w1 ⟨rfl, hmk, hgr⟩
   have hch2 := Chg.of_grown hgr
   have hb2 := He2.out
   have hfin : SlU repIm 70 3 w1 (mixG (mkIs k0 L) L (k + 1)) g c n (xs.set k (imCells (mkImK m f0) (.slice Ad f0.d.length cd))) bss ∧ Chg w w1 (g :: bss.flatten) := by
    have hm2 := HM.out
    have ow' := own_chgN HSN.out.ow hch2 (fun q hq e => Hgd.out q e (by simpa [Value.ownBlock] using hq))
    have hR' : repIm.R w1 (mkImK m f0) (imCells (mkImK m f0) (.slice Ad f0.d.length cd)) b := ⟨_, rfl, _, rfl, by
     have h := own_rebase hmk (C := 0) fun _ _ => Nat.zero_le _
     rwa [show (mkImK m f0).d.length = f0.d.length from marksI_length _ _], hb2⟩
    have hU2 := SlU.upd HUk.out hlt ow' HSN.out.ls hR' (fun j dd hj hdd q hq => by
     have hqf := flat_mem hdd hq
     have h1 : q ≠ g := fun e => HN.out.1 (e ▸ hqf)
     have h2 : q ∉ (Value.slice Ad f0.d.length cd).ownBlock.toList := fun e => rows_nodup HN.out.2 hdd HBb.out hj q hq (by rw [hb2]; exact e)
     have hlt2 := rowsR_ex HUk.out.rr q hqf
     rw [hch2.block q (Nat.lt_of_lt_of_le hlt2 HCG.out.size) h2]
     exact HCG.out.block q hlt2 (fun e => h1 (by simpa using e)))
    rw [set_same HBb.out, mix_set (mkIs_length k0 L) (by have h := mkIs_get k0 Hf.out; rwa [← hm2] at h)] at hU2
    exact ⟨hU2, (HCh.out.trans (HCG.out.mono fun q hq => by rw [show q = g by simpa using hq]; simp)).trans (hch2.mono fun q hq => List.mem_cons.2 (.inr (flat_mem HBb.out (by rw [hb2]; exact hq))))⟩
   have HF := Lib.hid hfin
   have HM2 : Hid (m + 2 + f0.d.length = k0 + cntIs (L.take (k + 1))) := Lib.hid (by have := HM.out; have := H1.out; omega)
   clear hfin hmk hgr hch2 hb2 p1 p2
   go_wp2_with fail
   go_roundw
   case rel => exact ⟨k + 1, m + 2 + f0.d.length, _, by omega, by go_num, rfl, HM2, HF.out.1, Lib.hid HF.out.2⟩
   case measure => simp [intOf]; omega
  ·obtain rfl : k = n := by omega
   have he : m = k0 + cntIs L := by have := HM.out; rwa [List.take_of_length_le (by rw [← Hn.out]; exact Nat.le_refl _)] at this
   have HE := Lib.hid he
   have hU2 := hU
   rw [show mixG (mkIs k0 L) L k = mkIs k0 L from by rw [Hn.out]; exact mix_all (mkIs_length k0 L)] at hU2
   have HU2 := Lib.hid hU2
   clear he hU hU2
   go_wp2_with fail
   go_ret
   refine ⟨ret_int (by rw [HE.out]), ?_, HCh.out⟩
   have h := HU2.out.rep
   exact h
set_option maxHeartbeats 8000000 in
set_option maxRecDepth 10000 in
theorem markGs (B : Nat) (L : List (List Rc)) (v : Value) (bs : List Nat) (k0 : Nat) (w : World) (hm : k0 + cntGs L ≤ 1000000000) (ho : repRgs.Own B w L [v] bs) :
  Calls Tryz.prog 98 #[v, .int .i64 k0] w fun e w' => e = .returned (.int .i64 ((k0 + cntGs L : Nat) : Int)) ∧ repRgs.R w' (mkGs k0 L) [v] bs ∧ Chg w w' bs := by
 rcases SlU.of_rep ho.r with ⟨rfl, rfl, rfl⟩ | ⟨g, c, xs0, bss, rfl, hU0, rfl⟩
 ·have HR := Lib.hid ho.r
  clear ho
  have hz : cntGs [] = 0 := rfl
  have Hz := Lib.hid hz
  clear hz hm
  go_enter Tryz.func98, Tryz.ntmps98
  go_wp2_with fail
  go_loopw [1, 5] (fun s1 s5 wr => s1 = .int .i64 k0 ∧ s5 = .int .i64 0 ∧ wr = w) (fun _ _ _ => 0)
  case atStart => exact ⟨rfl, rfl, rfl⟩
  case round =>
   obtain ⟨rfl, rfl, rfl⟩ := hrel
   go_wp2_with fail
   go_ret
   exact ⟨ret_int (by rw [Hz.out, Nat.add_zero]), HR.out, Chg.refl _ _⟩
 obtain ⟨n1, n2, _, _⟩ := hU0.nodup ho
 obtain ⟨n, hn⟩ : ∃ n, n = L.length := ⟨_, rfl⟩
 have hmL : L.length ≤ 9223372036854775807 := by have := (form_lGs ho.r).2; unfold maxLen at this; omega
 rw [← hn] at hU0 hmL ⊢
 have Hn := Lib.hid hn
 have Hm := Lib.hid hm
 have HN := Lib.hid (And.intro n1 n2)
 have HU0 := Lib.hid hU0
 clear ho hn hm n1 n2 hU0
 go_enter Tryz.func98, Tryz.ntmps98
 go_wp2_with fail
 go_loopw [1, 5] (fun s1 s5 wr => ∃ (k m : Nat), k ≤ n ∧ s5 = .int .i64 k ∧ s1 = .int .i64 (m : Int) ∧ Hid (m = k0 + cntGs (L.take k)) ∧ SlU repRg 55 1 wr (mixG (mkGs k0 L) L k) g c n xs0 bss ∧ Hid (Chg w wr (g :: bss.flatten))) (fun _ s5 _ => n - (intOf s5).toNat)
 case atStart => exact ⟨0, k0, Nat.zero_le _, rfl, rfl, Lib.hid rfl, by rw [mix_zero]; exact HU0.out, Lib.hid (Chg.refl _ _)⟩
 case round =>
  obtain ⟨k, m, hk, rfl, rfl, HM, hU, HCh⟩ := hrel
  by_cases hlt : k < n
  ·obtain ⟨f0, x, b, hf0, hx, hb, hxl, hR, hC⟩ := hU.at_ hlt
   obtain ⟨f, hf⟩ : ∃ f, L[k]? = some f := ⟨_, List.getElem?_eq_getElem (by rw [← Hn.out]; exact hlt)⟩
   obtain rfl : f0 = f := Option.some.inj (hf0.symm.trans (mix_get (mkGs_length k0 L) hf))
   have h1 := cntGs_take hf
   have hmx : m + 4 * f0.length ≤ 1000000000 := by
    have h2 := HM.out
    have h3 := cntGs_le L (k + 1)
    have h4 := Hm.out
    omega
   have hR2 := hR
   obtain ⟨d, rfl, how, e2⟩ := hR2
   obtain ⟨Ad, cd, hdd⟩ := (RdR.of_own how).form
   subst hdd
   have hkx : k < xs0.length := (List.getElem?_eq_some_iff.1 hx).1
   have hgd : ∀ q ∈ (Value.slice Ad f0.length cd).ownBlock.toList, q ≠ g := fun q hq e => HN.out.1 (by rw [← e]; exact flat_mem hb (by rw [e2]; exact hq))
   have k0' : (0 : Int) ≤ (k : Int) := by omega
   have k1 : (k : Int) < (n : Int) := by omega
   have m0 : (0 : Int) ≤ (m : Int) := by omega
   have m1 : (m : Int) ≤ 1000000000 := by omega
   have y0 := hC 0 _ rfl
   rw [Nat.add_zero, Nat.mul_one] at y0
   have HX := Lib.hid hx
   have HBb := Lib.hid hb
   have HUk := Lib.hid hU
   have Hf := Lib.hid hf
   have How := Lib.hid how
   have He2 := Lib.hid e2
   have Hgd := Lib.hid hgd
   have H1 := Lib.hid h1
   clear hf0 hx hb hU hf how e2 hgd h1 hC hxl hR
   go_wp2_with fail
   refine (markRS 0 _ _ f0 m _ (by omega) How.out).mono ?_
   rintro e w1 ⟨rfl, hmk, hgr⟩
   have hch2 := Chg.of_grown hgr
   have hb2 := He2.out
   clear y0
   have hfin : SlU repRg 55 1 w1 (mixG (mkGs k0 L) L (k + 1)) g c n xs0 bss ∧ Chg w w1 (g :: bss.flatten) := by
    have hm2 := HM.out
    have ow' := own_chgN HUk.out.ow hch2 (fun q hq e => Hgd.out q e (by simpa [Value.ownBlock] using hq))
    have hR' : repRg.R w1 (mkRg m f0) [.slice Ad f0.length cd] b := ⟨_, rfl, by
     rw [show (mkRg m f0).length = f0.length from marksL_length _ _]; exact hmk, hb2⟩
    have hsx : xs0.set k [.slice Ad f0.length cd] = xs0 := by
     apply List.ext_getElem?
     intro j
     by_cases e : j = k
     ·subst e; rw [List.getElem?_set_self hkx, HX.out]
     ·rw [List.getElem?_set_ne (Ne.symm e)]
    have hU2 := SlU.upd (x' := [.slice Ad f0.length cd]) HUk.out hlt (by rw [hsx]; exact ow') (by rw [hsx]; exact HUk.out.ls) hR' (fun j dd hj hdd q hq => by
     have hqf := flat_mem hdd hq
     have h2 : q ∉ (Value.slice Ad f0.length cd).ownBlock.toList := fun e => rows_nodup HN.out.2 hdd HBb.out hj q hq (by rw [hb2]; exact e)
     exact hch2.block q (rowsR_ex HUk.out.rr q hqf) h2)
    rw [hsx, set_same HBb.out, mix_set (mkGs_length k0 L) (by have h := mkGs_get k0 Hf.out; rwa [← hm2] at h)] at hU2
    exact ⟨hU2, HCh.out.trans (hch2.mono fun q hq => List.mem_cons.2 (.inr (flat_mem HBb.out (by rw [hb2]; exact hq))))⟩
   have HF := Lib.hid hfin
   have HM2 : Hid (m + 4 * f0.length = k0 + cntGs (L.take (k + 1))) := Lib.hid (by have := HM.out; have := H1.out; omega)
   clear hfin hmk hgr hch2 hb2
   go_wp2_with fail
   go_roundw
   case rel => exact ⟨k + 1, m + 4 * f0.length, by omega, by go_num, rfl, HM2, HF.out.1, Lib.hid HF.out.2⟩
   case measure => simp [intOf]; omega
  ·obtain rfl : k = n := by omega
   have he : m = k0 + cntGs L := by have := HM.out; rwa [List.take_of_length_le (by rw [← Hn.out]; exact Nat.le_refl _)] at this
   have HE := Lib.hid he
   have hU2 := hU
   rw [show mixG (mkGs k0 L) L k = mkGs k0 L from by rw [Hn.out]; exact mix_all (mkGs_length k0 L)] at hU2
   have HU2 := Lib.hid hU2
   clear he hU hU2
   go_wp2_with fail
   go_ret
   refine ⟨ret_int (by rw [HE.out]), ?_, HCh.out⟩
   have h := HU2.out.rep
   exact h
end Go.Proofs.YtnndifemkichmaaGreat
namespace Go.Proofs.YtnndifemkichmaaGreat
open Go.RowKit
def fstI : List Int → Int → Int
 | [], _ => -1
 | a :: L, x => if a = x then 0 else if fstI L x < 0 then -1 else fstI L x + 1
theorem fstI_hit {L : List Int} {x : Int} {k : Nat} (hk : L[k]? = some x) (hn : ∀ j : Nat, j < k → L[j]? ≠ some x) : fstI L x = k := by
  induction L generalizing k with
  | nil => simp at hk
  | cons g L ih =>
    cases k with
    | zero =>
      obtain rfl : g = x := by simpa using hk
      simp [fstI]
    | succ k =>
      have h0 : g ≠ x := fun e => hn 0 (by omega) (by simp [e])
      have h1 := ih (by simpa using hk) fun j hj he => hn (j + 1) (by omega) (by simpa using he)
      unfold fstI
      rw [if_neg h0, h1, if_neg (by omega)]
      push_cast
      rfl
theorem fstI_miss {L : List Int} {x : Int} (hn : ∀ j : Nat, L[j]? ≠ some x) : fstI L x = -1 := by
  induction L with
  | nil => rfl
  | cons g L ih =>
    unfold fstI
    rw [if_neg (fun e => hn 0 (by simp [e])), ih fun j he => hn (j + 1) (by simpa using he), if_pos (by omega)]
theorem fstI_is (L : List Int) (x : Int) : (fstI L x = -1 ∧ ∀ j : Nat, L[j]? ≠ some x) ∨ ∃ k : Nat, fstI L x = k ∧ L[k]? = some x ∧ ∀ j : Nat, j < k → L[j]? ≠ some x := by
  induction L with
  | nil => exact .inl ⟨rfl, fun j h => by simp at h⟩
  | cons g L ih =>
    by_cases hg : g = x
    · exact .inr ⟨0, by simp [fstI, hg], by simp [hg], fun j hj => by omega⟩
    · rcases ih with ⟨h1, h2⟩ | ⟨k, h1, h2, h4⟩
      · refine .inl ⟨by unfold fstI; rw [if_neg hg, h1, if_pos (by omega)], fun j he => ?_⟩
        cases j with
        | zero => exact hg (by simpa using he)
        | succ j => exact h2 j (by simpa using he)
      · refine .inr ⟨k + 1, by unfold fstI; rw [if_neg hg, h1, if_neg (by omega)]; push_cast; rfl, by simpa using h2, fun j hj he => ?_⟩
        cases j with
        | zero => exact hg (by simpa using he)
        | succ j => exact h4 j (by omega) (by simpa using he)
def bufAt (W H : Int) (f : Im) : Prop := f.w = W ∧ f.h = H ∧ imOk f.w f.h f.d
def bufP (W H : Int) (L : List Im) : Prop := (1 ≤ L.length ∧ L.length ≤ 3) ∧ ∀ (k : Nat) (f : Im), L[k]? = some f → bufAt W H f
def dmsP (L : List (List Rc)) : Prop := L.length ≤ 3 ∧ ∀ (k : Nat) (r : List Rc), L[k]? = some r → okL r = true
def grA (n : Nat) : Int := if (n : Int) + 1 < 3 then (n : Int) + 1 else 3
def ageAt (A : List Int) (m : Int) (k : Nat) (x : Int) : Prop := (0 ≤ x ∧ x ≤ m) ∧ (x = 0 ∨ ∀ j : Nat, j < k → A[j]? ≠ some x)
def agesP (A : List Int) (m : Int) : Prop := ∀ (k : Nat) (x : Int), A[k]? = some x → ageAt A m k x
noncomputable def bufB (W H : Int) (L : List Im) : Bool := @decide (bufP W H L) (Classical.propDecidable _)
theorem bufB_yes {W H : Int} {L : List Im} (h : bufP W H L) : bufB W H L = true := by unfold bufB; simp [h]
theorem bufB_no {W H : Int} {L : List Im} (h : ¬ bufP W H L) : bufB W H L = false := by unfold bufB; simp [h]
noncomputable def dmsB (L : List (List Rc)) : Bool := @decide (dmsP L) (Classical.propDecidable _)
theorem dmsB_yes {L : List (List Rc)} (h : dmsP L) : dmsB L = true := by unfold dmsB; simp [h]
theorem dmsB_no {L : List (List Rc)} (h : ¬ dmsP L) : dmsB L = false := by unfold dmsB; simp [h]
noncomputable def agesB (A : List Int) (m : Int) : Bool := @decide (agesP A m) (Classical.propDecidable _)
theorem agesB_yes {A : List Int} {m : Int} (h : agesP A m) : agesB A m = true := by unfold agesB; simp [h]
theorem agesB_no {A : List Int} {m : Int} (h : ¬ agesP A m) : agesB A m = false := by unfold agesB; simp [h]
def cnOk (c : Ch) : Prop := snOk c.s ∧ bufP c.s.w c.s.h c.ims ∧ dmsP c.rgs ∧ c.ages.length = c.ims.length ∧ agesP c.ages (grA c.rgs.length)
noncomputable def cnB (c : Ch) : Bool := @decide (cnOk c) (Classical.propDecidable _)
theorem cnB_yes {c : Ch} (h : cnOk c) : cnB c = true := by unfold cnB; simp [h]
theorem cnB_no {c : Ch} (h : ¬ cnOk c) : cnB c = false := by unfold cnB; simp [h]
theorem age_first {A : List Int} {m : Int} {k : Nat} {x : Int} (hx : A[k]? = some x) : ageAt A m k x ↔ (0 ≤ x ∧ x ≤ m) ∧ (x = 0 ∨ fstI A x = k) := by
 unfold ageAt
 constructor
 ·rintro ⟨h1, h2⟩
  refine ⟨h1, ?_⟩
  rcases h2 with h2 | h2
  ·exact .inl h2
  ·exact .inr (fstI_hit hx h2)
 ·rintro ⟨h1, h2⟩
  refine ⟨h1, ?_⟩
  rcases h2 with h2 | h2
  ·exact .inl h2
  ·rcases fstI_is A x with ⟨h3, _⟩ | ⟨q, h3, h4, h5⟩
   ·omega
   ·obtain rfl : q = k := by omega
    exact .inr h5
end Go.Proofs.YtnndifemkichmaaGreat
namespace Go.Proofs.YtnndifemkichmaaGreat
open Go.RowKit
def RgU (Q : List Rc) (w : World) (e : Ending) (w' : World) : Prop := ∃ u bs, e = .returned (.agg #[u]) ∧ repRg.Own w.heap.size w' Q [u] bs ∧ Below w.heap.size w w'
theorem rgU {Q : List Rc} {w : World} {e : Ending} {w' : World} (h : RgQ Q w e w') : RgU Q w e w' := by
 obtain ⟨v, he, ho, hb⟩ := h
 exact ⟨v, _, he, rg_own ho, hb⟩
end Go.Proofs.YtnndifemkichmaaGreat
