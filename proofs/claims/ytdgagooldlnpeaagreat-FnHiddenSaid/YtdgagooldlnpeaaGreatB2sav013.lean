/- Texts of mine in one file: SfP, SfQ, OcM, PlW, OcI, OcJ, OcK. No statement is proved here. -/
import Derived.Test.YtdgagooldlnpeaaGreatMA
import Derived.Test.YtdgagooldlnpeaaGreatMB
import Derived.Test.YtdgagooldlnpeaaGreatMBv013
import Derived.Test.YtdgagooldlnpeaaGreatMC
import Derived.Test.YtdgagooldlnpeaaGreatSfP
import Derived.Test.YtdgagooldlnpeaaGreatSfR
import Derived.Test.YtdgagooldlnpeaaGreatSfO
import Derived.Test.YtdgagooldlnpeaaGreatB0na
import Derived.Test.YtdgagooldlnpeaaGreatMAv013
import Derived.Test.YtdgagooldlnpeaaGreatB2sa
import Derived.Test.YtdgagooldlnpeaaGreatCombIv013
import Derived.Test.YtdgagooldlnpeaaGreatB1sav013
import Derived.Test.YtdgagooldlnpeaaGreatSnS
import Derived.Test.YtdgagooldlnpeaaGreatB1nav013
import Derived.Test.YtdgagooldlnpeaaGreatProg
import Derived.WalkKit
import Derived.ProofKit
import Derived.OpenShut
import Derived.WalkLawsBesides
import Derived.WalkSpells
import Derived.ShutString
import Derived.ChangeOld
import Derived.Below
import Derived.Lib.Hide
import Derived.BigQuiet
import Derived.Deep.QuietTactic
import Derived.Maps.AppendAt
import Derived.Deep.OwnRows
import Derived.Handy
import Derived.Deep.Draws
import Derived.OwnWalk
import Derived.Deep.AppendLies
import Derived.Deep.LoopGhost
import Derived.Deep.Onto
import Derived.Deep.MidRow
import Derived.Deep.WholeRow
import Derived.Laws.BitsAllLaws
import Derived.Lib.QuoteBits
import Derived.Deep.RegionHeld3
import Derived.Deep.DeepCutAuto
import Derived.Test.YtdgagooldlnpeaaGreatShelf
import Derived.Laws.CopyOwn
import Derived.Deep.RegionLaw
import Derived.Great.BuildSlice
import Derived.Laws.AppendOwn
import Derived.ChangeKeysEq
import Derived.Deep.RegionWith
import Derived.Shelf.RegionOpenPlain
import Derived.Lib.SliceRun
import Derived.Deep.DeepAppendRoom
namespace Go.Proofs.YtdgagooldlnpeaaGreat
open Go.RowKit
theorem sfPic_len (f : Sf) : (sfPic f).d.length ≤ 100000000 := by
 by_cases h : sfOk f
 ·rw [sfPic_yes h]; show ((sfScl f).d.map _).length ≤ _; rw [List.length_map]; have := rs_len sclN (orIm f.bw f.bh f.data f.orient).w (orIm f.bw f.bh f.data f.orient).h (orIm f.bw f.bh f.data f.orient).d (sfSize f).1 (sfSize f).2; unfold sfScl; omega
 ·rw [sfPic_no h]; show ([] : List Int).length ≤ _; simp
end Go.Proofs.YtdgagooldlnpeaaGreat
namespace Go.Proofs.YtdgagooldlnpeaaGreat
open Go.RowKit
def allOpq (L : List Int) : Prop := ∀ (k : Nat) (p : Int), L[k]? = some p → chan p 0 = 255
noncomputable def sfOpq (f : Sf) : Bool := @decide (sfOk f ∧ allOpq (sfPic f).d) (Classical.propDecidable _)
theorem sfOpq_yes {f : Sf} (h : sfOk f) (ha : allOpq (sfPic f).d) : sfOpq f = true := by unfold sfOpq; simp [h, ha]
theorem sfOpq_no {f : Sf} (h : ¬ (sfOk f ∧ allOpq (sfPic f).d)) : sfOpq f = false := by unfold sfOpq; simp only [decide_eq_false_iff_not]; exact h
def IsoAns (f : Sf) (w : World) (e : Ending) (w' : World) : Prop := e = .returned (.bool (sfOpq f)) ∧ Below w.heap.size w w'
theorem field_im (a b u : Value) (W : World) : (Instr.field 55 (.agg #[a, b, u]) 2).run Tryz.prog W = .ok u W := by kernel_rfl
set_option maxHeartbeats 2000000 in
set_option maxRecDepth 10000 in
theorem isoI (f : Sf) (d : Value) (w : World) (hv : RdI w d f.data) : Calls Tryz.prog 206 #[.agg #[.int .i64 f.id, .int .i64 f.x, .int .i64 f.y, .int .i64 f.w, .int .i64 f.h, .int .i64 f.alpha, .int .i64 f.orient, .bool f.vis, .int .i64 f.bw, .int .i64 f.bh, d]] w (IsoAns f w) := by
 obtain ⟨A, c, rfl⟩ := hv.form
 have hB := belI_box w (.cells #[.int .i64 f.id, .int .i64 f.x, .int .i64 f.y, .int .i64 f.w, .int .i64 f.h, .int .i64 f.alpha, .int .i64 f.orient, .bool f.vis, .int .i64 f.bw, .int .i64 f.bh, .slice A f.data.length c] 89)
 have hX := BkAt.new w 89 #[.int .i64 f.id, .int .i64 f.x, .int .i64 f.y, .int .i64 f.w, .int .i64 f.h, .int .i64 f.alpha, .int .i64 f.orient, .bool f.vis, .int .i64 f.bw, .int .i64 f.bh, .slice A f.data.length c]
 have HV := Lib.hid (hv.call hB)
 have HC := Lib.hid (sfI f _ _ HV.out)
 unfold SfOkAns at HC
 clear hv
 by_cases hs : sfOk f
 ·rw [sfB_yes hs] at HC
  have HP := fun (W : World) (h : RdI W (.slice A f.data.length c) f.data) => picI f _ W h
  unfold PicAns AnsIm at HP
  obtain ⟨X, Y, L, hL⟩ : ∃ X Y L, sfPic f = ⟨X, Y, L⟩ := ⟨_, _, _, rfl⟩
  have hy : allOpq L → sfOpq f = true := fun h => sfOpq_yes hs (by rw [hL]; exact h)
  have hno : ¬ allOpq L → sfOpq f = false := fun h => sfOpq_no fun e => h (by have := e.2; rwa [hL] at this)
  rw [hL] at HP
  dsimp only at HP
  have HP := Lib.hid HP
  have Hy := Lib.hid hy
  have Hno := Lib.hid hno
  obtain ⟨n, hn⟩ : ∃ n, n = L.length := ⟨_, rfl⟩
  have hn2 : n ≤ 100000000 := by have := sfPic_len f; rw [hL] at this; rw [hn]; exact this
  have Hn := Lib.hid hn
  clear hs hL hy hno hn
  have e0 := hX.cell 0 rfl
  have e1 := hX.cell 1 rfl
  have e2 := hX.cell 2 rfl
  have e3 := hX.cell 3 rfl
  have e4 := hX.cell 4 rfl
  have e5 := hX.cell 5 rfl
  have e6 := hX.cell 6 rfl
  have e7 := hX.cell 7 rfl
  have e8 := hX.cell 8 rfl
  have e9 := hX.cell 9 rfl
  have e10 := hX.cell 10 rfl
  go_enter Tryz.func206, Tryz.ntmps206
  go_wp2_with fail
  refine HC.out.mono ?_
  rintro e w1 ⟨rfl, hb⟩
  have HV := Lib.hid (HV.out.call hb)
  replace hX := hX.call hb
  replace hB := belI_call hB hb
  clear e0 e1 e2 e3 e4 e5 e6 e7 e8 e9 e10
  clear hb
  have e0 := hX.cell 0 rfl
  have e1 := hX.cell 1 rfl
  have e2 := hX.cell 2 rfl
  have e3 := hX.cell 3 rfl
  have e4 := hX.cell 4 rfl
  have e5 := hX.cell 5 rfl
  have e6 := hX.cell 6 rfl
  have e7 := hX.cell 7 rfl
  have e8 := hX.cell 8 rfl
  have e9 := hX.cell 9 rfl
  have e10 := hX.cell 10 rfl
  go_wp2_with fail
  refine (HP.out _ HV.out).mono ?_
  rintro e w2 ⟨u, rfl, ho, hb⟩
  replace hB := belI_call hB hb
  have hrd := RdI.of_own ho
  clear e0 e1 e2 e3 e4 e5 e6 e7 e8 e9 e10
  obtain ⟨A2, c2, hu⟩ := hrd.form
  subst hu
  rw [← Hn.out] at hrd ⊢
  have HR := Lib.hid hrd
  have HB := Lib.hid hB
  have hfd := fun (a b u : Value) W => field_im a b u W
  clear hX hB hb ho hrd
  go_wp2_with fail
  clear hfd
  go_loopg [4, 12] n (fun gg _ s12 wr => ∃ k : Nat, k ≤ n ∧ n - k ≤ gg ∧ s12 = .int .i64 k ∧ Hid (∀ (j : Nat) (p : Int), j < k → L[j]? = some p → chan p 0 = 255) ∧ Hid (Below w2.heap.size w2 wr))
  case atStart => exact ⟨0, Nat.zero_le _, by omega, rfl, Lib.hid (fun j x h => by omega), Lib.hid (Below.refl _ _)⟩
  case round =>
   obtain ⟨k, hk, hgg, rfl, Hall, HW⟩ := hrel
   by_cases hlt : k < n
   ·obtain ⟨g, x, rfl, hx, hc⟩ := (HR.out.call HW.out).at_ (k := k) (by rw [← Hn.out]; exact hlt)
    have Hx := Lib.hid hx
    have HK := fun W => opqI x W
    rw [opqB_ch] at HK
    have k0 : (0 : Int) ≤ (k : Int) := by omega
    have k1 : (k : Int) < (n : Int) := by omega
    clear hx
    by_cases hch : chan x 0 = 255
    ·rw [hch] at HK
     have Hch := Lib.hid hch
     have HK := Lib.hid HK
     clear hch
     go_wp2_with fail
     refine (HK.out _).mono ?_
     rintro e w3 ⟨rfl, hb⟩
     have HW := Lib.hid (belI_call HW.out hb)
     clear hc hb
     go_wp2_with fail
     go_roundg (n - (k + 1))
     case measure => omega
     case rel =>
      refine ⟨k + 1, by omega, by omega, by go_num, Lib.hid (fun j y hj hy => ?_), HW⟩
      by_cases e : j < k
      ·exact Hall.out j y e hy
      ·obtain rfl : j = k := by omega
       rw [Hx.out] at hy
       rw [← Option.some.inj hy]
       exact Hch.out
    ·rw [show (chan x 0 == 255) = false by simp [hch]] at HK
     have Hq := Lib.hid (Hno.out fun h => hch (h k x Hx.out))
     have HK := Lib.hid HK
     clear hch
     go_wp2_with fail
     refine (HK.out _).mono ?_
     rintro e w3 ⟨rfl, hb⟩
     have HW := Lib.hid (belI_call HW.out hb)
     clear hc hb
     go_wp2_with fail
     go_ret
     exact ⟨ret_bool Hq.out.symm, belI_call HB.out HW.out⟩
   ·obtain rfl : k = n := by omega
    have Hq := Lib.hid (Hy.out fun j p hj => Hall.out j p (by rw [Hn.out]; exact (List.getElem?_eq_some_iff.1 hj).1) hj)
    go_wp2_with fail
    go_ret
    exact ⟨ret_bool Hq.out.symm, belI_call HB.out HW.out⟩
 ·rw [sfB_no hs] at HC
  have Hq := Lib.hid (sfOpq_no (f := f) fun e => hs e.1)
  clear hs
  have e0 := hX.cell 0 rfl
  have e1 := hX.cell 1 rfl
  have e2 := hX.cell 2 rfl
  have e3 := hX.cell 3 rfl
  have e4 := hX.cell 4 rfl
  have e5 := hX.cell 5 rfl
  have e6 := hX.cell 6 rfl
  have e7 := hX.cell 7 rfl
  have e8 := hX.cell 8 rfl
  have e9 := hX.cell 9 rfl
  have e10 := hX.cell 10 rfl
  go_enter Tryz.func206, Tryz.ntmps206
  go_wp2_with fail
  refine HC.out.mono ?_
  rintro e w1 ⟨rfl, hb⟩
  replace hB := belI_call hB hb
  clear e0 e1 e2 e3 e4 e5 e6 e7 e8 e9 e10
  go_wp2_with fail
  go_ret
  exact ⟨ret_bool Hq.out.symm, hB⟩
end Go.Proofs.YtdgagooldlnpeaaGreat
namespace Go.Proofs.YtdgagooldlnpeaaGreat
open Go.RowKit
theorem ok_form (L : List Rc) : okL (canon (gridOf L)) = true := ok_canon _
noncomputable def ocP (W H : Int) (f : Sf) : List Rc := canon (gridOf [ocR W H f])
noncomputable def ocO (W H : Int) (fs : List Sf) : List Rc := (fs.filter sfOpq).map (ocR W H)
noncomputable def ocQ (W H : Int) (fs : List Sf) : List Rc := (fs.filter sfOpq).flatMap (ocP W H)
noncomputable def ocC (W H : Int) (fs : List Sf) : List Rc := canon (gridOf (ocO W H fs))
theorem ocQ_grid (W H : Int) (L : List Sf) (k : Nat) (hk : k < 256) : gridOf (L.flatMap (ocP W H)) k = gridOf (L.map (ocR W H)) k := by
 induction L with
 | nil => rfl
 | cons f L ih => rw [List.flatMap_cons, List.map_cons, gridOf_append, ih, show ocR W H f :: L.map (ocR W H) = [ocR W H f] ++ L.map (ocR W H) from rfl, gridOf_append]; unfold ocP; rw [gridOf_canon _ k hk]
theorem ocQ_C (W H : Int) (fs : List Sf) : canon (gridOf (ocQ W H fs)) = ocC W H fs := canon_congr fun k hk => ocQ_grid W H _ k hk
noncomputable def ocV (W H : Int) (f : Sf) (r : List Sf) : List Rc := joinL (fun p q => p && !q) (ocP W H f) (ocC W H r)
theorem ocP_ok (W H : Int) (f : Sf) : okL (ocP W H f) = true := ok_form _
theorem ocC_ok (W H : Int) (fs : List Sf) : okL (ocC W H fs) = true := ok_form _
theorem ocV_eq (W H : Int) (f : Sf) (r : List Sf) : ocV W H f r = canon (joinG (fun p q => p && !q) (gridOf (ocP W H f)) (gridOf (ocC W H r))) := joinL_yes ⟨ocP_ok W H f, ocC_ok W H r⟩
theorem ocC_in {W H : Nat} (wl : 1 ≤ W ∧ W ≤ 16) (hl : 1 ≤ H ∧ H ≤ 16) (fs : List Sf) (p q : Nat) (hp : p < 16) (hq : q < 16) : gridOf (ocC W H fs) (q * 16 + p) = true ↔ ∃ f ∈ fs, sfOpq f = true ∧ hasB (sfRect f) p q = true ∧ p < W ∧ q < H := by
  unfold ocC
  rw [gridOf_canon _ _ (by omega)]
  have h : ∀ L : List Sf, gridOf (L.map (ocR W H)) (q * 16 + p) = true ↔ ∃ f ∈ L, hasB (sfRect f) p q = true ∧ p < W ∧ q < H := fun L => by
    induction L with
    | nil => rw [List.map_nil, gridOf_nil]; simp
    | cons f L ih =>
      rw [List.map_cons, show ocR W H f :: L.map (ocR W H) = [ocR W H f] ++ L.map (ocR W H) from rfl, gridOf_append, Bool.or_eq_true, (ocR_in wl hl f).gridOf wl.2 hl.2 p q hp, ocR_has wl hl, ih]
      simp
  unfold ocO
  rw [h]
  simp only [List.mem_filter]
  constructor
  · rintro ⟨f, ⟨h1, h2⟩, h3⟩; exact ⟨f, h1, h2, h3⟩
  · rintro ⟨f, h1, h2, h3⟩; exact ⟨f, ⟨h1, h2⟩, h3⟩
theorem ocP_in {W H : Nat} (wl : 1 ≤ W ∧ W ≤ 16) (hl : 1 ≤ H ∧ H ≤ 16) (f : Sf) (p q : Nat) (hp : p < 16) (hq : q < 16) : gridOf (ocP W H f) (q * 16 + p) = true ↔ (hasB (sfRect f) p q = true ∧ p < W ∧ q < H) := by
 unfold ocP
 rw [gridOf_canon _ _ (by omega), (ocR_in wl hl f).gridOf wl.2 hl.2 p q hp, ocR_has wl hl]
theorem ocV_in {W H : Nat} (wl : 1 ≤ W ∧ W ≤ 16) (hl : 1 ≤ H ∧ H ≤ 16) (f : Sf) (fs : List Sf) (p q : Nat) (hp : p < 16) (hq : q < 16) : gridOf (ocV W H f fs) (q * 16 + p) = true ↔ ((hasB (sfRect f) p q = true ∧ p < W ∧ q < H) ∧ ¬ ∃ f ∈ fs, sfOpq f = true ∧ hasB (sfRect f) p q = true ∧ p < W ∧ q < H) := by
 rw [ocV_eq, gridOf_canon _ _ (by omega)]
 show (gridOf (ocP W H f) (q * 16 + p) && !gridOf (ocC W H fs) (q * 16 + p)) = true ↔ _
 rw [Bool.and_eq_true, ocP_in wl hl f p q hp hq, ← ocC_in wl hl fs p q hp hq]
 cases gridOf (ocC W H fs) (q * 16 + p) <;> simp
end Go.Proofs.YtdgagooldlnpeaaGreat
namespace Go.Proofs.YtdgagooldlnpeaaGreat
open Go.RowKit
theorem below_grown0 {w w' : World} (h : w.grownBy w' none) : Below w.heap.size w w' := ⟨h.os, h.tape, h.output, h.size, fun k hk => h.block k hk (by simp)⟩
theorem HalfP.len {B : Nat} {w : World} {M : List Pl} {A : Option Addr} {n c : Nat} {bs : List Nat} (h : HalfP B w M (.slice A n c) bs) : n = M.length := by
 obtain ⟨xs, bss, hr, hls, how, rfl⟩ := h.ex
 rcases how.2 with ⟨e, e2⟩ | ⟨g', cap, cur, e, _⟩
 ·injection e with _ e _; omega
 ·injection e with _ e _
theorem wpList_append_pl {ops : Array Oper} {rest : List Oper} {o : Oper} {a : Act} {w : World} {Q : Exit → Act → World → Prop} (hgd : o.guard = none) (s x : Operand)
  (ho : o.op = .call { callee := .builtin .append, args := #[s, x], argTypes := #[134, 134] })
  (B g n c : Nat) (M : List Pl) (bs : List Nat) (hs : a.eval s = .slice (some ⟨g, 0, none⟩) n c) (hown : HalfP B w M (.slice (some ⟨g, 0, none⟩) n c) bs) (hroom : n + 1 ≤ c) (g1 : Nat) (hx : a.eval x = .slice (some ⟨g1, 0, none⟩) 1 1)
  (f : Sf) (L : List Rc) (u d : Value) (bd : List Nat) (hg1 : BkAt w g1 137 #[u, .int .i64 f.id, .int .i64 f.x, .int .i64 f.y, .int .i64 f.w, .int .i64 f.h, .int .i64 f.alpha, .int .i64 f.orient, .bool f.vis, .int .i64 f.bw, .int .i64 f.bh, d]) (hu : w.ownsRow 0 113 4 u L.length (rcsCells L)) (hd : repInts.R w f.data [d] bd) (h1 : g ∉ u.ownBlock.toList) (h2 : g ∉ bd)
  (h : ∀ w', HalfP B w' (M ++ [(f, L)]) (.slice (some ⟨g, 0, none⟩) (n + 1) c) (bs ++ (u.ownBlock.toList ++ bd)) → w.grownBy w' (some g) → wpList Tryz.prog ops Q rest (a.put o.dst (.slice (some ⟨g, 0, none⟩) (n + 1) c)) w') : wpList Tryz.prog ops Q (o :: rest) a w := by
 obtain ⟨i0, hi, hz0, hz1, hby⟩ := info2_pl
 have hn := hown.len
 have hne := hown.ne
 obtain ⟨xs, bss, hr, hls, how, rfl⟩ := hown.ex
 rw [← hn] at how
 have hone : ∀ y ∈ u :: sfCells f d, y.oneCell' = true := fun y hy => by
  have := rowsPl_one (w := w) (L := [(f, L)]) (xs := [u :: sfCells f d]) (bss := [u.ownBlock.toList ++ bd]) ⟨⟨u, d, bd, rfl, hu, hd, rfl⟩, trivial⟩ y (by simpa using hy)
  exact this
 refine wpList_append_own_spare w hgd s x 134 ho B 137 i0 12 Tryz.underlying134 hi hz1 g n c xs.flatten hs how ⟨g1, 0, none⟩ 1 1 (u :: sfCells f d) hx rfl (World.news_of_block (cs := #[u, .int .i64 f.id, .int .i64 f.x, .int .i64 f.y, .int .i64 f.w, .int .i64 f.h, .int .i64 f.alpha, .int .i64 f.orient, .bool f.vis, .int .i64 f.bw, .int .i64 f.bh, d]) (fr := (0, 0)) hg1) hone hroom (fun w' q1 q2 => h w' ?_ q2)
 have hch := Chg.of_grown q2
 have hng : ∀ q ∈ bss.flatten, q ≠ g := fun q hq e => hne q hq (by rw [e]; simp [Value.ownBlock])
 refine ⟨⟨xs ++ [u :: sfCells f d], bss ++ [u.ownBlock.toList ++ bd], ?_, ?_, ?_, by simp⟩, ?_⟩
 ·exact rowsR_snoc (rowsR_keep hr fun b hb => hch.block b (rowsR_ex hr b hb) fun e => hng b hb (by simpa using e)) ⟨u, d, bd, rfl, own_chgN hu hch fun b hb e => h1 (by rw [← show b = g by simpa using e]; exact hb), Rep.chg hd hch fun b hb e => h2 (by rw [← show b = g by simpa using e]; exact hb), rfl⟩
 ·intro y hy
  rcases List.mem_append.1 hy with hy | hy
  ·exact hls y hy
  ·rw [List.mem_singleton.1 hy]; rfl
 ·rw [List.flatten_append, List.length_append, ← hn]
  simpa using q1
 ·intro b hb e
  obtain rfl : b = g := by simpa [Value.ownBlock] using e
  rcases List.mem_append.1 hb with hb | hb
  ·exact hng b hb rfl
  ·rcases List.mem_append.1 hb with hb | hb
   ·exact h1 hb
   ·exact h2 hb
noncomputable def plL (W H : Int) (fs : List Sf) : List Pl := fs.map fun f => (f, ocP W H f)
theorem plL_len (W H : Int) (fs : List Sf) : (plL W H fs).length = fs.length := List.length_map _
theorem plL_take (W H : Int) {fs : List Sf} {k : Nat} {f : Sf} (h : fs[k]? = some f) : plL W H (fs.take (k + 1)) = plL W H (fs.take k) ++ [(f, ocP W H f)] := by
 unfold plL
 rw [List.take_add_one, h, Option.toList_some, List.map_append]
 rfl
end Go.Proofs.YtdgagooldlnpeaaGreat
namespace Go.Proofs.YtdgagooldlnpeaaGreat
open Go.RowKit
theorem below_trans_box {w W : World} (h : Below w.heap.size w W) (o1 o2 : Obj) : Below w.heap.size w ((W.alloc o1).alloc o2) := belI_call (belI_call h (belI_box _ _)) (belI_box _ _)
def PlsAns (s : Sn) (bs : List Nat) (w : World) (e : Ending) (w' : World) : Prop :=
 ∃ g cs, e = .returned (.slice (some ⟨g, 0, none⟩) s.fs.length s.fs.length) ∧ HalfP w.heap.size w' (plL s.w s.h s.fs) (.slice (some ⟨g, 0, none⟩) s.fs.length s.fs.length) cs ∧ (∀ b ∈ cs, b ∈ bs ∨ w.heap.size ≤ b) ∧ w.heap.size ≤ g ∧ Below w.heap.size w w'
structure PlT (w : World) (s : Sn) (v : Value) (bs : List Nat) (g n c k : Nat) (V : World) : Prop where
 a : SnA w.heap.size s v bs V
 p : ∃ cs, HalfP (w.heap.size + 1) V (plL s.w s.h (s.fs.take k)) (.slice (some ⟨g, 0, none⟩) n c) cs ∧ ∀ b ∈ cs, b ∈ bs ∨ w.heap.size ≤ b
 bw : Below w.heap.size w V
theorem PlT.call {w : World} {s : Sn} {v : Value} {bs : List Nat} {g n c k : Nat} {V V' : World} (h : PlT w s v bs g n c k V) (hb : Below V.heap.size V V') : PlT w s v bs g n c k V' :=
 ⟨h.a.call hb, by obtain ⟨cs, h1, h2⟩ := h.p; exact ⟨cs, h1.call hb, h2⟩, belI_call h.bw hb⟩
theorem PlT.glt {w : World} {s : Sn} {v : Value} {bs : List Nat} {g n c k : Nat} {V : World} (h : PlT w s v bs g n c k V) : w.heap.size + 1 ≤ g ∧ g < V.heap.size := by
 obtain ⟨cs, h1, _⟩ := h.p
 obtain ⟨xs, bss, hr, hls, how, rfl⟩ := h1.ex
 exact own_ltB how g (by simp [Value.ownBlock])
theorem sn_own_grown {w W W' : World} {s : Sn} {v : Value} {bs : List Nat} {b g : Nat} (h : SnA b s v bs W) (hold : ∀ q ∈ bs, q < w.heap.size) (hb : b ≤ w.heap.size) (hg : w.heap.size < g) (hc : W.grownBy W' (some g)) : SnA b s v bs W' :=
 ⟨h.at_.grown hc (fun e => by have := Option.some.inj e; omega), Rep.chg h.r (Chg.of_grown hc) fun q hq e => by have h1 := hold q hq; have h0 : q = g := (by simpa using e); omega⟩
theorem below_grownG {w W W' : World} {g : Nat} (h : Below w.heap.size w W) (hc : W.grownBy W' (some g)) (hg : w.heap.size ≤ g) : Below w.heap.size w W' :=
 (Chg.of_grown hc).below h h.size (fun b hb => by have h0 : b = g := (by simpa using hb); omega)
theorem pl_d {w : World} {fs : List Sf} {A : Option Addr} {n c : Nat} {bs : List Nat} (h : repSfs.R w fs [.slice A n c] bs) {k : Nat} (hk : k < fs.length) : ∃ g f d bd, A = some ⟨g, 0, none⟩ ∧ fs[k]? = some f ∧ C11 w g (k * 11) f d ∧ repInts.R w f.data [d] bd ∧ ∀ b ∈ bd, b ∈ bs := by
 rcases SlU.of_rep h with ⟨_, rfl, _⟩ | ⟨g, c', xs, bss, he, hU, rfl⟩
 ·simp at hk
 ·injection he with e1 e2 e3
  subst e1
  obtain ⟨f, x, b, hf, hx, hb, hl, hR, hc⟩ := hU.at_ hk
  obtain ⟨d, rfl, hd⟩ := hR
  exact ⟨g, f, d, b, rfl, hf, c11_of hc, hd, fun q hq => List.mem_cons.2 (.inr (flat_mem hb hq))⟩
set_option maxHeartbeats 2000000 in
set_option maxRecDepth 10000 in
theorem plsI (s : Sn) (v : Value) (bs : List Nat) (w : World) (hN : s.fs.length ≤ 6) (h : repSfs.R w s.fs [v] bs) : Calls Tryz.prog 107 #[.agg #[.int .i64 s.w, .int .i64 s.h, .int .i64 s.back, v]] w (PlsAns s bs w) := by
 have hA := SnA.born h
 have hB := belI_box w (.cells #[.int .i64 s.w, .int .i64 s.h, .int .i64 s.back, v] 34)
 obtain ⟨i0, hi, hz0, hz1, hby⟩ := info2_pl
 obtain ⟨⟨A, c, rfl⟩, _⟩ := repSfs_form h
 have Hold : Hid (∀ q ∈ bs, q < w.heap.size) := Lib.hid fun q hq => repSfs.ex h q hq
 obtain ⟨N, hNe⟩ : ∃ N, N = s.fs.length := ⟨_, rfl⟩
 rw [← hNe] at hN hA hB ⊢
 have HN := Lib.hid hNe
 obtain ⟨d0, d1, d2, d3⟩ := hA.cells
 have hby2 : i0.bytes * N ≤ 1000 * 6 := Nat.mul_le_mul hby hN
 have HR := Lib.hid (fun (W : World) (f : Sf) (d : Value) (hd : RdI W d f.data) => rosI s (.slice A N c) ⟨_, _, _, rfl⟩ f d W hd)
 unfold RcAns at HR
 clear h hNe
 go_enter Tryz.func107, Tryz.ntmps107
 go_wp2_with (at_make; refine wpList_make_own _ rfl _ _ 134 rfl (w.heap.size + 1) 137 i0 _ 12 Tryz.underlying134 hi hz0 hz1 .i64 .i64 _ N rfl rfl rfl (by omega) (by unfold maxLen; omega) (by simp) ?_)
 intro w0 hown0 hgrow0
 have hb0 := below_grown0 hgrow0
 obtain ⟨g, hgw⟩ : ∃ g, g = w.heap.size + 1 := ⟨_, rfl⟩
 have hown1 : w0.ownsRow (w.heap.size + 1) 137 12 (.slice (some ⟨g, 0, none⟩) 0 N) 0 [] := by rw [hgw]; exact hown0
 rw [← hgw]
 have hT : PlT w s (.slice A N c) bs g 0 N 0 w0 := ⟨hA.call hb0, ⟨[], ⟨⟨[], [], trivial, by simp, hown1, rfl⟩, by simp⟩, by simp⟩, belI_call hB hb0⟩
 clear d0 d1 d2 d3 hA hB hb0 hown0 hown1 hgrow0
 obtain ⟨d0, d1, d2, d3⟩ := hT.a.cells
 have HT := Lib.hid hT
 clear hT hgw
 go_wp2_with fail
 clear d0 d1 d2 d3
 go_loopg [3, 14] N (fun gk s3 s14 wr => ∃ (k : Nat) (u3 : Value) (V : World), V = wr ∧ k ≤ N ∧ gk = N - k ∧ s3 = u3 ∧ Hid (u3 = .slice (some ⟨g, 0, none⟩) k N) ∧ s14 = .int .i64 k ∧ Hid (PlT w s (.slice A N c) bs g k N k V))
 case atStart => exact ⟨0, _, _, rfl, Nat.zero_le _, by omega, rfl, Lib.hid rfl, rfl, HT⟩
 case round =>
  clear HT
  obtain ⟨k, u3, V, hV, hk, rfl, rfl, Hu3, rfl, HT⟩ := hrel
  subst hV
  by_cases hlt : k < N
  ·obtain ⟨gs, f, d, bd, rfl, hf, hC, hd, hbd⟩ := pl_d HT.out.a.r (k := k) (by rw [← HN.out]; exact hlt)
   obtain ⟨⟨Ad, cd, rfl⟩, _⟩ := ints_form hd
   obtain ⟨d0, d1, d2, d3⟩ := HT.out.a.cells
   obtain ⟨c0, c1, c2, c3, c4, c5, c6, c7, c8, c9, c10⟩ := hC
   obtain ⟨V1, hV1⟩ : ∃ V1, V1 = V.alloc (.cells #[.int .i64 f.id, .int .i64 f.x, .int .i64 f.y, .int .i64 f.w, .int .i64 f.h, .int .i64 f.alpha, .int .i64 f.orient, .bool f.vis, .int .i64 f.bw, .int .i64 f.bh, .slice Ad f.data.length cd] 89) := ⟨_, rfl⟩
   obtain ⟨bsf, hbs⟩ : ∃ b, b = V.heap.size := ⟨_, rfl⟩
   have hbx : Below V.heap.size V V1 := by rw [hV1]; exact belI_box _ _
   have hX : BkAt V1 bsf 89 #[.int .i64 f.id, .int .i64 f.x, .int .i64 f.y, .int .i64 f.w, .int .i64 f.h, .int .i64 f.alpha, .int .i64 f.orient, .bool f.vis, .int .i64 f.bw, .int .i64 f.bh, .slice Ad f.data.length cd] := by rw [hV1, hbs]; exact BkAt.new _ _ _
   have HT1 := Lib.hid (HT.out.call hbx)
   have hd1 := Rep.call hd hbx
   have k0 : (0 : Int) ≤ (k : Int) := by omega
   have k1 : (k : Int) < (N : Int) := by omega
   obtain ⟨r, hr⟩ : ∃ r, r = ocR s.w s.h f := ⟨_, rfl⟩
   have HR1 := HR.out V1 f _ (repInts_rd hd1)
   rw [← hr] at HR1
   have HR1 := Lib.hid HR1
   have HF := Lib.hid (fun W u h => rofI u [r] W h)
   unfold RofAns at HF
   obtain ⟨L, hL⟩ : ∃ L, L = canon (gridOf [r]) := ⟨_, rfl⟩
   rw [← hL] at HF
   have HLe : Hid (L = ocP s.w s.h f) := Lib.hid (by rw [hL, hr]; rfl)
   have Hf := Lib.hid hf
   have Hbd := Lib.hid hbd
   have HV1 := Lib.hid hV1
   have Hbs := Lib.hid hbs
   have Hd1 := Lib.hid hd1
   have HX := Lib.hid hX
   clear hf hd hbx hV1 hbs HT hd1 hr hL hbd hX
   obtain ⟨e0, e1, e2, e3⟩ := HT1.out.a.cells
   rw [HV1.out] at e0 e1 e2 e3
   go_wp2_with fail
   rw [← HV1.out, ← Hbs.out]
   refine HR1.out.mono ?_
   rintro e w2 ⟨rfl, hb⟩
   have HT2 := Lib.hid (HT1.out.call hb)
   have HX2 := Lib.hid (HX.out.call hb)
   have Hd2 := Lib.hid (Rep.call Hd1.out hb)
   clear c0 c1 c2 c3 c4 c5 c6 c7 c8 c9 c10 d0 d1 d2 d3 hb HT1 Hd1 HX HR1 e0 e1 e2 e3
   go_wp2_with fail
   refine (HF.out _ _ (RdR.one (RcAt.new w2 r))).mono ?_
   rintro e w3 ⟨u, rfl, hou, hb⟩
   have hb := belI_call (belI_box w2 (.cells #[.int .i64 r.x, .int .i64 r.y, .int .i64 r.w, .int .i64 r.h] 113)) hb
   obtain ⟨Au, cu, hu⟩ := own_shape hou
   subst hu
   have HT3 := Lib.hid (HT2.out.call hb)
   have HX3 := Lib.hid (HX2.out.call hb)
   have Hd3 := Lib.hid (Rep.call Hd2.out hb)
   have hng : g ∉ (Value.slice Au L.length cu).ownBlock.toList := fun e => by
    have h1 := (own_ltB hou g e).1
    have h2 := HT2.out.glt.2
    simp at h1
    omega
   have hng2 : g ∉ bd := fun e => by have := Hold.out g (Hbd.out g e); have := HT2.out.glt.1; omega
   have Hng := Lib.hid (And.intro hng hng2)
   have Hlo : Hid (∀ b ∈ (Value.slice Au L.length cu).ownBlock.toList, w.heap.size ≤ b) := Lib.hid fun b hb => by
    have h1 := (own_ltB hou b hb).1
    have h2 := HT2.out.bw.size
    simp at h1
    omega
   have Hou := Lib.hid (own_rebase hou fun _ _ => Nat.zero_le _)
   clear HT2 HX2 Hd2 hb hou hng hng2
   have hX4 := HX3.out.call (belI_box w3 (.cells #[.slice Au L.length cu] 30))
   have x0 := hX4.cell 0 rfl
   have x1 := hX4.cell 1 rfl
   have x2 := hX4.cell 2 rfl
   have x3 := hX4.cell 3 rfl
   have x4 := hX4.cell 4 rfl
   have x5 := hX4.cell 5 rfl
   have x6 := hX4.cell 6 rfl
   have x7 := hX4.cell 7 rfl
   have x8 := hX4.cell 8 rfl
   have x9 := hX4.cell 9 rfl
   have x10 := hX4.cell 10 rfl
   clear hX4
   obtain ⟨cs, hP, hcs⟩ := HT3.out.p
   have HP := Lib.hid hP
   have Hcs := Lib.hid hcs
   clear hP hcs
   go_wp2_with (at_builtin; refine wpList_append_pl rfl _ _ rfl (w.heap.size + 1) g k N _ cs Hu3.out ((HP.out.call (belI_box _ _)).call (belI_box _ _)) (by omega) _ rfl f L (.slice Au L.length cu) (.slice Ad f.data.length cd) bd (BkAt.newAt (by simp) _ _) ((Hou.out.alloc _).alloc _) (Rep.call (Rep.call Hd3.out (belI_box _ _)) (belI_box _ _)) Hng.out.1 Hng.out.2 ?_)
   intro w4 hP4 hg4
   have hb4 := below_grownG (below_trans_box HT3.out.bw _ _) hg4 (by have := HT3.out.glt.1; omega)
   have hA4 := sn_own_grown (w := w) ((HT3.out.a.call (belI_box _ _)).call (belI_box _ _)) Hold.out (Nat.le_refl _) (by have := HT3.out.glt.1; omega) hg4
   have HT4 : Hid (PlT w s (.slice (some ⟨gs, 0, none⟩) N c) bs g (k + 1) N (k + 1) w4) := Lib.hid ⟨hA4, ⟨_, by rw [plL_take _ _ Hf.out, ← HLe.out]; exact hP4, fun b hb => by
    rcases List.mem_append.1 hb with hb | hb
    ·exact Hcs.out b hb
    ·rcases List.mem_append.1 hb with hb | hb
     ·exact .inr (Hlo.out b hb)
     ·exact .inl (Hbd.out b hb)⟩, hb4⟩
   clear x0 x1 x2 x3 x4 x5 x6 x7 x8 x9 x10 hP4 hg4 hb4 hA4 HT3 HX3 Hd3 HP Hcs Hou
   go_wp2_with fail
   go_roundg (N - (k + 1))
   case measure => omega
   case rel => exact ⟨k + 1, _, _, rfl, by omega, rfl, rfl, Lib.hid rfl, by go_num, HT4⟩
  ·obtain rfl : k = N := by omega
   have hni : ¬ (k : Int) < (k : Int) := by omega
   go_wp2_with fail
   go_ret
   obtain ⟨cs, hP, hcs⟩ := HT.out.p
   rw [List.take_of_length_le (by rw [← HN.out]; exact Nat.le_refl _)] at hP
   refine ⟨g, cs, by rw [← HN.out, Hu3.out]; rfl, by rw [← HN.out]; exact hP.mono (by omega), hcs, by have := HT.out.glt.1; omega, HT.out.bw⟩
end Go.Proofs.YtdgagooldlnpeaaGreat
namespace Go.Proofs.YtdgagooldlnpeaaGreat
open Go.RowKit
noncomputable def cbQ (M : List Pl) : List Rc := (M.filter fun p => sfOpq p.1).flatMap fun p => p.2
theorem cbQ_nil : cbQ [] = [] := rfl
theorem cbQ_take {M : List Pl} {k : Nat} {p : Pl} (h : M[k]? = some p) : cbQ (M.take (k + 1)) = cbQ (M.take k) ++ (if sfOpq p.1 = true then p.2 else []) := by
 unfold cbQ
 rw [List.take_add_one, h, Option.toList_some, List.filter_append, List.flatMap_append]
 congr 1
 by_cases h : sfOpq p.1 = true <;> simp [h]
theorem cbQ_len {M : List Pl} (hM : ∀ p ∈ M, p.2.length ≤ 256) (k : Nat) : (cbQ (M.take k)).length ≤ k * 256 := by
  induction k with
  | zero => rw [List.take_zero, cbQ_nil]; simp
  | succ k ih =>
    rcases h : M[k]? with _ | p
    · rw [List.take_add_one, h]
      simp only [Option.toList_none, List.append_nil]
      exact Nat.le_trans ih (Nat.mul_le_mul_right _ (Nat.le_succ k))
    · rw [cbQ_take h, List.length_append, Nat.succ_mul]
      refine Nat.add_le_add ih ?_
      split
      · exact hM p (List.mem_of_getElem? h)
      · exact Nat.zero_le _
theorem cbQ_pl (W H : Int) (fs : List Sf) : cbQ (plL W H fs) = ocQ W H fs := by
 unfold cbQ plL ocQ
 rw [List.filter_map, List.flatMap_map]
 rfl
theorem info2_rc : ∃ i0, Tryz.prog.info? 113 = some i0 ∧ i0.zero = some (.agg #[.int .i64 0, .int .i64 0, .int .i64 0, .int .i64 0]) ∧ i0.size = 4 ∧ i0.bytes = 32 := by
 obtain ⟨i0, hi, h0, h1, h2⟩ := info_parts infoRect
 exact ⟨i0, hi, h0, h1, h2⟩
structure CbT (w : World) (u : Value) (L : List Rc) (V : World) : Prop where
 x : BxR V w.heap.size
 r : V.ownsRow (w.heap.size + 1) 113 4 u L.length (rcsCells L)
 bw : Below w.heap.size w V
theorem CbT.call {w : World} {u : Value} {L : List Rc} {V V' : World} (h : CbT w u L V) (hb : Below V.heap.size V V') : CbT w u L V' := ⟨(hb.block _ h.x.lt).trans h.x, own_call2 h.r hb, belI_call h.bw hb⟩
theorem CbT.grown {w : World} {u u' : Value} {L L' : List Rc} {V V' : World} (h : CbT w u L V) (hr : V'.ownsRow (w.heap.size + 1) 113 4 u' L'.length (rcsCells L')) (hg : V.grownBy V' u.ownBlock) : CbT w u' L' V' := by
 have hlo : ∀ k, u.ownBlock = some k → w.heap.size + 1 ≤ k := fun k hk => (own_ltB h.r k (by rw [hk]; simp)).1
 refine ⟨(hg.block _ h.x.lt fun e => by have := hlo _ e.symm; omega).trans h.x, hr, (Chg.of_grown hg).below h.bw h.bw.size fun b hb => ?_⟩
 have := hlo b (by simpa using hb)
 omega
set_option maxHeartbeats 2000000 in
set_option maxRecDepth 10000 in
theorem cbI (M : List Pl) (v : Value) (w : World) (hM : M.length ≤ 6) (hL : ∀ p ∈ M, p.2.length ≤ 256) (h : RdP w v M) : Calls Tryz.prog 162 #[v] w (RofAns (cbQ M) w) := by
 obtain ⟨i0, hi, hz0, hz1, hz2⟩ := info2_rc
 obtain ⟨A, c, rfl⟩ := h.form
 obtain ⟨N, hNe⟩ : ∃ N, N = M.length := ⟨_, rfl⟩
 rw [← hNe] at hM h ⊢
 have HN := Lib.hid hNe
 have HL := Lib.hid hL
 have HR := Lib.hid h
 have HC := Lib.hid (fun k => cbQ_len hL k)
 have hT : CbT w (.slice none 0 0) [] (w.alloc (.cells #[.slice none 0 0] 30)) := ⟨heap_alloc_new w _, World.ownsRow_nil _ _ _ _, belI_box _ _⟩
 have HT := Lib.hid hT
 have HF := Lib.hid (fun W u L h => rofI u L W h)
 unfold RofAns at HF
 have HI := Lib.hid (fun (W : World) (f : Sf) (d : Value) (h : RdI W d f.data) => isoI f d W h)
 unfold IsoAns at HI
 clear hNe hL h hT
 go_enter Tryz.func162, Tryz.ntmps162
 go_wp2_with fail
 go_loopg [3, 8] N (fun gk s3 s8 wr => ∃ (k : Nat) (u3 : Value) (V : World), V = wr ∧ k ≤ N ∧ gk = N - k ∧ s3 = u3 ∧ s8 = .int .i64 k ∧ Hid (CbT w u3 (cbQ (M.take k)) V))
 case atStart => exact ⟨0, _, _, rfl, Nat.zero_le _, by omega, rfl, rfl, HT⟩
 case round =>
  clear HT
  obtain ⟨k, u3, V, hV, hk, rfl, rfl, rfl, HT⟩ := hrel
  subst hV
  by_cases hlt : k < N
  ·obtain ⟨g, o, p, u, d, rfl, hp, hC, hE⟩ := (HR.out.call HT.out.bw).at_ (k := k) (by rw [← HN.out]; exact hlt)
   obtain ⟨f, L⟩ := p
   dsimp only at hC hE
   obtain ⟨Au, cu, rfl⟩ := own_shape hE.r
   obtain ⟨Ad, cd, rfl⟩ := hE.d.form
   dsimp only at hE hC
   obtain ⟨c0, c1, c2, c3, c4, c5, c6, c7, c8, c9, c10, c11⟩ := hC
   obtain ⟨V1, hV1⟩ : ∃ V1, V1 = V.alloc (.cells #[.slice Au L.length cu, .int .i64 f.id, .int .i64 f.x, .int .i64 f.y, .int .i64 f.w, .int .i64 f.h, .int .i64 f.alpha, .int .i64 f.orient, .bool f.vis, .int .i64 f.bw, .int .i64 f.bh, .slice Ad f.data.length cd] 137) := ⟨_, rfl⟩
   obtain ⟨bp, hbp⟩ : ∃ b, b = V.heap.size := ⟨_, rfl⟩
   have hbx : Below V.heap.size V V1 := by rw [hV1]; exact belI_box _ _
   have hX : BkAt V1 bp 137 #[.slice Au L.length cu, .int .i64 f.id, .int .i64 f.x, .int .i64 f.y, .int .i64 f.w, .int .i64 f.h, .int .i64 f.alpha, .int .i64 f.orient, .bool f.vis, .int .i64 f.bw, .int .i64 f.bh, .slice Ad f.data.length cd] := by rw [hV1, hbp]; exact BkAt.new _ _ _
   have HT1 := Lib.hid (HT.out.call hbx)
   have hE1 := hE.call hbx
   have HI1 := HI.out V1 f _ hE1.d
   have Hp := Lib.hid hp
   have Hl : Hid (L.length ≤ 256) := Lib.hid (HL.out (f, L) (List.mem_of_getElem? hp))
   have HX := Lib.hid hX
   have HE1 := Lib.hid hE1
   have HV1 := Lib.hid hV1
   have Hbp := Lib.hid hbp
   have k0 : (0 : Int) ≤ (k : Int) := by omega
   have k1 : (k : Int) < (N : Int) := by omega
   have Hck := Lib.hid (HC.out k)
   clear hp hE hV1 hbp hbx hX HT hE1
   rcases ho : sfOpq f with _ | _
   ·rw [ho] at HI1
    have HI1 := Lib.hid HI1
    have Ho := Lib.hid ho
    clear ho
    go_wp2_with fail
    rw [← HV1.out]
    refine HI1.out.mono ?_
    rintro e w2 ⟨rfl, hb⟩
    clear c0 c1 c2 c3 c4 c5 c6 c7 c8 c9 c10 c11
    have HT2 : Hid (CbT w u3 (cbQ (M.take (k + 1))) w2) := Lib.hid (by rw [cbQ_take Hp.out, Ho.out]; simpa using HT1.out.call hb)
    clear hb
    go_wp2_with fail
    go_roundg (N - (k + 1))
    case measure => omega
    case rel => exact ⟨k + 1, _, _, rfl, by omega, rfl, rfl, by go_num, HT2⟩
   ·rw [ho] at HI1
    have HI1 := Lib.hid HI1
    have Ho := Lib.hid ho
    clear ho
    go_wp2_with fail
    rw [← HV1.out, ← Hbp.out]
    refine HI1.out.mono ?_
    rintro e w2 ⟨rfl, hb⟩
    clear c0 c1 c2 c3 c4 c5 c6 c7 c8 c9 c10 c11
    have HT2 := Lib.hid (HT1.out.call hb)
    have x0 := (HX.out.call hb).cell 0 rfl
    have HE2 := Lib.hid (HE1.out.call hb)
    have hq1 := HT2.out.bw.size
    have hl2 : (cbQ (M.take k)).length + L.length ≤ 3000 := by have := Hck.out; have := Hl.out; omega
    clear hb HT1 HE1 HX
    go_wp2_with (at_builtin; refine wpList_append_row rfl _ _ 28 rfl (w.heap.size + 1) 0 113 i0 (.agg #[.int .i64 0, .int .i64 0, .int .i64 0, .int .i64 0]) 4 32 Tryz.underlying28 hi hz0 hz1 hz2 rfl (by decide) u3 (cbQ (M.take k)).length (rcsCells (cbQ (M.take k))) rfl HT2.out.r _ L.length (rcsCells L) rfl HE2.out.r (rcs_one _) (by unfold maxLen; omega) (by omega) (by have := HT2.out.x.lt; omega) ?_)
    intro v2 w3 hown3 hgr
    have HT3 : Hid (CbT w v2 (cbQ (M.take (k + 1))) w3) := Lib.hid (HT2.out.grown (by rw [cbQ_take Hp.out, Ho.out, if_pos rfl, rcsCells_append, List.length_append]; exact hown3) hgr)
    clear hown3 hgr HT2 HE2 x0
    go_wp2_with fail
    go_roundg (N - (k + 1))
    case measure => omega
    case rel => exact ⟨k + 1, _, _, rfl, by omega, rfl, rfl, by go_num, HT3⟩
  ·obtain rfl : k = N := by omega
   have hni : ¬ (k : Int) < (k : Int) := by omega
   have hfull : M.take k = M := List.take_of_length_le (by rw [← HN.out]; exact Nat.le_refl _)
   have hT := HT.out
   rw [hfull] at hT
   have HT := Lib.hid hT
   obtain ⟨Q, hQ⟩ : ∃ Q, Q = canon (gridOf (cbQ M)) := ⟨_, rfl⟩
   have HF1 := HF.out V u3 (cbQ M) (RdR.of_own hT.r)
   rw [← hQ] at HF1
   have HF1 := Lib.hid HF1
   have HQ := Lib.hid hQ
   clear hT hfull hQ
   go_wp2_with fail
   refine HF1.out.mono ?_
   rintro e w2 ⟨z, rfl, hown, hb⟩
   obtain ⟨Az, cz, rfl⟩ := own_shape hown
   have HT2 := Lib.hid (HT.out.call hb)
   have hlt2 := HT.out.x.lt
   have rc : w2.cell? ⟨w.heap.size, 0, none⟩ = some (.slice none 0 0) := by simp [World.cell?, show w2.heap[w.heap.size]? = _ from HT2.out.x]
   have rf : w2.frozen? ⟨w.heap.size, 0, none⟩ = false := by simp [World.frozen?, show w2.heap[w.heap.size]? = _ from HT2.out.x]
   have Hown := Lib.hid hown
   clear hown hb
   go_wp2_with fail
   refine bodyPost_ret (v := .agg #[.slice Az Q.length cz]) (by simp [results, Tryz.results162, go_sem, rc]) rfl ?_
   unfold RofAns
   rw [← HQ.out]
   exact ⟨_, rfl, own_set Hown.out (by omega) (by omega) _, HT2.out.bw.setCell (Nat.le_refl _) _⟩
end Go.Proofs.YtdgagooldlnpeaaGreat
namespace Go.Proofs.YtdgagooldlnpeaaGreat
open Go.RowKit
theorem plL_small (W H : Int) (fs : List Sf) : ∀ p ∈ plL W H fs, p.2.length ≤ 256 := fun p hp => by
 unfold plL at hp
 obtain ⟨f, _, rfl⟩ := List.mem_map.1 hp
 exact canon_len _
def RgQ (Q : List Rc) (w : World) (e : Ending) (w' : World) : Prop := ∃ v, e = .returned (.agg #[v]) ∧ w'.ownsRow w.heap.size 113 4 v Q.length (rcsCells Q) ∧ Below w.heap.size w w'
theorem RgQ.of_rof {L Q : List Rc} {w : World} {e : Ending} {w' : World} (h : RofAns L w e w') (hq : canon (gridOf L) = Q) : RgQ Q w e w' := by subst hq; exact h
theorem HalfP.from {B : Nat} {w : World} {M : List Pl} {g N : Nat} {bs : List Nat} (h : HalfP B w M (.slice (some ⟨g, 0, none⟩) N N) bs) (j : Nat) : RdP w (.slice (some ⟨g, j * 12, none⟩) (N - j) (N - j)) (M.drop j) := h.drop j _ _ (by rw [List.length_drop, ← h.len])
theorem HalfP.none {B : Nat} {w : World} {M : List Pl} {g N : Nat} {bs : List Nat} (h : HalfP B w M (.slice (some ⟨g, 0, none⟩) N N) bs) (A : Option Addr) (c : Nat) : RdP w (.slice A 0 c) (M.drop N) := by
 rw [List.drop_of_length_le (by rw [← h.len]; exact Nat.le_refl _)]
 exact RdP.nil w A c
structure CvT (w : World) (s : Sn) (v : Value) (bs : List Nat) (V : World) : Prop where
 a : SnA w.heap.size s v bs V
 x : BxR V (w.heap.size + 1)
 bw : Below w.heap.size w V
theorem CvT.call {w : World} {s : Sn} {v : Value} {bs : List Nat} {V V' : World} (h : CvT w s v bs V) (hb : Below V.heap.size V V') : CvT w s v bs V' := ⟨h.a.call hb, (hb.block _ h.x.lt).trans h.x, belI_call h.bw hb⟩
theorem CvT.born {w : World} {s : Sn} {v : Value} {bs : List Nat} (h : repSfs.R w s.fs [v] bs) : CvT w s v bs ((w.alloc (.cells #[.int .i64 s.w, .int .i64 s.h, .int .i64 s.back, v] 34)).alloc (.cells #[.slice none 0 0] 30)) :=
 ⟨(SnA.born h).call (belI_box _ _), by have := heap_alloc_new (w.alloc (.cells #[.int .i64 s.w, .int .i64 s.h, .int .i64 s.back, v] 34)) (.cells #[.slice none 0 0] 30); unfold BxR; simpa using this, belI_call (belI_box _ _) (belI_box _ _)⟩
theorem CvT.res {w : World} {s : Sn} {v : Value} {bs : List Nat} {V : World} (h : CvT w s v bs V) : V.cell? ⟨w.heap.size + 1, 0, none⟩ = some (.slice none 0 0) ∧ V.frozen? ⟨w.heap.size + 1, 0, none⟩ = false := by
 constructor
 ·simp [World.cell?, show V.heap[w.heap.size + 1]? = _ from h.x]
 ·simp [World.frozen?, show V.heap[w.heap.size + 1]? = _ from h.x]
theorem rg_zero {w V : World} (h : Below w.heap.size w V) : RgQ [] w (.returned (.agg #[.slice none 0 0])) (V.setCell ⟨w.heap.size + 1, 0, none⟩ (.slice none 0 0)) :=
 ⟨_, rfl, ⟨rfl, .inl ⟨rfl, rfl⟩⟩, h.setCell (by simp) _⟩
end Go.Proofs.YtdgagooldlnpeaaGreat
