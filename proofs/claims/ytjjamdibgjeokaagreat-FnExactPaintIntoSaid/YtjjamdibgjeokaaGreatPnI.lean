/- The contracts of painting, of the program. No statement is proved here. -/
import Derived.Test.YtjjamdibgjeokaaGreatMA
import Derived.Test.YtjjamdibgjeokaaGreatSfR
import Derived.Test.YtjjamdibgjeokaaGreatMB
import Derived.Test.YtjjamdibgjeokaaGreatMC
import Derived.Test.YtjjamdibgjeokaaGreatCpyI
import Derived.Test.YtjjamdibgjeokaaGreatCpyJ
import Derived.Test.YtjjamdibgjeokaaGreatOrdB
import Derived.Test.YtjjamdibgjeokaaGreatOrdS
import Derived.Test.YtjjamdibgjeokaaGreatOrdI
import Derived.Test.YtjjamdibgjeokaaGreatSclB
import Derived.Test.YtjjamdibgjeokaaGreatSfP
import Derived.Test.YtjjamdibgjeokaaGreatPnM
import Derived.Test.YtjjamdibgjeokaaGreatSnS
import Derived.Test.YtjjamdibgjeokaaGreatPnS
import Derived.Test.YtjjamdibgjeokaaGreatProg
import Derived.WalkKit
import Derived.ProofKit
import Derived.OpenShut
import Derived.WalkLawsBesides
import Derived.WalkSpells
import Derived.ShutString
import Derived.ChangeOld
import Derived.Below
import Derived.Lib.Hide
import Derived.BigQuiet
import Derived.Deep.QuietTactic
import Derived.Maps.AppendAt
import Derived.Deep.OwnRows
import Derived.Handy
import Derived.Deep.Draws
import Derived.OwnWalk
import Derived.Deep.AppendLies
import Derived.Deep.LoopGhost
import Derived.Deep.Onto
import Derived.Deep.MidRow
import Derived.Deep.WholeRow
import Derived.Laws.BitsAllLaws
import Derived.Lib.QuoteBits
import Derived.Deep.RegionHeld3
import Derived.Deep.DeepCutAuto
import Derived.Test.YtjjamdibgjeokaaGreatShelf
import Derived.Laws.CopyOwn
import Derived.Deep.RegionLaw
import Derived.Great.BuildSlice
import Derived.Laws.AppendOwn
import Derived.ChangeKeysEq
namespace Go.Proofs.YtjjamdibgjeokaaGreat
open Go.RowKit
/-- The surface's box, the screen and its row. -/
structure PsA (w : World) (W H : Nat) (f : Sf) (d : Value) (bo gq m cq lo : Nat) (D : List Int) (V : World) : Prop where
  s : BkAt V w.heap.size 86 #[.int .i64 f.id, .int .i64 f.x, .int .i64 f.y, .int .i64 f.w, .int .i64 f.h, .int .i64 f.alpha, .int .i64 f.orient, .bool f.vis, .int .i64 f.bw, .int .i64 f.bh, d]
  o : ImAt V bo 34 W H (.slice (some ⟨gq, 0, none⟩) m cq)
  d : RdI V d f.data
  row : V.ownsRow lo 3 1 (.slice (some ⟨gq, 0, none⟩) m cq) m (intCells D)
  gr : w.grownBy V (some gq)
theorem PsA.call {w : World} {W H : Nat} {f : Sf} {d : Value} {bo gq m cq lo : Nat} {D : List Int} {V V' : World} (h : PsA w W H f d bo gq m cq lo D V) (hb : Below V.heap.size V V') : PsA w W H f d bo gq m cq lo D V' := ⟨h.s.call hb, h.o.call hb, h.d.call hb, ownI_call h.row hb, grown_below h.gr hb⟩
theorem grown_new {w V V' : World} {g b : Nat} (h : w.grownBy V (some g)) (hg : V.grownBy V' (some b)) (hb : w.heap.size ≤ b) : w.grownBy V' (some g) :=
  ⟨hg.os.trans h.os, hg.tape.trans h.tape, hg.output.trans h.output, Nat.le_trans h.size hg.size, fun k hk hn => (hg.block k (Nat.lt_of_lt_of_le hk h.size) (fun e => by have := Option.some.inj e; omega)).trans (h.block k hk hn)⟩
theorem PsA.far {w : World} {W H : Nat} {f : Sf} {d : Value} {bo gq m cq lo bB : Nat} {D : List Int} {V V' : World} (h : PsA w W H f d bo gq m cq lo D V) (hn : bo < w.heap.size ∧ gq < w.heap.size ∧ ∀ q, d.ownBlock = some q → q < w.heap.size) (hB : w.heap.size < bB) (hg : V.grownBy V' (some bB)) : PsA w W H f d bo gq m cq lo D V' :=
  ⟨h.s.grown hg (fun e => by have := Option.some.inj e; omega), h.o.grown hg (fun e => by have := Option.some.inj e; omega), h.d.grown hg (fun q hq e => by have := hn.2.2 q hq; have := Option.some.inj e; omega), h.row.kept hg (.inr (fun e => by have : gq = bB := Option.some.inj e; omega)), grown_new h.gr hg (by omega)⟩
/-- The same within the rounds: the part on the screen, the picture. -/
structure PsC (w : World) (W H : Nat) (f : Sf) (d : Value) (bo gq m cq bx X Y n h bp : Nat) (P : Im) (up : Value) (V : World) : Prop where
  s : BkAt V w.heap.size 86 #[.int .i64 f.id, .int .i64 f.x, .int .i64 f.y, .int .i64 f.w, .int .i64 f.h, .int .i64 f.alpha, .int .i64 f.orient, .bool f.vis, .int .i64 f.bw, .int .i64 f.bh, d]
  o : ImAt V bo 34 W H (.slice (some ⟨gq, 0, none⟩) m cq)
  x : RcAt V bx ⟨X, Y, n, h⟩
  i : ImAt V bp 101 P.w P.h up
  d : RdI V up P.d
  gr : w.grownBy V (some gq)
theorem PsC.call {w : World} {W H : Nat} {f : Sf} {d : Value} {bo gq m cq bx X Y n h bp : Nat} {P : Im} {up : Value} {V V' : World} (k : PsC w W H f d bo gq m cq bx X Y n h bp P up V) (hb : Below V.heap.size V V') : PsC w W H f d bo gq m cq bx X Y n h bp P up V' := ⟨k.s.call hb, k.o.call hb, k.x.below hb k.x.lt, k.i.call hb, k.d.call hb, grown_below k.gr hb⟩
theorem PsC.set {w : World} {W H : Nat} {f : Sf} {d : Value} {bo gq m cq bx X Y n h bp gp pn cp : Nat} {P : Im} {V V' : World} (k : PsC w W H f d bo gq m cq bx X Y n h bp P (.slice (some ⟨gp, 0, none⟩) pn cp) V) (ho : bo ≠ gq ∧ w.heap.size ≠ gq ∧ bx ≠ gq ∧ bp ≠ gq ∧ gp ≠ gq) (hg : V.grownBy V' (some gq)) : PsC w W H f d bo gq m cq bx X Y n h bp P (.slice (some ⟨gp, 0, none⟩) pn cp) V' :=
  ⟨k.s.grown hg (fun e => ho.2.1 (Option.some.inj e)), k.o.grown hg (fun e => ho.1 (Option.some.inj e)), k.x.grownI hg (fun e => ho.2.2.1 (Option.some.inj e)), k.i.grown hg (fun e => ho.2.2.2.1 (Option.some.inj e)), k.d.grown hg (fun q hq e => by have h1 : gp = q := (by simpa [Value.ownBlock] using hq); have h2 := Option.some.inj e; exact ho.2.2.2.2 (h1.trans h2)), k.gr.trans hg⟩
theorem PsC.row {w : World} {lo gq m cq : Nat} {D : List Int} {j : Nat} (h : w.ownsRow lo 3 1 (.slice (some ⟨gq, 0, none⟩) m cq) m (intCells D)) (hl : D.length = m) (hj : j < m) : w.cell? ⟨gq, j, none⟩ = some (.int .i64 (D.getD j 0)) ∧ w.frozen? ⟨gq, j, none⟩ = false := own_at_put h hj hl
set_option maxHeartbeats 2000000 in
set_option maxRecDepth 100000 in
theorem psfI (W H : Nat) (f : Sf) (d : Value) (bo gq m cq lo : Nat) (D : List Int) (w : World) (hW : 1 ≤ W ∧ W ≤ 16 ∧ 1 ≤ H ∧ H ≤ 16) (hm : m = W * H) (hD : D.length = m) (hs : sfOk f) (hv : RdI w d f.data)
    (ho : ImAt w bo 34 W H (.slice (some ⟨gq, 0, none⟩) m cq)) (hrow : w.ownsRow lo 3 1 (.slice (some ⟨gq, 0, none⟩) m cq) m (intCells D)) (hne : bo ≠ gq) :
    Calls Tryz.prog 74 #[.pointer (some ⟨bo, 0, none⟩), .agg #[.int .i64 f.id, .int .i64 f.x, .int .i64 f.y, .int .i64 f.w, .int .i64 f.h, .int .i64 f.alpha, .int .i64 f.orient, .bool f.vis, .int .i64 f.bw, .int .i64 f.bh, d]] w fun e w' => e = .returned (.tuple #[]) ∧ w.grownBy w' (some gq) ∧ w'.ownsRow lo 3 1 (.slice (some ⟨gq, 0, none⟩) m cq) m (intCells (pn1 W D f)) := by
  obtain ⟨wl, wh, hl, hh⟩ := hW
  have hm1 : 1 ≤ m := by rw [hm]; exact Nat.mul_pos wl hl
  have hm2 : m ≤ 256 := by rw [hm]; exact mul_256 wh hh
  obtain ⟨Ad, cd, rfl⟩ := hv.form
  have hbo := ho.lt
  have hgq := (hrow.lt gq rfl).2
  have Hold : Hid (bo < w.heap.size ∧ gq < w.heap.size ∧ ∀ q, (Value.slice Ad f.data.length cd).ownBlock = some q → q < w.heap.size) := Lib.hid ⟨hbo, hgq, fun q hq => by
    have hl0 : 0 < f.data.length := by have h0 := hs.2.2.2.2.2.2; have h1 := sz_pos h0.1; have h2 := h0.2.1; omega
    obtain ⟨g, c', e, h1, _⟩ := rd_block hv hl0
    rw [e] at hq
    obtain rfl : g = q := by simpa [Value.ownBlock] using hq
    exact h1⟩
  have hS := (show PsA w W H f (.slice Ad f.data.length cd) bo gq m cq lo D (w.alloc (.cells #[.int .i64 f.id, .int .i64 f.x, .int .i64 f.y, .int .i64 f.w, .int .i64 f.h, .int .i64 f.alpha, .int .i64 f.orient, .bool f.vis, .int .i64 f.bw, .int .i64 f.bh, .slice Ad f.data.length cd] 86)) from ⟨BkAt.new _ _ _, ho.alloc _, hv.alloc _, hrow.alloc _, grown_below (World.grownBy.refl _ _) (belI_box _ _)⟩)
  obtain ⟨r, hr⟩ : ∃ r, r = sfRect f := ⟨_, rfl⟩
  obtain ⟨P, hP⟩ : ∃ P, P = sfPic f := ⟨_, rfl⟩
  have hPk := (sfPic_ok hs).2.2
  have HR := fun W0 (h : RdI W0 (.slice Ad f.data.length cd) f.data) => srI f _ W0 h
  unfold SrAns RcAns at HR
  have HQ := fun W0 (h : RdI W0 (.slice Ad f.data.length cd) f.data) => picI f _ W0 h
  unfold PicAns AnsIm at HQ
  rw [← hr] at HR
  rw [← hP] at HQ hPk
  obtain ⟨pn, hpn⟩ : ∃ q, q = P.d.length := ⟨_, rfl⟩
  have hpn1 : 1 ≤ pn := by have := sz_pos hPk.1; have := hPk.2.1; omega
  unfold ImAns at HQ
  rw [← hpn] at HQ
  have HR := Lib.hid HR
  have HQ := Lib.hid HQ
  have Hr := Lib.hid hr
  have HPf := Lib.hid hP
  have Hpn := Lib.hid hpn
  have HPk := Lib.hid hPk
  have HmW := Lib.hid hm
  have HDm := Lib.hid hD
  clear hs hr hP hPk hpn hv ho hrow hm hD hbo hgq
  go_enter Tryz.func74, Tryz.ntmps74
  go_upto_region 1 with fail
  go_cut [4] (fun s4 wx => ∃ V, V = wx ∧ ∃ (bx X Y n h : Nat), s4 = .pointer (some ⟨bx, 0, none⟩) ∧ (X + n ≤ W ∧ Y + h ≤ H ∧ (h = 0 ∨ 1 ≤ n)) ∧ Hid (∀ p q : Nat, ((X ≤ p ∧ p < X + n ∧ Y ≤ q ∧ q < Y + h) ↔ (hasB r p q = true ∧ p < W ∧ q < H))) ∧ RcAt V bx ⟨X, Y, n, h⟩ ∧ w.heap.size < bx ∧ PsA w W H f (.slice Ad f.data.length cd) bo gq m cq lo D V)
  case first =>
    refine wp_region_held_drew (S := fun V => PsA w W H f (.slice Ad f.data.length cd) bo gq m cq lo D V) (by kernel_rfl) (hS.call (belI_drew _)) (fun hS => ?_)
    refine wpAnyH_take (i := 0) (v := .agg #[.int .i64 f.id, .int .i64 f.x, .int .i64 f.y, .int .i64 f.w, .int .i64 f.h, .int .i64 f.alpha, .int .i64 f.orient, .bool f.vis, .int .i64 f.bw, .int .i64 f.bh, .slice Ad f.data.length cd]) rfl (by kernel_rfl) (by kernel_rfl) (by kernel_rfl) (fun _ _ _ h => h) (Or.inl ⟨by kernel_rfl, by intro w' hSw; (try dsimp only at hSw); (have e0 := hSw.s.cell 0 rfl); (have e1 := hSw.s.cell 1 rfl); (have e2 := hSw.s.cell 2 rfl); (have e3 := hSw.s.cell 3 rfl); (have e4 := hSw.s.cell 4 rfl); (have e5 := hSw.s.cell 5 rfl); (have e6 := hSw.s.cell 6 rfl); (have e7 := hSw.s.cell 7 rfl); (have e8 := hSw.s.cell 8 rfl); (have e9 := hSw.s.cell 9 rfl); (have e10 := hSw.s.cell 10 rfl); go_simp⟩) (by assumption) ?_
    refine wpAnyH_take (i := 2) (v := .pointer (some ⟨bo, 0, none⟩)) rfl (by kernel_rfl) (by kernel_rfl) (by kernel_rfl) (fun _ _ _ h => h) (Or.inl ⟨by kernel_rfl, by intro w' hSw; (try dsimp only at hSw); go_simp⟩) (by assumption) ?_
    refine wpAnyH_take (i := 3) (v := .pointer (some ⟨bo, 0, none⟩)) rfl (by kernel_rfl) (by kernel_rfl) (by kernel_rfl) (fun _ _ _ h => h) (Or.inl ⟨by kernel_rfl, by intro w' hSw; (try dsimp only at hSw); go_simp⟩) (by assumption) ?_
    refine wpAnyH_take (i := 4) (v := .agg #[.int .i64 W, .int .i64 H, .slice (some ⟨gq, 0, none⟩) m cq]) rfl (by kernel_rfl) (by kernel_rfl) (by kernel_rfl) (fun _ _ _ h => h) (Or.inl ⟨by kernel_rfl, by intro w' hSw; (try dsimp only at hSw); (obtain ⟨o0, o1, o2⟩ := hSw.o.cells); go_simp⟩) (by assumption) ?_
    (try simp only [Act.put]); (try simp only [List.setIfInBounds_toArray]); (try simp only [List.set_cons_zero, List.set_cons_succ])
    refine wpAnyH_ready (rs := [1, 7]) (by kernel_rfl) (by simp) ?_
    refine (AllReadyH.cons rfl (fun K hK => ?_) (AllReadyH.cons rfl (fun K hK => ?_) AllReadyH.nil))
    · rw [if_pos (by kernel_rfl)]
      (try simp only [List.getElem_toArray]); (try simp only [List.getElem_cons_succ]); (try simp only [List.getElem_cons_zero])
      go_simp
      with_reducible refine (HR.out _ hS.d).mono ?_
      rintro e W' ⟨rfl, hb⟩
      dsimp only
      refine hK.out _ _ (hS.call hb) (fun hS => ?_)
      clear hK
      (try simp only [Act.put]); (try simp only [List.setIfInBounds_toArray]); (try simp only [List.set_cons_zero, List.set_cons_succ])
      refine wpAnyH_ready (rs := [5, 7]) (by kernel_rfl) (by simp) ?_
      refine (AllReadyH.cons rfl (fun K hK => ?_) (AllReadyH.cons rfl (fun K hK => ?_) AllReadyH.nil))
      · rw [if_pos (by kernel_rfl)]
        (try simp only [List.getElem_toArray]); (try simp only [List.getElem_cons_succ]); (try simp only [List.getElem_cons_zero])
        go_simp
        with_reducible refine (frameI W H _ _ _ _).mono ?_
        rintro e W' ⟨rfl, hb⟩
        dsimp only
        refine hK.out _ _ (hS.call hb) (fun hS => ?_)
        clear hK
        (try simp only [Act.put]); (try simp only [List.setIfInBounds_toArray]); (try simp only [List.set_cons_zero, List.set_cons_succ])
        refine wpAnyH_ready (rs := [6, 7]) (by kernel_rfl) (by simp) ?_
        refine (AllReadyH.cons rfl (fun K hK => ?_) (AllReadyH.cons rfl (fun K hK => ?_) AllReadyH.nil))
        · rw [if_pos (by kernel_rfl)]
          (try simp only [List.getElem_toArray]); (try simp only [List.getElem_cons_succ]); (try simp only [List.getElem_cons_zero])
          go_simp
          with_reducible refine (partI r W H wl wh hl hh _).mono ?_
          rintro e W' ⟨⟨X, Y, n, h, rfl, hXn, hYh, hn1, HJ⟩, hb⟩
          dsimp only
          refine hK.out _ _ (hS.call hb) (fun hS => ?_)
          clear hK
          (try simp only [Act.put]); (try simp only [List.setIfInBounds_toArray]); (try simp only [List.set_cons_zero, List.set_cons_succ])
          refine wpAnyH_ready (rs := [7]) (by kernel_rfl) (by simp) ?_
          refine (AllReadyH.cons rfl (fun K hK => ?_) AllReadyH.nil)
          · rw [if_pos (by kernel_rfl)]
            (try simp only [List.getElem_toArray]); (try simp only [List.getElem_cons_succ]); (try simp only [List.getElem_cons_zero])
            refine wp_alloc_rc 4 rfl rfl ?_
            intro bB W' hb GB lB
            have kB : w.heap.size < bB := Nat.lt_of_lt_of_le hS.s.lt lB
            refine hK.out _ _ (hS.call hb) (fun hS => ?_)
            clear hK
            (try simp only [Act.put]); (try simp only [List.setIfInBounds_toArray]); (try simp only [List.set_cons_zero, List.set_cons_succ])
            refine wpAnyH_ready (rs := [8]) (by kernel_rfl) (by simp) ?_
            refine (AllReadyH.cons rfl (fun K hK => ?_) AllReadyH.nil)
            · rw [if_pos (by kernel_rfl)]
              (try simp only [List.getElem_toArray]); (try simp only [List.getElem_cons_succ]); (try simp only [List.getElem_cons_zero])
              refine wp_store_rc (.tmp 4) (.tmp 15) rfl bB ⟨0, 0, 0, 0⟩ ⟨X, Y, n, h⟩ rfl rfl GB ?_
              intro W3 IB hgB
              skip
              refine hK.out _ _ (hS.far Hold.out kB hgB) (fun hS => ?_)
              clear hK
              (try simp only [Act.put]); (try simp only [List.setIfInBounds_toArray]); (try simp only [List.set_cons_zero, List.set_cons_succ])
              refine wpAnyH_done (by kernel_rfl) ?_ _
              go_wp2_with fail
              go_meet
              case rel => exact ⟨_, rfl, bB, X, Y, n, h, rfl, ⟨hXn, hYh, hn1⟩, HJ, IB, kB, hS⟩
        · rw [if_pos (by kernel_rfl)]
          (try simp only [List.getElem_toArray]); (try simp only [List.getElem_cons_succ]); (try simp only [List.getElem_cons_zero])
          refine wp_alloc_rc 4 rfl rfl ?_
          intro bB W' hb GB lB
          have kB : w.heap.size < bB := Nat.lt_of_lt_of_le hS.s.lt lB
          refine hK.out _ _ (hS.call hb) (fun hS => ?_)
          clear hK
          (try simp only [Act.put]); (try simp only [List.setIfInBounds_toArray]); (try simp only [List.set_cons_zero, List.set_cons_succ])
          refine wpAnyH_ready (rs := [6]) (by kernel_rfl) (by simp) ?_
          refine (AllReadyH.cons rfl (fun K hK => ?_) AllReadyH.nil)
          · rw [if_pos (by kernel_rfl)]
            (try simp only [List.getElem_toArray]); (try simp only [List.getElem_cons_succ]); (try simp only [List.getElem_cons_zero])
            go_simp
            with_reducible refine (partI r W H wl wh hl hh _).mono ?_
            rintro e W' ⟨⟨X, Y, n, h, rfl, hXn, hYh, hn1, HJ⟩, hb⟩
            dsimp only
            have GB := GB.below hb GB.lt
            refine hK.out _ _ (hS.call hb) (fun hS => ?_)
            clear hK
            (try simp only [Act.put]); (try simp only [List.setIfInBounds_toArray]); (try simp only [List.set_cons_zero, List.set_cons_succ])
            refine wpAnyH_ready (rs := [8]) (by kernel_rfl) (by simp) ?_
            refine (AllReadyH.cons rfl (fun K hK => ?_) AllReadyH.nil)
            · rw [if_pos (by kernel_rfl)]
              (try simp only [List.getElem_toArray]); (try simp only [List.getElem_cons_succ]); (try simp only [List.getElem_cons_zero])
              refine wp_store_rc (.tmp 4) (.tmp 15) rfl bB ⟨0, 0, 0, 0⟩ ⟨X, Y, n, h⟩ rfl rfl GB ?_
              intro W3 IB hgB
              skip
              refine hK.out _ _ (hS.far Hold.out kB hgB) (fun hS => ?_)
              clear hK
              (try simp only [Act.put]); (try simp only [List.setIfInBounds_toArray]); (try simp only [List.set_cons_zero, List.set_cons_succ])
              refine wpAnyH_done (by kernel_rfl) ?_ _
              go_wp2_with fail
              go_meet
              case rel => exact ⟨_, rfl, bB, X, Y, n, h, rfl, ⟨hXn, hYh, hn1⟩, HJ, IB, kB, hS⟩
      · rw [if_pos (by kernel_rfl)]
        (try simp only [List.getElem_toArray]); (try simp only [List.getElem_cons_succ]); (try simp only [List.getElem_cons_zero])
        refine wp_alloc_rc 4 rfl rfl ?_
        intro bB W' hb GB lB
        have kB : w.heap.size < bB := Nat.lt_of_lt_of_le hS.s.lt lB
        refine hK.out _ _ (hS.call hb) (fun hS => ?_)
        clear hK
        (try simp only [Act.put]); (try simp only [List.setIfInBounds_toArray]); (try simp only [List.set_cons_zero, List.set_cons_succ])
        refine wpAnyH_ready (rs := [5]) (by kernel_rfl) (by simp) ?_
        refine (AllReadyH.cons rfl (fun K hK => ?_) AllReadyH.nil)
        · rw [if_pos (by kernel_rfl)]
          (try simp only [List.getElem_toArray]); (try simp only [List.getElem_cons_succ]); (try simp only [List.getElem_cons_zero])
          go_simp
          with_reducible refine (frameI W H _ _ _ _).mono ?_
          rintro e W' ⟨rfl, hb⟩
          dsimp only
          have GB := GB.below hb GB.lt
          refine hK.out _ _ (hS.call hb) (fun hS => ?_)
          clear hK
          (try simp only [Act.put]); (try simp only [List.setIfInBounds_toArray]); (try simp only [List.set_cons_zero, List.set_cons_succ])
          refine wpAnyH_ready (rs := [6]) (by kernel_rfl) (by simp) ?_
          refine (AllReadyH.cons rfl (fun K hK => ?_) AllReadyH.nil)
          · rw [if_pos (by kernel_rfl)]
            (try simp only [List.getElem_toArray]); (try simp only [List.getElem_cons_succ]); (try simp only [List.getElem_cons_zero])
            go_simp
            with_reducible refine (partI r W H wl wh hl hh _).mono ?_
            rintro e W' ⟨⟨X, Y, n, h, rfl, hXn, hYh, hn1, HJ⟩, hb⟩
            dsimp only
            have GB := GB.below hb GB.lt
            refine hK.out _ _ (hS.call hb) (fun hS => ?_)
            clear hK
            (try simp only [Act.put]); (try simp only [List.setIfInBounds_toArray]); (try simp only [List.set_cons_zero, List.set_cons_succ])
            refine wpAnyH_ready (rs := [8]) (by kernel_rfl) (by simp) ?_
            refine (AllReadyH.cons rfl (fun K hK => ?_) AllReadyH.nil)
            · rw [if_pos (by kernel_rfl)]
              (try simp only [List.getElem_toArray]); (try simp only [List.getElem_cons_succ]); (try simp only [List.getElem_cons_zero])
              refine wp_store_rc (.tmp 4) (.tmp 15) rfl bB ⟨0, 0, 0, 0⟩ ⟨X, Y, n, h⟩ rfl rfl GB ?_
              intro W3 IB hgB
              skip
              refine hK.out _ _ (hS.far Hold.out kB hgB) (fun hS => ?_)
              clear hK
              (try simp only [Act.put]); (try simp only [List.setIfInBounds_toArray]); (try simp only [List.set_cons_zero, List.set_cons_succ])
              refine wpAnyH_done (by kernel_rfl) ?_ _
              go_wp2_with fail
              go_meet
              case rel => exact ⟨_, rfl, bB, X, Y, n, h, rfl, ⟨hXn, hYh, hn1⟩, HJ, IB, kB, hS⟩
    · rw [if_pos (by kernel_rfl)]
      (try simp only [List.getElem_toArray]); (try simp only [List.getElem_cons_succ]); (try simp only [List.getElem_cons_zero])
      refine wp_alloc_rc 4 rfl rfl ?_
      intro bB W' hb GB lB
      have kB : w.heap.size < bB := Nat.lt_of_lt_of_le hS.s.lt lB
      refine hK.out _ _ (hS.call hb) (fun hS => ?_)
      clear hK
      (try simp only [Act.put]); (try simp only [List.setIfInBounds_toArray]); (try simp only [List.set_cons_zero, List.set_cons_succ])
      refine wpAnyH_ready (rs := [1]) (by kernel_rfl) (by simp) ?_
      refine (AllReadyH.cons rfl (fun K hK => ?_) AllReadyH.nil)
      · rw [if_pos (by kernel_rfl)]
        (try simp only [List.getElem_toArray]); (try simp only [List.getElem_cons_succ]); (try simp only [List.getElem_cons_zero])
        go_simp
        with_reducible refine (HR.out _ hS.d).mono ?_
        rintro e W' ⟨rfl, hb⟩
        dsimp only
        have GB := GB.below hb GB.lt
        refine hK.out _ _ (hS.call hb) (fun hS => ?_)
        clear hK
        (try simp only [Act.put]); (try simp only [List.setIfInBounds_toArray]); (try simp only [List.set_cons_zero, List.set_cons_succ])
        refine wpAnyH_ready (rs := [5]) (by kernel_rfl) (by simp) ?_
        refine (AllReadyH.cons rfl (fun K hK => ?_) AllReadyH.nil)
        · rw [if_pos (by kernel_rfl)]
          (try simp only [List.getElem_toArray]); (try simp only [List.getElem_cons_succ]); (try simp only [List.getElem_cons_zero])
          go_simp
          with_reducible refine (frameI W H _ _ _ _).mono ?_
          rintro e W' ⟨rfl, hb⟩
          dsimp only
          have GB := GB.below hb GB.lt
          refine hK.out _ _ (hS.call hb) (fun hS => ?_)
          clear hK
          (try simp only [Act.put]); (try simp only [List.setIfInBounds_toArray]); (try simp only [List.set_cons_zero, List.set_cons_succ])
          refine wpAnyH_ready (rs := [6]) (by kernel_rfl) (by simp) ?_
          refine (AllReadyH.cons rfl (fun K hK => ?_) AllReadyH.nil)
          · rw [if_pos (by kernel_rfl)]
            (try simp only [List.getElem_toArray]); (try simp only [List.getElem_cons_succ]); (try simp only [List.getElem_cons_zero])
            go_simp
            with_reducible refine (partI r W H wl wh hl hh _).mono ?_
            rintro e W' ⟨⟨X, Y, n, h, rfl, hXn, hYh, hn1, HJ⟩, hb⟩
            dsimp only
            have GB := GB.below hb GB.lt
            refine hK.out _ _ (hS.call hb) (fun hS => ?_)
            clear hK
            (try simp only [Act.put]); (try simp only [List.setIfInBounds_toArray]); (try simp only [List.set_cons_zero, List.set_cons_succ])
            refine wpAnyH_ready (rs := [8]) (by kernel_rfl) (by simp) ?_
            refine (AllReadyH.cons rfl (fun K hK => ?_) AllReadyH.nil)
            · rw [if_pos (by kernel_rfl)]
              (try simp only [List.getElem_toArray]); (try simp only [List.getElem_cons_succ]); (try simp only [List.getElem_cons_zero])
              refine wp_store_rc (.tmp 4) (.tmp 15) rfl bB ⟨0, 0, 0, 0⟩ ⟨X, Y, n, h⟩ rfl rfl GB ?_
              intro W3 IB hgB
              skip
              refine hK.out _ _ (hS.far Hold.out kB hgB) (fun hS => ?_)
              clear hK
              (try simp only [Act.put]); (try simp only [List.setIfInBounds_toArray]); (try simp only [List.set_cons_zero, List.set_cons_succ])
              refine wpAnyH_done (by kernel_rfl) ?_ _
              go_wp2_with fail
              go_meet
              case rel => exact ⟨_, rfl, bB, X, Y, n, h, rfl, ⟨hXn, hYh, hn1⟩, HJ, IB, kB, hS⟩
  case rest =>
    clear hS
    obtain ⟨V1, hV, bx, X, Y, n, h, rfl, ⟨hXn, hYh, hn1⟩, HJ, hX, hbx, hS⟩ := hcut
    subst hV
    have HS := Lib.hid hS
    have HX := Lib.hid hX
    have Hbx := Lib.hid hbx
    have e0 := hS.s.cell 0 rfl
    have e1 := hS.s.cell 1 rfl
    have e2 := hS.s.cell 2 rfl
    have e3 := hS.s.cell 3 rfl
    have e4 := hS.s.cell 4 rfl
    have e5 := hS.s.cell 5 rfl
    have e6 := hS.s.cell 6 rfl
    have e7 := hS.s.cell 7 rfl
    have e8 := hS.s.cell 8 rfl
    have e9 := hS.s.cell 9 rfl
    have e10 := hS.s.cell 10 rfl
    clear hS hX hbx
    go_wp2_with fail
    refine (HQ.out V1 HS.out.d).mono ?_
    rintro e w3 ⟨u, rfl, howP, hb⟩
    obtain ⟨gp, cp, hu, hp1, hp2⟩ := howP.form (by omega)
    subst hu
    have hRP : RdI w3 (.slice (some ⟨gp, 0, none⟩) pn cp) P.d := by have := RdI.of_own howP; rwa [Hpn.out] at this ⊢
    have hbb := belI_box w3 (.cells #[.int .i64 P.w, .int .i64 P.h, .slice (some ⟨gp, 0, none⟩) pn cp] 101)
    obtain ⟨bp, hbp⟩ : ∃ b, b = w3.heap.size := ⟨_, rfl⟩
    have hI := ImAt.newAt (w := w3) hbp.symm 101 P.w P.h (.slice (some ⟨gp, 0, none⟩) pn cp)
    obtain ⟨V2, hV2⟩ : ∃ V, V = w3.alloc (.cells #[.int .i64 P.w, .int .i64 P.h, .slice (some ⟨gp, 0, none⟩) pn cp] 101) := ⟨_, rfl⟩
    rw [← hV2] at hbb hI
    have hS2 := (HS.out.call hb).call hbb
    have hX2 := (HX.out.below hb HX.out.lt).below hbb (by have := HX.out.lt; have := hb.size; omega)
    have hlt1 := HS.out.s.lt
    have hlt2 := hb.size
    have Hcc : Hid (PsC w W H f (.slice Ad f.data.length cd) bo gq m cq bx X Y n h bp P (.slice (some ⟨gp, 0, none⟩) pn cp) V2) := Lib.hid ⟨hS2.s, hS2.o, hX2, hI, hRP.call hbb, hS2.gr⟩
    have Hne : Hid (bo ≠ gq ∧ w.heap.size ≠ gq ∧ bx ≠ gq ∧ bp ≠ gq ∧ gp ≠ gq) := Lib.hid ⟨hne, by have := Hold.out.2.1; omega, by have := Hold.out.2.1; have := Hbx.out; omega, by have := Hold.out.2.1; omega, by have := Hold.out.2.1; omega⟩
    obtain ⟨D', hD'⟩ : ∃ D' : Nat → Int, D' = fun j => D.getD j 0 := ⟨_, rfl⟩
    have HDl : Hid (pn1 W D f = tabI m (pnF W f D')) := Lib.hid (by unfold pn1; rw [HDm.out, hD'])
    have HOO : Hid (V2.ownsRow lo 3 1 (.slice (some ⟨gq, 0, none⟩) m cq) m (intCells (tabI m (pnS W (pnPx W f.x f.y P) D' X Y n Y X)))) := Lib.hid (by
      rw [tabI_congr m (fun j _ => pnS_start W (pnPx W f.x f.y P) D' X Y n j), hD', ← HDm.out, ← tabI_self, HDm.out]
      exact hS2.row)
    obtain ⟨x0, x1, x2, x3⟩ := hX2.cells4
    rw [hV2] at x0 x1 x2 x3
    have HV2 := Lib.hid hV2
    have Hbp := Lib.hid hbp
    have hX16 : X + n ≤ 16 := by omega
    have hY16 : Y + h ≤ 16 := by omega
    clear HS HX hb howP hRP hbb hI hV2 hbp hp1 hp2 hS2 hX2 hlt1 hlt2 hD' e0 e1 e2 e3 e4 e5 e6 e7 e8 e9 e10
    go_wp2_with fail
    rw [← HV2.out, ← Hbp.out]
    clear x0 x1 x2 x3
    go_loopg [6] h (fun g6 s6 wr => ∃ (y : Nat) (V : World), V = wr ∧ Y ≤ y ∧ y ≤ Y + h ∧ g6 = Y + h - y ∧ s6 = .int .i64 y ∧ Hid (PsC w W H f (.slice Ad f.data.length cd) bo gq m cq bx X Y n h bp P (.slice (some ⟨gp, 0, none⟩) pn cp) V) ∧ Hid (V.ownsRow lo 3 1 (.slice (some ⟨gq, 0, none⟩) m cq) m (intCells (tabI m (pnS W (pnPx W f.x f.y P) D' X Y n y X)))))
    case atStart => exact ⟨Y, _, rfl, Nat.le_refl _, by omega, by omega, rfl, Hcc, HOO⟩
    case round =>
      clear Hcc HOO
      obtain ⟨y, V, hV, hy1, hy2, rfl, rfl, Hcc, HOO⟩ := hrel
      subst hV
      obtain ⟨x0, x1, x2, x3⟩ := Hcc.out.x.cells4
      go_wp2_with fail
      refine (bottom_nat X Y n h hX16 hY16 _).mono ?_
      rintro e V3 ⟨rfl, hbb⟩
      have Hcc2 := Lib.hid (Hcc.out.call hbb)
      have HOO2 := Lib.hid (ownI_call HOO.out hbb)
      clear hbb x0 x1 x2 x3 Hcc HOO
      obtain ⟨x0, x1, x2, x3⟩ := Hcc2.out.x.cells4
      by_cases hyl : y < Y + h
      · have hyi : (y : Int) < (Y : Int) + (h : Int) := by omega
        go_wp2_with fail
        go_loopg [7] n (fun g7 s7 wz => ∃ (x : Nat) (V : World), V = wz ∧ X ≤ x ∧ x ≤ X + n ∧ g7 = X + n - x ∧ s7 = .int .i64 x ∧ Hid (PsC w W H f (.slice Ad f.data.length cd) bo gq m cq bx X Y n h bp P (.slice (some ⟨gp, 0, none⟩) pn cp) V) ∧ Hid (V.ownsRow lo 3 1 (.slice (some ⟨gq, 0, none⟩) m cq) m (intCells (tabI m (pnS W (pnPx W f.x f.y P) D' X Y n y x)))))
        case atStart => exact ⟨X, _, rfl, Nat.le_refl _, by omega, by omega, rfl, Hcc2, HOO2⟩
        case round =>
          clear Hcc2 HOO2 x0 x1 x2 x3
          obtain ⟨x, V, hV, hx1, hx2, rfl, rfl, Hcc, HOO⟩ := hrel
          subst hV
          obtain ⟨x0, x1, x2, x3⟩ := Hcc.out.x.cells4
          go_wp2_with fail
          refine (right_nat X Y n h hX16 hY16 _).mono ?_
          rintro e V5 ⟨rfl, hbb⟩
          have Hcc2 := Lib.hid (Hcc.out.call hbb)
          have HOO2 := Lib.hid (ownI_call HOO.out hbb)
          clear hbb x0 x1 x2 x3 Hcc HOO
          by_cases hxl : x < X + n
          · have hxi : (x : Int) < (X : Int) + (n : Int) := by omega
            have hin := (HJ.out x y).1 ⟨hx1, hxl, hy1, hyl⟩
            have hbb := hin.1
            rw [Hr.out] at hbb
            obtain ⟨_, hpx, hpy, hre⟩ := has_pic hbb
            rw [← HPf.out] at hpx hpy hre
            obtain ⟨p0, p1, p2, p3, p4⟩ := px_place HPk.out hpx hpy
            obtain ⟨mm, hmm⟩ : ∃ q, q = y * W := ⟨_, rfl⟩
            have l1 : mm + x < m := by rw [hmm, HmW.out]; exact plc_lt hin.2.1 hin.2.2
            have HX := fun W0 (h : RdI W0 (.slice (some ⟨gp, 0, none⟩) pn cp) P.d) => pixelI P.w P.h ((x : Int) - f.x) ((y : Int) - f.y) _ P.d W0 HPk.out hpx hpy h
            obtain ⟨z, hz⟩ : ∃ z, z = P.d.getD (((y : Int) - f.y) * P.w + ((x : Int) - f.x)).toNat 0 := ⟨_, rfl⟩
            rw [← hz] at HX
            have HX := Lib.hid HX
            have Hz : Hid (pnPx W f.x f.y P (y * W + x) = z) := Lib.hid (by
              unfold pnPx
              rw [plc_div y hin.2.1, plc_mod y hin.2.1, hz])
            have hPs := HPk.out.1
            unfold szOk at hPs
            have q1 : IntKind.i64.wrap ((y : Int) * (W : Int)) = (mm : Int) := by rw [hmm, wrap_in _ (by have := Int.natCast_mul y W; omega) (by have := Int.natCast_mul y W; omega)]; simp
            have q2 := wrap_in ((mm : Int) + (x : Int)) (by omega) (by omega)
            have q3 : IntKind.i64.wrap ((x : Int) - f.x) = (x : Int) - f.x := wrap_in _ (by omega) (by omega)
            have q4 : IntKind.i64.wrap ((y : Int) - f.y) = (y : Int) - f.y := wrap_in _ (by omega) (by omega)
            have t1 : ((mm : Int) + (x : Int)).toNat = mm + x := by omega
            have u1 : (mm : Int) + (x : Int) < (m : Int) := by omega
            have v1 : (0 : Int) ≤ (mm : Int) + (x : Int) := by omega
            have Hmm := Lib.hid hmm
            have Hxy := Lib.hid hin.2
            obtain ⟨t, ht⟩ : ∃ t, t = D' (mm + x) := ⟨_, rfl⟩
            have HcD := Lib.hid (fun (V' : World) (h : V'.ownsRow lo 3 1 (.slice (some ⟨gq, 0, none⟩) m cq) m (intCells (tabI m (pnS W (pnPx W f.x f.y P) D' X Y n y x)))) => show V'.cell? ⟨gq, mm + x, none⟩ = some (.int .i64 t) ∧ V'.frozen? ⟨gq, mm + x, none⟩ = false from by
              have h1 := PsC.row h (tabI_length _ _) l1
              rw [tabI_getD _ _ _ l1, hmm, pnS_at W (pnPx W f.x f.y P) D' X Y n y x hin.2.1, ← hmm, ← ht] at h1
              exact h1)
            have Ht := Lib.hid ht
            have hT := Hcc2.out
            have hOw := HOO2.out
            obtain ⟨o0, o1, o2⟩ := hT.o.cells
            clear hin hbb hpx hpy hre p0 p1 p2 p3 p4 hmm hz ht hPs Hcc2 HOO2
            go_upto_region 9 with fail
            clear o0 o1 o2
            refine wp_region_held_drew (S := fun V => PsC w W H f (.slice Ad f.data.length cd) bo gq m cq bx X Y n h bp P (.slice (some ⟨gp, 0, none⟩) pn cp) V) (by kernel_rfl) (hT.call (belI_drew _)) (fun hS => ?_)
            replace hOw := ownI_call hOw (belI_drew _)
            refine wpAnyH_take (i := 0) (v := .pointer (some ⟨bo, 0, none⟩)) rfl (by kernel_rfl) (by kernel_rfl) (by kernel_rfl) (fun _ _ _ h => h) (Or.inl ⟨by kernel_rfl, by intro w' hSw; (try dsimp only at hSw); go_simp⟩) (by assumption) ?_
            refine wpAnyH_take (i := 1) (v := .pointer (some ⟨bo, 0, none⟩)) rfl (by kernel_rfl) (by kernel_rfl) (by kernel_rfl) (fun _ _ _ h => h) (Or.inl ⟨by kernel_rfl, by intro w' hSw; (try dsimp only at hSw); go_simp⟩) (by assumption) ?_
            refine wpAnyH_take (i := 2) (v := .pointer (some ⟨bo, 2, none⟩)) rfl (by kernel_rfl) (by kernel_rfl) (by kernel_rfl) (fun _ _ _ h => h) (Or.inl ⟨by kernel_rfl, by intro w' hSw; (try dsimp only at hSw); go_simp⟩) (by assumption) ?_
            refine wpAnyH_take (i := 3) (v := .slice (some ⟨gq, 0, none⟩) m cq) rfl (by kernel_rfl) (by kernel_rfl) (by kernel_rfl) (fun _ _ _ h => h) (Or.inl ⟨by kernel_rfl, by intro w' hSw; (try dsimp only at hSw); (have o2 := hSw.o.cells.2.2); go_simp⟩) (by assumption) ?_
            refine wpAnyH_take (i := 4) (v := .int .i64 (y : Int)) rfl (by kernel_rfl) (by kernel_rfl) (by kernel_rfl) (fun _ _ _ h => h) (Or.inl ⟨by kernel_rfl, by intro w' hSw; (try dsimp only at hSw); go_simp⟩) (by assumption) ?_
            refine wpAnyH_take (i := 5) (v := .pointer (some ⟨bo, 0, none⟩)) rfl (by kernel_rfl) (by kernel_rfl) (by kernel_rfl) (fun _ _ _ h => h) (Or.inl ⟨by kernel_rfl, by intro w' hSw; (try dsimp only at hSw); go_simp⟩) (by assumption) ?_
            refine wpAnyH_take (i := 6) (v := .pointer (some ⟨bo, 0, none⟩)) rfl (by kernel_rfl) (by kernel_rfl) (by kernel_rfl) (fun _ _ _ h => h) (Or.inl ⟨by kernel_rfl, by intro w' hSw; (try dsimp only at hSw); go_simp⟩) (by assumption) ?_
            refine wpAnyH_take (i := 7) (v := .pointer (some ⟨bo, 0, none⟩)) rfl (by kernel_rfl) (by kernel_rfl) (by kernel_rfl) (fun _ _ _ h => h) (Or.inl ⟨by kernel_rfl, by intro w' hSw; (try dsimp only at hSw); go_simp⟩) (by assumption) ?_
            refine wpAnyH_take (i := 8) (v := .int .i64 (W : Int)) rfl (by kernel_rfl) (by kernel_rfl) (by kernel_rfl) (fun _ _ _ h => h) (Or.inl ⟨by kernel_rfl, by intro w' hSw; (try dsimp only at hSw); (have o0 := hSw.o.cells.1); go_simp⟩) (by assumption) ?_
            refine wpAnyH_take (i := 9) (v := .int .i64 (mm : Int)) rfl (by kernel_rfl) (by kernel_rfl) (by kernel_rfl) (fun _ _ _ h => h) (Or.inl ⟨by kernel_rfl, by intro w' hSw; (try dsimp only at hSw); go_simp⟩) (by assumption) ?_
            refine wpAnyH_take (i := 10) (v := .int .i64 (x : Int)) rfl (by kernel_rfl) (by kernel_rfl) (by kernel_rfl) (fun _ _ _ h => h) (Or.inl ⟨by kernel_rfl, by intro w' hSw; (try dsimp only at hSw); go_simp⟩) (by assumption) ?_
            refine wpAnyH_take (i := 11) (v := .int .i64 ((mm : Int) + (x : Int))) rfl (by kernel_rfl) (by kernel_rfl) (by kernel_rfl) (fun _ _ _ h => h) (Or.inl ⟨by kernel_rfl, by intro w' hSw; (try dsimp only at hSw); go_simp⟩) (by assumption) ?_
            refine wpAnyH_take (i := 12) (v := .pointer (some ⟨gq, mm + x, none⟩)) rfl (by kernel_rfl) (by kernel_rfl) (by kernel_rfl) (fun _ _ _ h => h) (Or.inl ⟨by kernel_rfl, by intro w' hSw; (try dsimp only at hSw); go_simp⟩) (by assumption) ?_
            refine wpAnyH_take (i := 13) (v := .pointer (some ⟨gq, mm + x, none⟩)) rfl (by kernel_rfl) (by kernel_rfl) (by kernel_rfl) (fun _ _ _ h => h) (Or.inl ⟨by kernel_rfl, by intro w' hSw; (try dsimp only at hSw); go_simp⟩) (by assumption) ?_
            go_simp
            refine wpAnyH_done (by kernel_rfl) ?_ _
            go_wp2_with fail
            refine wp_region_held_drew (S := fun V => PsC w W H f (.slice Ad f.data.length cd) bo gq m cq bx X Y n h bp P (.slice (some ⟨gp, 0, none⟩) pn cp) V) (by kernel_rfl) (hS.call (belI_drew _)) (fun hS => ?_)
            replace hOw := ownI_call hOw (belI_drew _)
            refine wpAnyH_take (i := 0) (v := .pointer (some ⟨gq, mm + x, none⟩)) rfl (by kernel_rfl) (by kernel_rfl) (by kernel_rfl) (fun _ _ _ h => h) (Or.inl ⟨by kernel_rfl, by intro w' hSw; (try dsimp only at hSw); go_simp⟩) (by assumption) ?_
            refine wpAnyH_take (i := 1) (v := .agg #[.int .i64 P.w, .int .i64 P.h, .slice (some ⟨gp, 0, none⟩) pn cp]) rfl (by kernel_rfl) (by kernel_rfl) (by kernel_rfl) (fun _ _ _ h => h) (Or.inl ⟨by kernel_rfl, by intro w' hSw; (try dsimp only at hSw); (obtain ⟨i0, i1, i2⟩ := hSw.i.cells); go_simp⟩) (by assumption) ?_
            refine wpAnyH_take (i := 2) (v := .int .i64 (x : Int)) rfl (by kernel_rfl) (by kernel_rfl) (by kernel_rfl) (fun _ _ _ h => h) (Or.inl ⟨by kernel_rfl, by intro w' hSw; (try dsimp only at hSw); go_simp⟩) (by assumption) ?_
            refine wpAnyH_take (i := 3) (v := .pointer (some ⟨w.heap.size, 1, none⟩)) rfl (by kernel_rfl) (by kernel_rfl) (by kernel_rfl) (fun _ _ _ h => h) (Or.inl ⟨by kernel_rfl, by intro w' hSw; (try dsimp only at hSw); go_simp⟩) (by assumption) ?_
            refine wpAnyH_take (i := 4) (v := .int .i64 f.x) rfl (by kernel_rfl) (by kernel_rfl) (by kernel_rfl) (fun _ _ _ h => h) (Or.inl ⟨by kernel_rfl, by intro w' hSw; (try dsimp only at hSw); (have e1 := hSw.s.cell 1 rfl); go_simp⟩) (by assumption) ?_
            refine wpAnyH_take (i := 5) (v := .int .i64 ((x : Int) - f.x)) rfl (by kernel_rfl) (by kernel_rfl) (by kernel_rfl) (fun _ _ _ h => h) (Or.inl ⟨by kernel_rfl, by intro w' hSw; (try dsimp only at hSw); go_simp⟩) (by assumption) ?_
            refine wpAnyH_take (i := 6) (v := .int .i64 (y : Int)) rfl (by kernel_rfl) (by kernel_rfl) (by kernel_rfl) (fun _ _ _ h => h) (Or.inl ⟨by kernel_rfl, by intro w' hSw; (try dsimp only at hSw); go_simp⟩) (by assumption) ?_
            refine wpAnyH_take (i := 7) (v := .pointer (some ⟨w.heap.size, 2, none⟩)) rfl (by kernel_rfl) (by kernel_rfl) (by kernel_rfl) (fun _ _ _ h => h) (Or.inl ⟨by kernel_rfl, by intro w' hSw; (try dsimp only at hSw); go_simp⟩) (by assumption) ?_
            refine wpAnyH_take (i := 8) (v := .int .i64 f.y) rfl (by kernel_rfl) (by kernel_rfl) (by kernel_rfl) (fun _ _ _ h => h) (Or.inl ⟨by kernel_rfl, by intro w' hSw; (try dsimp only at hSw); (have e2 := hSw.s.cell 2 rfl); go_simp⟩) (by assumption) ?_
            refine wpAnyH_take (i := 9) (v := .int .i64 ((y : Int) - f.y)) rfl (by kernel_rfl) (by kernel_rfl) (by kernel_rfl) (fun _ _ _ h => h) (Or.inl ⟨by kernel_rfl, by intro w' hSw; (try dsimp only at hSw); go_simp⟩) (by assumption) ?_
            refine wpAnyH_take (i := 11) (v := .pointer (some ⟨gq, mm + x, none⟩)) rfl (by kernel_rfl) (by kernel_rfl) (by kernel_rfl) (fun _ _ _ h => h) (Or.inl ⟨by kernel_rfl, by intro w' hSw; (try dsimp only at hSw); go_simp⟩) (by assumption) ?_
            refine wpAnyH_take (i := 12) (v := .pointer (some ⟨gq, mm + x, none⟩)) rfl (by kernel_rfl) (by kernel_rfl) (by kernel_rfl) (fun _ _ _ h => h) (Or.inl ⟨by kernel_rfl, by intro w' hSw; (try dsimp only at hSw); go_simp⟩) (by assumption) ?_
            (try simp only [Act.put]); (try simp only [List.setIfInBounds_toArray]); (try simp only [List.set_cons_zero, List.set_cons_succ])
            refine wpAnyH_ready (rs := [10, 13]) (by kernel_rfl) (by simp) ?_
            refine (AllReadyH.cons rfl (fun K hK => ?_) (AllReadyH.cons rfl (fun K hK => ?_) AllReadyH.nil))
            · rw [if_pos (by kernel_rfl)]
              (try simp only [List.getElem_toArray]); (try simp only [List.getElem_cons_succ]); (try simp only [List.getElem_cons_zero])
              go_simp
              with_reducible refine (HX.out _ hS.d).mono ?_
              rintro e W' ⟨rfl, hb⟩
              dsimp only
              have hOw := ownI_call hOw hb
              refine hK.out _ _ (hS.call hb) (fun hS => ?_)
              clear hK
              (try simp only [Act.put]); (try simp only [List.setIfInBounds_toArray]); (try simp only [List.set_cons_zero, List.set_cons_succ])
              refine wpAnyH_ready (rs := [13]) (by kernel_rfl) (by simp) ?_
              refine (AllReadyH.cons rfl (fun K hK => ?_) AllReadyH.nil)
              · rw [if_pos (by kernel_rfl)]
                (try simp only [List.getElem_toArray]); (try simp only [List.getElem_cons_succ]); (try simp only [List.getElem_cons_zero])
                have cS := (HcD.out _ hOw).1
                go_simp
                clear cS
                skip
                refine hK.out _ _ (hS) (fun hS => ?_)
                clear hK
                (try simp only [Act.put]); (try simp only [List.setIfInBounds_toArray]); (try simp only [List.set_cons_zero, List.set_cons_succ])
                refine wpAnyH_ready (rs := [14]) (by kernel_rfl) (by simp) ?_
                refine (AllReadyH.cons rfl (fun K hK => ?_) AllReadyH.nil)
                · rw [if_pos (by kernel_rfl)]
                  (try simp only [List.getElem_toArray]); (try simp only [List.getElem_cons_succ]); (try simp only [List.getElem_cons_zero])
                  go_simp
                  with_reducible refine (overI_any z t _).mono ?_
                  rintro e W' ⟨rfl, hb⟩
                  dsimp only
                  have hOw := ownI_call hOw hb
                  refine hK.out _ _ (hS.call hb) (fun hS => ?_)
                  clear hK
                  (try simp only [Act.put]); (try simp only [List.setIfInBounds_toArray]); (try simp only [List.set_cons_zero, List.set_cons_succ])
                  refine wpAnyH_take (i := 15) (v := .pointer (some ⟨gq, mm + x, none⟩)) rfl (by kernel_rfl) (by kernel_rfl) (by kernel_rfl) (fun _ _ _ h => h) (Or.inl ⟨by kernel_rfl, by intro w' hSw; (try dsimp only at hSw); go_simp⟩) (by assumption) ?_
                  (try simp only [Act.put]); (try simp only [List.setIfInBounds_toArray]); (try simp only [List.set_cons_zero, List.set_cons_succ])
                  refine wpAnyH_ready (rs := [16]) (by kernel_rfl) (by simp) ?_
                  refine (AllReadyH.cons rfl (fun K hK => ?_) AllReadyH.nil)
                  · rw [if_pos (by kernel_rfl)]
                    (try simp only [List.getElem_toArray]); (try simp only [List.getElem_cons_succ]); (try simp only [List.getElem_cons_zero])
                    have cS := (HcD.out _ hOw).1
                    have fS := (HcD.out _ hOw).2
                    go_simp
                    clear cS fS
                    have hOx := (ownI_put hOw (mm + x) (over z t)).1
                    refine hK.out _ _ (hS.set Hne.out (grown_setI _ gq (mm + x) _)) (fun hS => ?_)
                    clear hK
                    (try simp only [Act.put]); (try simp only [List.setIfInBounds_toArray]); (try simp only [List.set_cons_zero, List.set_cons_succ])
                    refine wpAnyH_done (by kernel_rfl) ?_ _
                    go_wp2_with fail
                    go_roundg (X + n - (x + 1))
                    case measure => omega
                    case rel =>
                      have he : ∀ j, (if j = mm + x then over z t else pnS W (pnPx W f.x f.y P) D' X Y n y x j) = pnS W (pnPx W f.x f.y P) D' X Y n y (x + 1) j := fun j => by rw [Hmm.out]; exact pnS_set W (pnPx W f.x f.y P) D' X Y n y x j Hxy.out.1 hx1 hxl hy1 (by rw [Hz.out, Ht.out, Hmm.out])
                      rw [tabI_set, tabI_congr m (fun j _ => he j)] at hOx
                      exact ⟨x + 1, _, rfl, by omega, by omega, rfl, by go_num, Lib.hid hS, Lib.hid hOx⟩
            · rw [if_pos (by kernel_rfl)]
              (try simp only [List.getElem_toArray]); (try simp only [List.getElem_cons_succ]); (try simp only [List.getElem_cons_zero])
              have cS := (HcD.out _ hOw).1
              go_simp
              clear cS
              skip
              refine hK.out _ _ (hS) (fun hS => ?_)
              clear hK
              (try simp only [Act.put]); (try simp only [List.setIfInBounds_toArray]); (try simp only [List.set_cons_zero, List.set_cons_succ])
              refine wpAnyH_ready (rs := [10]) (by kernel_rfl) (by simp) ?_
              refine (AllReadyH.cons rfl (fun K hK => ?_) AllReadyH.nil)
              · rw [if_pos (by kernel_rfl)]
                (try simp only [List.getElem_toArray]); (try simp only [List.getElem_cons_succ]); (try simp only [List.getElem_cons_zero])
                go_simp
                with_reducible refine (HX.out _ hS.d).mono ?_
                rintro e W' ⟨rfl, hb⟩
                dsimp only
                have hOw := ownI_call hOw hb
                refine hK.out _ _ (hS.call hb) (fun hS => ?_)
                clear hK
                (try simp only [Act.put]); (try simp only [List.setIfInBounds_toArray]); (try simp only [List.set_cons_zero, List.set_cons_succ])
                refine wpAnyH_ready (rs := [14]) (by kernel_rfl) (by simp) ?_
                refine (AllReadyH.cons rfl (fun K hK => ?_) AllReadyH.nil)
                · rw [if_pos (by kernel_rfl)]
                  (try simp only [List.getElem_toArray]); (try simp only [List.getElem_cons_succ]); (try simp only [List.getElem_cons_zero])
                  go_simp
                  with_reducible refine (overI_any z t _).mono ?_
                  rintro e W' ⟨rfl, hb⟩
                  dsimp only
                  have hOw := ownI_call hOw hb
                  refine hK.out _ _ (hS.call hb) (fun hS => ?_)
                  clear hK
                  (try simp only [Act.put]); (try simp only [List.setIfInBounds_toArray]); (try simp only [List.set_cons_zero, List.set_cons_succ])
                  refine wpAnyH_take (i := 15) (v := .pointer (some ⟨gq, mm + x, none⟩)) rfl (by kernel_rfl) (by kernel_rfl) (by kernel_rfl) (fun _ _ _ h => h) (Or.inl ⟨by kernel_rfl, by intro w' hSw; (try dsimp only at hSw); go_simp⟩) (by assumption) ?_
                  (try simp only [Act.put]); (try simp only [List.setIfInBounds_toArray]); (try simp only [List.set_cons_zero, List.set_cons_succ])
                  refine wpAnyH_ready (rs := [16]) (by kernel_rfl) (by simp) ?_
                  refine (AllReadyH.cons rfl (fun K hK => ?_) AllReadyH.nil)
                  · rw [if_pos (by kernel_rfl)]
                    (try simp only [List.getElem_toArray]); (try simp only [List.getElem_cons_succ]); (try simp only [List.getElem_cons_zero])
                    have cS := (HcD.out _ hOw).1
                    have fS := (HcD.out _ hOw).2
                    go_simp
                    clear cS fS
                    have hOx := (ownI_put hOw (mm + x) (over z t)).1
                    refine hK.out _ _ (hS.set Hne.out (grown_setI _ gq (mm + x) _)) (fun hS => ?_)
                    clear hK
                    (try simp only [Act.put]); (try simp only [List.setIfInBounds_toArray]); (try simp only [List.set_cons_zero, List.set_cons_succ])
                    refine wpAnyH_done (by kernel_rfl) ?_ _
                    go_wp2_with fail
                    go_roundg (X + n - (x + 1))
                    case measure => omega
                    case rel =>
                      have he : ∀ j, (if j = mm + x then over z t else pnS W (pnPx W f.x f.y P) D' X Y n y x j) = pnS W (pnPx W f.x f.y P) D' X Y n y (x + 1) j := fun j => by rw [Hmm.out]; exact pnS_set W (pnPx W f.x f.y P) D' X Y n y x j Hxy.out.1 hx1 hxl hy1 (by rw [Hz.out, Ht.out, Hmm.out])
                      rw [tabI_set, tabI_congr m (fun j _ => he j)] at hOx
                      exact ⟨x + 1, _, rfl, by omega, by omega, rfl, by go_num, Lib.hid hS, Lib.hid hOx⟩
          · obtain rfl : x = X + n := by omega
            have hxi : ¬ ((X + n : Nat) : Int) < (X : Int) + (n : Int) := by omega
            go_wp2_with fail
            go_roundg (Y + h - (y + 1))
            case measure => omega
            case rel =>
              refine ⟨y + 1, _, rfl, by omega, by omega, rfl, by go_num, Hcc2, ?_⟩
              rw [← tabI_congr m (fun j _ => pnS_row W (pnPx W f.x f.y P) D' X Y n y j)]
              exact HOO2
      · obtain rfl : y = Y + h := by omega
        have hyi : ¬ ((Y + h : Nat) : Int) < (Y : Int) + (h : Int) := by omega
        clear x0 x1 x2 x3
        go_wp2_with fail
        refine bodyPost_end (v := .tuple #[]) (by simp [results, Tryz.results74, go_sem]) rfl ⟨rfl, Hcc2.out.gr, ?_⟩
        rw [HDl.out, ← tabI_congr m (fun j hj => pnS_end W H f D' X Y n h j (by rw [← HmW.out]; exact hj) (by have := HJ.out; rwa [Hr.out] at this)), ← HPf.out]
        exact HOO2.out
end Go.Proofs.YtjjamdibgjeokaaGreat
