/- The contracts of correction, its closure, ColorPixel, of the program and of its model. No statement is proved here. -/
import Derived.Test.YtaggldhlnjbnhaaBase
import Derived.Test.YtaggldhlnjbnhaaRd
import Derived.Test.YtaggldhlnjbnhaaIntR
import Derived.Test.YtaggldhlnjbnhaaImR
import Derived.Test.YtaggldhlnjbnhaaRectC
import Derived.Test.YtaggldhlnjbnhaaPixM
import Derived.Test.YtaggldhlnjbnhaaImV
import Derived.Test.YtaggldhlnjbnhaaBlk4
import Derived.Test.YtaggldhlnjbnhaaRectEq
import Derived.Test.YtaggldhlnjbnhaaPixI
import Derived.Test.YtaggldhlnjbnhaaPixA
import Derived.Test.YtaggldhlnjbnhaaBk
import Derived.Test.YtaggldhlnjbnhaaHasC
import Derived.Test.YtaggldhlnjbnhaaRegM
import Derived.Test.YtaggldhlnjbnhaaRds
import Derived.Test.YtaggldhlnjbnhaaCpyB
import Derived.Test.YtaggldhlnjbnhaaColM
import Derived.Test.YtaggldhlnjbnhaaCmB
import Derived.Test.YtaggldhlnjbnhaaCmF
import Derived.Test.YtaggldhlnjbnhaaProg
import Derived.WalkKit
import Derived.ProofKit
import Derived.OpenShut
import Derived.WalkLawsBesides
import Derived.WalkSpells
import Derived.ShutString
import Derived.ChangeOld
import Derived.Below
import Derived.Lib.Hide
import Derived.BigQuiet
import Derived.Deep.QuietTactic
import Derived.Maps.AppendAt
import Derived.Deep.OwnRows
import Derived.Handy
import Derived.Deep.Draws
import Derived.OwnWalk
import Derived.Deep.AppendLies
import Derived.Deep.LoopGhost
import Derived.Deep.Onto
import Derived.Laws.BitsAllLaws
import Derived.Lib.QuoteBits
import Derived.Test.YtaggldhlnjbnhaaShelf
import Derived.Laws.CopyOwn
import Derived.Deep.RegionLaw
import Derived.Deep.RegionHeld3
import Derived.Deep.DeepCutAuto
import Derived.Great.BuildSlice
import Derived.Deep.MidRow
import Derived.Deep.WholeRow
import Derived.Laws.AppendOwn
import Derived.ChangeKeysEq
namespace Go.Proofs.Ytaggldhlnjbnhaa
open Go.RowKit
theorem CmB.grown {b : Nat} {u v : Value} {M C : List Int} {W W' : World} {row : Option Nat} (h : CmB b u v M C W) (hg : W.grownBy W' row) (h1 : some b ≠ row) (h2 : ∀ k, u.ownBlock = some k → some k ≠ row) (h3 : ∀ k, v.ownBlock = some k → some k ≠ row) : CmB b u v M C W' :=
  ⟨h.at_.grown hg h1, h.rm.grown hg h2, h.rc.grown hg h3⟩
theorem rd_lt {w : World} {u : Value} {L : List Int} (h : RdI w u L) (h0 : 0 < L.length) : ∀ k, u.ownBlock = some k → k < w.heap.size := by
  obtain ⟨gm, c, rfl, hl, _⟩ := rd_block h h0
  intro k hk
  have e : gm = k := by simpa [Value.ownBlock] using hk
  omega
/-- What the program reads while it corrects a channel. -/
structure CoS (w : World) (b g : Nat) (u v : Value) (M C : List Int) (c0 c1 c2 c3 : Int) (V : World) : Prop where
  cm : CmB b u v M C V
  un : ChAt V g c0 c1 c2 c3
  bw : Below w.heap.size w V
theorem CoS.call {w : World} {b g : Nat} {u v : Value} {M C : List Int} {c0 c1 c2 c3 : Int} {V V' : World} (h : CoS w b g u v M C c0 c1 c2 c3 V) (hb : Below V.heap.size V V') : CoS w b g u v M C c0 c1 c2 c3 V' := ⟨h.cm.call hb, h.un.call hb, belI_call h.bw hb⟩
theorem CoS.drew {w : World} {b g : Nat} {u v : Value} {M C : List Int} {c0 c1 c2 c3 : Int} {V : World} (h : CoS w b g u v M C c0 c1 c2 c3 V) : CoS w b g u v M C c0 c1 c2 c3 V.drew := h.call (belI_drew _)
theorem CoS.set {w : World} {b g : Nat} {u v : Value} {M C : List Int} {c0 c1 c2 c3 : Int} {V V' : World} (h : CoS w b g u v M C c0 c1 c2 c3 V) (hn : w.heap.size ≤ g ∧ b < g ∧ (∀ k, u.ownBlock = some k → k < g) ∧ ∀ k, v.ownBlock = some k → k < g) (hg : V.grownBy V' (some (g + 1))) : CoS w b g u v M C c0 c1 c2 c3 V' :=
  ⟨h.cm.grown hg (fun e => by injection e with e; omega) (fun k hk e => by have := hn.2.2.1 k hk; injection e with e; omega) (fun k hk e => by have := hn.2.2.2 k hk; injection e with e; omega), (hg.block _ h.un.lt (fun e => by injection e with e; omega)).trans h.un, h.bw.grown hg h.bw.size (fun k hk => by injection hk with hk; omega)⟩
theorem corrI (u v : Value) (w : World) :
    Calls Try.prog 68 #[.agg #[u, v]] w fun e w' => e = .returned (.func (.func 88) #[] #[.pointer (some ⟨w.heap.size, 0, none⟩)]) ∧ w' = w.alloc (.cells #[u, v] 49) := by
  have hmf : ∀ (fn : Fn) (first cap : Array Value) (w : World), (Instr.makeFunc fn first cap).run Try.prog w = .ok (.func fn first cap) w := fun _ _ _ _ => rfl
  go_enter Try.func68, Try.ntmps68
  go_wp2_with fail
  go_ret
  exact ⟨rfl, rfl⟩
set_option maxHeartbeats 2000000 in
set_option maxRecDepth 10000 in
theorem cloI (b : Nat) (u v : Value) (M C : List Int) (p : Int) (w : World) (hok : colOk M C) (hp : pixOk p) (hB : CmB b u v M C w) :
    Calls Try.prog 88 #[.int .i64 p, .pointer (some ⟨b, 0, none⟩)] w fun e w' => e = .returned (.int .i64 (corK M C p)) ∧ Below w.heap.size w w' := by
  obtain ⟨c0, h0⟩ : ∃ x, x = p / 16777216 := ⟨_, rfl⟩
  obtain ⟨c1, h1⟩ : ∃ x, x = p / 65536 % 256 := ⟨_, rfl⟩
  obtain ⟨c2, h2⟩ : ∃ x, x = p / 256 % 256 := ⟨_, rfl⟩
  obtain ⟨c3, h3⟩ : ∃ x, x = p % 256 := ⟨_, rfl⟩
  have HU := Lib.hid (unpackedI p hp)
  have k0 : chOk c0 := by rw [h0]; exact ch_0 hp
  have k1 : chOk c1 := by rw [h1]; exact ch_1 p
  have k2 : chOk c2 := by rw [h2]; exact ch_2 p
  have k3 : chOk c3 := by rw [h3]; exact ch_3 p
  have HK : Hid (corK M C p = pack4 c0 (curV C (mixV M 0 c1 c2 c3).toNat) (curV C (mixV M 1 c1 c2 c3).toNat) (curV C (mixV M 2 c1 c2 c3).toNat)) := by unfold corK corC; rw [← h0, ← h1, ← h2, ← h3]; exact rfl
  rw [← h0, ← h1, ← h2, ← h3] at HU
  obtain ⟨m0, hm0⟩ : ∃ m : Nat, m = (mixV M 0 c1 c2 c3).toNat := ⟨_, rfl⟩
  have hx0 := mix_ch M 0 c1 c2 c3
  have hy0 : m0 ≤ 255 ∧ mixV M 0 c1 c2 c3 = (m0 : Int) := by unfold chOk at hx0; omega
  have HM0 := fun (W : World) (h : RdI W u M) => mixedI u v M C 0 c0 c1 c2 c3 W hok (by omega) k1 k2 k3 h
  have HC0 := fun (W : World) (h : RdI W v C) => curvedI u v M C m0 W hok hy0.1 h
  have kq0 := cur_ch hok hy0.1
  obtain ⟨q0, hq0⟩ : ∃ q, q = curV C m0 := ⟨_, rfl⟩
  rw [hy0.2, show ((0 : Nat) : Int) = 0 from rfl] at HM0
  rw [← hq0] at HC0 kq0
  rw [← hm0, ← hq0] at HK
  replace HM0 := Lib.hid HM0
  replace HC0 := Lib.hid HC0
  have Hq0 := Lib.hid kq0
  obtain ⟨m1, hm1⟩ : ∃ m : Nat, m = (mixV M 1 c1 c2 c3).toNat := ⟨_, rfl⟩
  have hx1 := mix_ch M 1 c1 c2 c3
  have hy1 : m1 ≤ 255 ∧ mixV M 1 c1 c2 c3 = (m1 : Int) := by unfold chOk at hx1; omega
  have HM1 := fun (W : World) (h : RdI W u M) => mixedI u v M C 1 c0 c1 c2 c3 W hok (by omega) k1 k2 k3 h
  have HC1 := fun (W : World) (h : RdI W v C) => curvedI u v M C m1 W hok hy1.1 h
  have kq1 := cur_ch hok hy1.1
  obtain ⟨q1, hq1⟩ : ∃ q, q = curV C m1 := ⟨_, rfl⟩
  rw [hy1.2, show ((1 : Nat) : Int) = 1 from rfl] at HM1
  rw [← hq1] at HC1 kq1
  rw [← hm1, ← hq1] at HK
  replace HM1 := Lib.hid HM1
  replace HC1 := Lib.hid HC1
  have Hq1 := Lib.hid kq1
  obtain ⟨m2, hm2⟩ : ∃ m : Nat, m = (mixV M 2 c1 c2 c3).toNat := ⟨_, rfl⟩
  have hx2 := mix_ch M 2 c1 c2 c3
  have hy2 : m2 ≤ 255 ∧ mixV M 2 c1 c2 c3 = (m2 : Int) := by unfold chOk at hx2; omega
  have HM2 := fun (W : World) (h : RdI W u M) => mixedI u v M C 2 c0 c1 c2 c3 W hok (by omega) k1 k2 k3 h
  have HC2 := fun (W : World) (h : RdI W v C) => curvedI u v M C m2 W hok hy2.1 h
  have kq2 := cur_ch hok hy2.1
  obtain ⟨q2, hq2⟩ : ∃ q, q = curV C m2 := ⟨_, rfl⟩
  rw [hy2.2, show ((2 : Nat) : Int) = 2 from rfl] at HM2
  rw [← hq2] at HC2 kq2
  rw [← hm2, ← hq2] at HK
  replace HM2 := Lib.hid HM2
  replace HC2 := Lib.hid HC2
  have Hq2 := Lib.hid kq2
  have Hk0 := Lib.hid k0
  have hsep0 := Lib.hid (show (∀ k, u.ownBlock = some k → k < w.heap.size) ∧ ∀ k, v.ownBlock = some k → k < w.heap.size from ⟨rd_lt hB.rm (by rw [hok.1]; decide), rd_lt hB.rc (by rw [hok.2.1]; decide)⟩)
  have hbl := hB.lt
  clear h0 h1 h2 h3 k0 k1 k2 k3 hm0 hm1 hm2 hx0 hx1 hx2 hy0 hy1 hy2 hq0 hq1 hq2 kq0 kq1 kq2 hok hp
  go_enter Try.func88, Try.ntmps88
  go_wp2_with fail
  refine (HU.out _).mono ?_
  rintro e w1 ⟨rfl, hb⟩
  have HB := Lib.hid (hB.call hb)
  have Hb := Lib.hid hb
  clear hB hb
  obtain ⟨g, hg⟩ : ∃ g, g = w1.heap.size := ⟨_, rfl⟩
  have Hg := Lib.hid hg
  have hsep : w.heap.size ≤ g ∧ b < g ∧ (∀ k, u.ownBlock = some k → k < g) ∧ ∀ k, v.ownBlock = some k → k < g := by
    rw [hg]
    exact ⟨Hb.out.size, Nat.lt_of_lt_of_le hbl Hb.out.size, fun k hk => Nat.lt_of_lt_of_le (hsep0.out.1 k hk) Hb.out.size, fun k hk => Nat.lt_of_lt_of_le (hsep0.out.2 k hk) Hb.out.size⟩
  have Hsep := Lib.hid hsep
  go_wp2_with fail
  rw [← hg]
  clear hsep hbl hsep0
  go_loopw [10] (fun i wr => ∃ (k : Nat) (x1 x2 x3 : Int), k ≤ 3 ∧ i = .int .i64 k ∧ Hid (x1 = (if 0 < k then q0 else c1) ∧ x2 = (if 1 < k then q1 else c2) ∧ x3 = (if 2 < k then q2 else c3)) ∧
    ChAt wr g c0 c1 c2 c3 ∧ ChAt wr (g + 1) c0 x1 x2 x3 ∧ CmB b u v M C wr ∧ Below w.heap.size w wr) (fun i _ => 3 - (intOf i).toNat)
  case atStart => exact ⟨0, c1, c2, c3, by omega, rfl, ⟨rfl, rfl, rfl⟩, (ChAt.newAt hg.symm c0 c1 c2 c3).alloc _, ChAt.newAt (by simp [hg]) c0 c1 c2 c3, (HB.out.call (belI_box _ _)).call (belI_box _ _), belI_call (belI_call Hb.out (belI_box _ _)) (belI_box _ _)⟩
  case round =>
    obtain ⟨k, x1, x2, x3, hk, rfl, Hc, hun, hcor, hcm, hbw⟩ := hrel
    have hsep := Hsep.out
    have hT : CoS w b g u v M C c0 c1 c2 c3 wr := ⟨hcm, hun, hbw⟩
    clear hg
    obtain rfl | rfl | rfl | rfl : k = 0 ∨ k = 1 ∨ k = 2 ∨ k = 3 := by omega
    · obtain ⟨y1, y2, y3⟩ : x1 = c1 ∧ x2 = c2 ∧ x3 = c3 := by simpa using Hc.out
      subst x1 x2 x3
      go_upto_region 6 with fail
      clear hun hcm hbw Hc
      have wk1 : IntKind.i64.wrap 1 = 1 := by rfl
      refine wp_region_held_drew (S := fun V => CoS w b g u v M C c0 c1 c2 c3 V) (by kernel_rfl) hT.drew (fun hS => ?_)
      replace hcor := hcor.drew
      refine wpAnyH_take (i := 0) (v := .int .i64 0) rfl (by kernel_rfl) (by kernel_rfl) (by kernel_rfl) (fun _ _ _ h => h) (Or.inl ⟨by kernel_rfl, by intro w' hSw; (try dsimp only at hSw); (obtain ⟨a0, a1⟩ := hSw.cm.cells); (obtain ⟨o0, o1, o2, o3⟩ := hSw.un.cells); go_simp⟩) (by assumption) ?_
      refine wpAnyH_take (i := 1) (v := .int .i64 1) rfl (by kernel_rfl) (by kernel_rfl) (by kernel_rfl) (fun _ _ _ h => h) (Or.inl ⟨by kernel_rfl, by intro w' hSw; (try dsimp only at hSw); (obtain ⟨a0, a1⟩ := hSw.cm.cells); (obtain ⟨o0, o1, o2, o3⟩ := hSw.un.cells); go_simp⟩) (by assumption) ?_
      refine wpAnyH_take (i := 2) (v := .agg #[u, v]) rfl (by kernel_rfl) (by kernel_rfl) (by kernel_rfl) (fun _ _ _ h => h) (Or.inl ⟨by kernel_rfl, by intro w' hSw; (try dsimp only at hSw); (obtain ⟨a0, a1⟩ := hSw.cm.cells); (obtain ⟨o0, o1, o2, o3⟩ := hSw.un.cells); go_simp⟩) (by assumption) ?_
      refine wpAnyH_take (i := 3) (v := .agg #[u, v]) rfl (by kernel_rfl) (by kernel_rfl) (by kernel_rfl) (fun _ _ _ h => h) (Or.inl ⟨by kernel_rfl, by intro w' hSw; (try dsimp only at hSw); (obtain ⟨a0, a1⟩ := hSw.cm.cells); (obtain ⟨o0, o1, o2, o3⟩ := hSw.un.cells); go_simp⟩) (by assumption) ?_
      refine wpAnyH_take (i := 4) (v := .int .i64 0) rfl (by kernel_rfl) (by kernel_rfl) (by kernel_rfl) (fun _ _ _ h => h) (Or.inl ⟨by kernel_rfl, by intro w' hSw; (try dsimp only at hSw); (obtain ⟨a0, a1⟩ := hSw.cm.cells); (obtain ⟨o0, o1, o2, o3⟩ := hSw.un.cells); go_simp⟩) (by assumption) ?_
      refine wpAnyH_take (i := 5) (v := .agg #[.int .i64 c0, .int .i64 c1, .int .i64 c2, .int .i64 c3]) rfl (by kernel_rfl) (by kernel_rfl) (by kernel_rfl) (fun _ _ _ h => h) (Or.inl ⟨by kernel_rfl, by intro w' hSw; (try dsimp only at hSw); (obtain ⟨a0, a1⟩ := hSw.cm.cells); (obtain ⟨o0, o1, o2, o3⟩ := hSw.un.cells); go_simp⟩) (by assumption) ?_
      (try simp only [Act.put]); (try simp only [List.setIfInBounds_toArray]); (try simp only [List.set_cons_zero, List.set_cons_succ])
      refine wpAnyH_ready (rs := [6]) (by kernel_rfl) (by simp) ?_
      refine (AllReadyH.cons rfl (fun K hK => ?_) AllReadyH.nil)
      · rw [if_pos (by kernel_rfl)]
        (try simp only [List.getElem_toArray]); (try simp only [List.getElem_cons_succ]); (try simp only [List.getElem_cons_zero])
        go_simp
        with_reducible refine (HM0.out _ hS.cm.rm).mono ?_
        rintro e W' ⟨rfl, hb⟩
        dsimp only
        have hcor := hcor.call hb
        refine hK.out _ _ (hS.call hb) (fun hS => ?_)
        clear hK
        (try simp only [Act.put]); (try simp only [List.setIfInBounds_toArray]); (try simp only [List.set_cons_zero, List.set_cons_succ])
        refine wpAnyH_ready (rs := [7]) (by kernel_rfl) (by simp) ?_
        refine (AllReadyH.cons rfl (fun K hK => ?_) AllReadyH.nil)
        · rw [if_pos (by kernel_rfl)]
          (try simp only [List.getElem_toArray]); (try simp only [List.getElem_cons_succ]); (try simp only [List.getElem_cons_zero])
          go_simp
          with_reducible refine (HC0.out _ hS.cm.rc).mono ?_
          rintro e W' ⟨rfl, hb⟩
          dsimp only
          have cS := (hcor.call hb).cells.2.1
          have fS := (hcor.call hb).frozen 1
          have hcor := hcor.call hb
          refine hK.out _ _ (hS.call hb) (fun hS => ?_)
          clear hK
          (try simp only [Act.put]); (try simp only [List.setIfInBounds_toArray]); (try simp only [List.set_cons_zero, List.set_cons_succ])
          refine wpAnyH_take (i := 8) (v := .pointer (some ⟨g + 1, 1, none⟩)) rfl (by kernel_rfl) (by kernel_rfl) (by kernel_rfl) (fun _ _ _ h => h) (Or.inl ⟨by kernel_rfl, by intro w' hSw; (try dsimp only at hSw); (obtain ⟨a0, a1⟩ := hSw.cm.cells); (obtain ⟨o0, o1, o2, o3⟩ := hSw.un.cells); go_simp⟩) (by assumption) ?_
          (try simp only [Act.put]); (try simp only [List.setIfInBounds_toArray]); (try simp only [List.set_cons_zero, List.set_cons_succ])
          refine wpAnyH_ready (rs := [9]) (by kernel_rfl) (by simp) ?_
          refine (AllReadyH.cons rfl (fun K hK => ?_) AllReadyH.nil)
          · rw [if_pos (by kernel_rfl)]
            (try simp only [List.getElem_toArray]); (try simp only [List.getElem_cons_succ]); (try simp only [List.getElem_cons_zero])
            go_simp
            skip
            refine hK.out _ _ (hS.set hsep (grown_setI _ (g + 1) 1 _)) (fun hS => ?_)
            clear hK
            (try simp only [Act.put]); (try simp only [List.setIfInBounds_toArray]); (try simp only [List.set_cons_zero, List.set_cons_succ])
            refine wpAnyH_done (by kernel_rfl) ?_ _
            go_wp2_with fail
            go_roundw
            case rel => exact ⟨1, _, _, _, by omega, rfl, Lib.hid ⟨rfl, rfl, rfl⟩, hS.un, hcor.set1 _, hS.cm, hS.bw⟩
            case measure => simp [intOf]
    · obtain ⟨y1, y2, y3⟩ : x1 = q0 ∧ x2 = c2 ∧ x3 = c3 := by simpa using Hc.out
      subst x1 x2 x3
      go_upto_region 6 with fail
      clear hun hcm hbw Hc
      have wk1 : IntKind.i64.wrap 2 = 2 := by rfl
      refine wp_region_held_drew (S := fun V => CoS w b g u v M C c0 c1 c2 c3 V) (by kernel_rfl) hT.drew (fun hS => ?_)
      replace hcor := hcor.drew
      refine wpAnyH_take (i := 0) (v := .int .i64 1) rfl (by kernel_rfl) (by kernel_rfl) (by kernel_rfl) (fun _ _ _ h => h) (Or.inl ⟨by kernel_rfl, by intro w' hSw; (try dsimp only at hSw); (obtain ⟨a0, a1⟩ := hSw.cm.cells); (obtain ⟨o0, o1, o2, o3⟩ := hSw.un.cells); go_simp⟩) (by assumption) ?_
      refine wpAnyH_take (i := 1) (v := .int .i64 2) rfl (by kernel_rfl) (by kernel_rfl) (by kernel_rfl) (fun _ _ _ h => h) (Or.inl ⟨by kernel_rfl, by intro w' hSw; (try dsimp only at hSw); (obtain ⟨a0, a1⟩ := hSw.cm.cells); (obtain ⟨o0, o1, o2, o3⟩ := hSw.un.cells); go_simp⟩) (by assumption) ?_
      refine wpAnyH_take (i := 2) (v := .agg #[u, v]) rfl (by kernel_rfl) (by kernel_rfl) (by kernel_rfl) (fun _ _ _ h => h) (Or.inl ⟨by kernel_rfl, by intro w' hSw; (try dsimp only at hSw); (obtain ⟨a0, a1⟩ := hSw.cm.cells); (obtain ⟨o0, o1, o2, o3⟩ := hSw.un.cells); go_simp⟩) (by assumption) ?_
      refine wpAnyH_take (i := 3) (v := .agg #[u, v]) rfl (by kernel_rfl) (by kernel_rfl) (by kernel_rfl) (fun _ _ _ h => h) (Or.inl ⟨by kernel_rfl, by intro w' hSw; (try dsimp only at hSw); (obtain ⟨a0, a1⟩ := hSw.cm.cells); (obtain ⟨o0, o1, o2, o3⟩ := hSw.un.cells); go_simp⟩) (by assumption) ?_
      refine wpAnyH_take (i := 4) (v := .int .i64 1) rfl (by kernel_rfl) (by kernel_rfl) (by kernel_rfl) (fun _ _ _ h => h) (Or.inl ⟨by kernel_rfl, by intro w' hSw; (try dsimp only at hSw); (obtain ⟨a0, a1⟩ := hSw.cm.cells); (obtain ⟨o0, o1, o2, o3⟩ := hSw.un.cells); go_simp⟩) (by assumption) ?_
      refine wpAnyH_take (i := 5) (v := .agg #[.int .i64 c0, .int .i64 c1, .int .i64 c2, .int .i64 c3]) rfl (by kernel_rfl) (by kernel_rfl) (by kernel_rfl) (fun _ _ _ h => h) (Or.inl ⟨by kernel_rfl, by intro w' hSw; (try dsimp only at hSw); (obtain ⟨a0, a1⟩ := hSw.cm.cells); (obtain ⟨o0, o1, o2, o3⟩ := hSw.un.cells); go_simp⟩) (by assumption) ?_
      (try simp only [Act.put]); (try simp only [List.setIfInBounds_toArray]); (try simp only [List.set_cons_zero, List.set_cons_succ])
      refine wpAnyH_ready (rs := [6]) (by kernel_rfl) (by simp) ?_
      refine (AllReadyH.cons rfl (fun K hK => ?_) AllReadyH.nil)
      · rw [if_pos (by kernel_rfl)]
        (try simp only [List.getElem_toArray]); (try simp only [List.getElem_cons_succ]); (try simp only [List.getElem_cons_zero])
        go_simp
        with_reducible refine (HM1.out _ hS.cm.rm).mono ?_
        rintro e W' ⟨rfl, hb⟩
        dsimp only
        have hcor := hcor.call hb
        refine hK.out _ _ (hS.call hb) (fun hS => ?_)
        clear hK
        (try simp only [Act.put]); (try simp only [List.setIfInBounds_toArray]); (try simp only [List.set_cons_zero, List.set_cons_succ])
        refine wpAnyH_ready (rs := [7]) (by kernel_rfl) (by simp) ?_
        refine (AllReadyH.cons rfl (fun K hK => ?_) AllReadyH.nil)
        · rw [if_pos (by kernel_rfl)]
          (try simp only [List.getElem_toArray]); (try simp only [List.getElem_cons_succ]); (try simp only [List.getElem_cons_zero])
          go_simp
          with_reducible refine (HC1.out _ hS.cm.rc).mono ?_
          rintro e W' ⟨rfl, hb⟩
          dsimp only
          have cS := (hcor.call hb).cells.2.2.1
          have fS := (hcor.call hb).frozen 2
          have hcor := hcor.call hb
          refine hK.out _ _ (hS.call hb) (fun hS => ?_)
          clear hK
          (try simp only [Act.put]); (try simp only [List.setIfInBounds_toArray]); (try simp only [List.set_cons_zero, List.set_cons_succ])
          refine wpAnyH_take (i := 8) (v := .pointer (some ⟨g + 1, 2, none⟩)) rfl (by kernel_rfl) (by kernel_rfl) (by kernel_rfl) (fun _ _ _ h => h) (Or.inl ⟨by kernel_rfl, by intro w' hSw; (try dsimp only at hSw); (obtain ⟨a0, a1⟩ := hSw.cm.cells); (obtain ⟨o0, o1, o2, o3⟩ := hSw.un.cells); go_simp⟩) (by assumption) ?_
          (try simp only [Act.put]); (try simp only [List.setIfInBounds_toArray]); (try simp only [List.set_cons_zero, List.set_cons_succ])
          refine wpAnyH_ready (rs := [9]) (by kernel_rfl) (by simp) ?_
          refine (AllReadyH.cons rfl (fun K hK => ?_) AllReadyH.nil)
          · rw [if_pos (by kernel_rfl)]
            (try simp only [List.getElem_toArray]); (try simp only [List.getElem_cons_succ]); (try simp only [List.getElem_cons_zero])
            go_simp
            skip
            refine hK.out _ _ (hS.set hsep (grown_setI _ (g + 1) 2 _)) (fun hS => ?_)
            clear hK
            (try simp only [Act.put]); (try simp only [List.setIfInBounds_toArray]); (try simp only [List.set_cons_zero, List.set_cons_succ])
            refine wpAnyH_done (by kernel_rfl) ?_ _
            go_wp2_with fail
            go_roundw
            case rel => exact ⟨2, _, _, _, by omega, rfl, Lib.hid ⟨rfl, rfl, rfl⟩, hS.un, hcor.set2 _, hS.cm, hS.bw⟩
            case measure => simp [intOf]
    · obtain ⟨y1, y2, y3⟩ : x1 = q0 ∧ x2 = q1 ∧ x3 = c3 := by simpa using Hc.out
      subst x1 x2 x3
      go_upto_region 6 with fail
      clear hun hcm hbw Hc
      have wk1 : IntKind.i64.wrap 3 = 3 := by rfl
      refine wp_region_held_drew (S := fun V => CoS w b g u v M C c0 c1 c2 c3 V) (by kernel_rfl) hT.drew (fun hS => ?_)
      replace hcor := hcor.drew
      refine wpAnyH_take (i := 0) (v := .int .i64 2) rfl (by kernel_rfl) (by kernel_rfl) (by kernel_rfl) (fun _ _ _ h => h) (Or.inl ⟨by kernel_rfl, by intro w' hSw; (try dsimp only at hSw); (obtain ⟨a0, a1⟩ := hSw.cm.cells); (obtain ⟨o0, o1, o2, o3⟩ := hSw.un.cells); go_simp⟩) (by assumption) ?_
      refine wpAnyH_take (i := 1) (v := .int .i64 3) rfl (by kernel_rfl) (by kernel_rfl) (by kernel_rfl) (fun _ _ _ h => h) (Or.inl ⟨by kernel_rfl, by intro w' hSw; (try dsimp only at hSw); (obtain ⟨a0, a1⟩ := hSw.cm.cells); (obtain ⟨o0, o1, o2, o3⟩ := hSw.un.cells); go_simp⟩) (by assumption) ?_
      refine wpAnyH_take (i := 2) (v := .agg #[u, v]) rfl (by kernel_rfl) (by kernel_rfl) (by kernel_rfl) (fun _ _ _ h => h) (Or.inl ⟨by kernel_rfl, by intro w' hSw; (try dsimp only at hSw); (obtain ⟨a0, a1⟩ := hSw.cm.cells); (obtain ⟨o0, o1, o2, o3⟩ := hSw.un.cells); go_simp⟩) (by assumption) ?_
      refine wpAnyH_take (i := 3) (v := .agg #[u, v]) rfl (by kernel_rfl) (by kernel_rfl) (by kernel_rfl) (fun _ _ _ h => h) (Or.inl ⟨by kernel_rfl, by intro w' hSw; (try dsimp only at hSw); (obtain ⟨a0, a1⟩ := hSw.cm.cells); (obtain ⟨o0, o1, o2, o3⟩ := hSw.un.cells); go_simp⟩) (by assumption) ?_
      refine wpAnyH_take (i := 4) (v := .int .i64 2) rfl (by kernel_rfl) (by kernel_rfl) (by kernel_rfl) (fun _ _ _ h => h) (Or.inl ⟨by kernel_rfl, by intro w' hSw; (try dsimp only at hSw); (obtain ⟨a0, a1⟩ := hSw.cm.cells); (obtain ⟨o0, o1, o2, o3⟩ := hSw.un.cells); go_simp⟩) (by assumption) ?_
      refine wpAnyH_take (i := 5) (v := .agg #[.int .i64 c0, .int .i64 c1, .int .i64 c2, .int .i64 c3]) rfl (by kernel_rfl) (by kernel_rfl) (by kernel_rfl) (fun _ _ _ h => h) (Or.inl ⟨by kernel_rfl, by intro w' hSw; (try dsimp only at hSw); (obtain ⟨a0, a1⟩ := hSw.cm.cells); (obtain ⟨o0, o1, o2, o3⟩ := hSw.un.cells); go_simp⟩) (by assumption) ?_
      (try simp only [Act.put]); (try simp only [List.setIfInBounds_toArray]); (try simp only [List.set_cons_zero, List.set_cons_succ])
      refine wpAnyH_ready (rs := [6]) (by kernel_rfl) (by simp) ?_
      refine (AllReadyH.cons rfl (fun K hK => ?_) AllReadyH.nil)
      · rw [if_pos (by kernel_rfl)]
        (try simp only [List.getElem_toArray]); (try simp only [List.getElem_cons_succ]); (try simp only [List.getElem_cons_zero])
        go_simp
        with_reducible refine (HM2.out _ hS.cm.rm).mono ?_
        rintro e W' ⟨rfl, hb⟩
        dsimp only
        have hcor := hcor.call hb
        refine hK.out _ _ (hS.call hb) (fun hS => ?_)
        clear hK
        (try simp only [Act.put]); (try simp only [List.setIfInBounds_toArray]); (try simp only [List.set_cons_zero, List.set_cons_succ])
        refine wpAnyH_ready (rs := [7]) (by kernel_rfl) (by simp) ?_
        refine (AllReadyH.cons rfl (fun K hK => ?_) AllReadyH.nil)
        · rw [if_pos (by kernel_rfl)]
          (try simp only [List.getElem_toArray]); (try simp only [List.getElem_cons_succ]); (try simp only [List.getElem_cons_zero])
          go_simp
          with_reducible refine (HC2.out _ hS.cm.rc).mono ?_
          rintro e W' ⟨rfl, hb⟩
          dsimp only
          have cS := (hcor.call hb).cells.2.2.2
          have fS := (hcor.call hb).frozen 3
          have hcor := hcor.call hb
          refine hK.out _ _ (hS.call hb) (fun hS => ?_)
          clear hK
          (try simp only [Act.put]); (try simp only [List.setIfInBounds_toArray]); (try simp only [List.set_cons_zero, List.set_cons_succ])
          refine wpAnyH_take (i := 8) (v := .pointer (some ⟨g + 1, 3, none⟩)) rfl (by kernel_rfl) (by kernel_rfl) (by kernel_rfl) (fun _ _ _ h => h) (Or.inl ⟨by kernel_rfl, by intro w' hSw; (try dsimp only at hSw); (obtain ⟨a0, a1⟩ := hSw.cm.cells); (obtain ⟨o0, o1, o2, o3⟩ := hSw.un.cells); go_simp⟩) (by assumption) ?_
          (try simp only [Act.put]); (try simp only [List.setIfInBounds_toArray]); (try simp only [List.set_cons_zero, List.set_cons_succ])
          refine wpAnyH_ready (rs := [9]) (by kernel_rfl) (by simp) ?_
          refine (AllReadyH.cons rfl (fun K hK => ?_) AllReadyH.nil)
          · rw [if_pos (by kernel_rfl)]
            (try simp only [List.getElem_toArray]); (try simp only [List.getElem_cons_succ]); (try simp only [List.getElem_cons_zero])
            go_simp
            skip
            refine hK.out _ _ (hS.set hsep (grown_setI _ (g + 1) 3 _)) (fun hS => ?_)
            clear hK
            (try simp only [Act.put]); (try simp only [List.setIfInBounds_toArray]); (try simp only [List.set_cons_zero, List.set_cons_succ])
            refine wpAnyH_done (by kernel_rfl) ?_ _
            go_wp2_with fail
            go_roundw
            case rel => exact ⟨3, _, _, _, by omega, rfl, Lib.hid ⟨rfl, rfl, rfl⟩, hS.un, hcor.set3 _, hS.cm, hS.bw⟩
            case measure => simp [intOf]
    · obtain ⟨y1, y2, y3⟩ : x1 = q0 ∧ x2 = q1 ∧ x3 = q2 := by simpa using Hc.out
      subst x1 x2 x3
      obtain ⟨o0, o1, o2, o3⟩ := hcor.cells
      have HW := Lib.hid hbw
      clear hun hcm hbw Hc hT hcor
      go_wp2_with fail
      refine (packedI c0 q0 q1 q2 Hk0.out Hq0.out Hq1.out Hq2.out _).mono ?_
      rintro e w2 ⟨rfl, hb⟩
      go_wp2_with fail
      go_ret
      exact ⟨ret_int HK.out.symm, belI_call HW.out hb⟩
end Go.Proofs.Ytaggldhlnjbnhaa
