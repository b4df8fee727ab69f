/- The contracts of rectOnScreen, placedSurfaces and coverBy of the program. No statement is proved here. -/
import Derived.Test.YtfolphadhmgbiaaMA
import Derived.Test.YtfolphadhmgbiaaLk
import Derived.Test.YtfolphadhmgbiaaMB
import Derived.Test.YtfolphadhmgbiaaSlE
import Derived.Test.YtfolphadhmgbiaaSfR
import Derived.Test.YtfolphadhmgbiaaMC
import Derived.Test.YtfolphadhmgbiaaSfP
import Derived.Test.YtfolphadhmgbiaaSnS
import Derived.Test.YtfolphadhmgbiaaOcM
import Derived.Test.YtfolphadhmgbiaaPlH
import Derived.Test.YtfolphadhmgbiaaPlW
import Derived.Test.YtfolphadhmgbiaaProg
import Derived.WalkKit
import Derived.ProofKit
import Derived.OpenShut
import Derived.WalkLawsBesides
import Derived.WalkSpells
import Derived.ShutString
import Derived.ChangeOld
import Derived.Below
import Derived.Lib.Hide
import Derived.BigQuiet
import Derived.Deep.QuietTactic
import Derived.Maps.AppendAt
import Derived.Deep.OwnRows
import Derived.Handy
import Derived.Deep.Draws
import Derived.OwnWalk
import Derived.Deep.AppendLies
import Derived.Deep.LoopGhost
import Derived.Deep.Onto
import Derived.Deep.MidRow
import Derived.Deep.WholeRow
import Derived.Laws.BitsAllLaws
import Derived.Lib.QuoteBits
import Derived.Deep.RegionHeld3
import Derived.Deep.DeepCutAuto
import Derived.Test.YtfolphadhmgbiaaShelf
import Derived.Laws.CopyOwn
import Derived.Deep.RegionLaw
import Derived.Great.BuildSlice
import Derived.Shelf.RegionOpenPlain
import Derived.Lib.SliceRun
import Derived.Deep.RegionWith
import Derived.Laws.AppendOwn
import Derived.ChangeKeysEq
import Derived.Deep.DeepAppendRoom
namespace Go.Proofs.Ytfolphadhmgbiaa
open Go.RowKit
/-- The boxes of rectOnScreen: the scene's, the surface's. -/
structure RoS (w : World) (s : Sn) (v : Value) (f : Sf) (d : Value) (V : World) : Prop where
  a : BkAt V w.heap.size 26 #[.int .i64 s.w, .int .i64 s.h, .int .i64 s.back, v]
  b : BkAt V (w.heap.size + 1) 37 #[.int .i64 f.id, .int .i64 f.x, .int .i64 f.y, .int .i64 f.w, .int .i64 f.h, .int .i64 f.alpha, .int .i64 f.orient, .bool f.vis, .int .i64 f.bw, .int .i64 f.bh, d]
  bw : Below w.heap.size w V
theorem RoS.call {w : World} {s : Sn} {v : Value} {f : Sf} {d : Value} {V V' : World} (h : RoS w s v f d V) (hb : Below V.heap.size V V') : RoS w s v f d V' := ⟨h.a.call hb, h.b.call hb, belI_call h.bw hb⟩
theorem RoS.grown {w : World} {s : Sn} {v : Value} {f : Sf} {d : Value} {V V' : World} (h : RoS w s v f d V) (hg : V.grownBy V' (some (w.heap.size + 1 + 1))) : RoS w s v f d V' :=
  ⟨h.a.grown hg (fun e => by have := Option.some.inj e; omega), h.b.grown hg (fun e => by have := Option.some.inj e; omega), (Chg.of_grown hg).below h.bw h.bw.size (fun b hb => by have h0 : b = w.heap.size + 1 + 1 := (by simpa using hb); omega)⟩
theorem below_trans_box {w W : World} (h : Below w.heap.size w W) (o1 o2 : Obj) : Below w.heap.size w ((W.alloc o1).alloc o2) := belI_call (belI_call h (belI_box _ _)) (belI_box _ _)
set_option maxHeartbeats 1000000 in
set_option maxRecDepth 10000 in
theorem rosI (s : Sn) (v : Value) (hv : ∃ A n c, v = .slice A n c) (f : Sf) (d : Value) (w : World) (hd : RdI w d f.data) : Calls Try.prog 67 #[.agg #[.int .i64 s.w, .int .i64 s.h, .int .i64 s.back, v], .agg #[.int .i64 f.id, .int .i64 f.x, .int .i64 f.y, .int .i64 f.w, .int .i64 f.h, .int .i64 f.alpha, .int .i64 f.orient, .bool f.vis, .int .i64 f.bw, .int .i64 f.bh, d]] w (RcAns (ocR s.w s.h f) w) := by
  obtain ⟨Av, nv, cv, rfl⟩ := hv
  obtain ⟨Ad, cd, rfl⟩ := hd.form
  have hS : RoS w s (.slice Av nv cv) f (.slice Ad f.data.length cd) (((w.alloc (.cells #[.int .i64 s.w, .int .i64 s.h, .int .i64 s.back, .slice Av nv cv] 26)).alloc (.cells #[.int .i64 f.id, .int .i64 f.x, .int .i64 f.y, .int .i64 f.w, .int .i64 f.h, .int .i64 f.alpha, .int .i64 f.orient, .bool f.vis, .int .i64 f.bw, .int .i64 f.bh, .slice Ad f.data.length cd] 37)).alloc (.cells #[.int .i64 0, .int .i64 0, .int .i64 0, .int .i64 0] 49)) :=
    ⟨((BkAt.new _ _ _).call (belI_box _ _)).call (belI_box _ _), (BkAt.newAt (by simp) _ _).call (belI_box _ _), belI_call (belI_call (belI_box _ _) (belI_box _ _)) (belI_box _ _)⟩
  have hr : RcAt (((w.alloc (.cells #[.int .i64 s.w, .int .i64 s.h, .int .i64 s.back, .slice Av nv cv] 26)).alloc (.cells #[.int .i64 f.id, .int .i64 f.x, .int .i64 f.y, .int .i64 f.w, .int .i64 f.h, .int .i64 f.alpha, .int .i64 f.orient, .bool f.vis, .int .i64 f.bw, .int .i64 f.bh, .slice Ad f.data.length cd] 37)).alloc (.cells #[.int .i64 0, .int .i64 0, .int .i64 0, .int .i64 0] 49)) (w.heap.size + 1 + 1) ⟨0, 0, 0, 0⟩ := RcAt.newAt (by simp) ⟨0, 0, 0, 0⟩
  obtain ⟨r, hre⟩ : ∃ r, r = sfRect f := ⟨_, rfl⟩
  obtain ⟨q, hq⟩ : ∃ q, q = ocR s.w s.h f := ⟨_, rfl⟩
  have HR := fun W0 (h : RdI W0 (.slice Ad f.data.length cd) f.data) => srI f _ W0 h
  unfold SrAns at HR
  have HQ := fun W0 => isectI_any r ⟨0, 0, s.w, s.h⟩ W0
  rw [← hre] at HR
  have hrq : isect r ⟨0, 0, s.w, s.h⟩ = q := by rw [hq, hre]; rfl
  rw [hrq] at HQ
  rw [← hq]
  unfold RcAns at HR ⊢
  dsimp only at HQ
  have HR := Lib.hid HR
  have HQ := Lib.hid HQ
  replace hd := ((hd.alloc (.cells #[.int .i64 s.w, .int .i64 s.h, .int .i64 s.back, .slice Av nv cv] 26)).alloc (.cells #[.int .i64 f.id, .int .i64 f.x, .int .i64 f.y, .int .i64 f.w, .int .i64 f.h, .int .i64 f.alpha, .int .i64 f.orient, .bool f.vis, .int .i64 f.bw, .int .i64 f.bh, .slice Ad f.data.length cd] 37)).alloc (.cells #[.int .i64 0, .int .i64 0, .int .i64 0, .int .i64 0] 49)
  clear hre hq hrq
  go_enter Try.func67, Try.ntmps67
  go_upto_region 1 with fail
  refine wp_region_held_drew (S := fun V => RoS w s (.slice Av nv cv) f (.slice Ad f.data.length cd) V) (by kernel_rfl) (hS.call (belI_drew _)) (fun hS => ?_)
  replace hr := hr.below (belI_drew _) hr.lt
  replace hd := hd.drew
  refine wpAnyH_take (i := 0) (v := .agg #[.int .i64 f.id, .int .i64 f.x, .int .i64 f.y, .int .i64 f.w, .int .i64 f.h, .int .i64 f.alpha, .int .i64 f.orient, .bool f.vis, .int .i64 f.bw, .int .i64 f.bh, .slice Ad f.data.length cd]) rfl (by kernel_rfl) (by kernel_rfl) (by kernel_rfl) (fun _ _ _ h => h) (Or.inl ⟨by kernel_rfl, by intro w' hSw; (try dsimp only at hSw); (have e0 := hSw.b.cell 0 rfl); (have e1 := hSw.b.cell 1 rfl); (have e2 := hSw.b.cell 2 rfl); (have e3 := hSw.b.cell 3 rfl); (have e4 := hSw.b.cell 4 rfl); (have e5 := hSw.b.cell 5 rfl); (have e6 := hSw.b.cell 6 rfl); (have e7 := hSw.b.cell 7 rfl); (have e8 := hSw.b.cell 8 rfl); (have e9 := hSw.b.cell 9 rfl); (have e10 := hSw.b.cell 10 rfl); go_simp⟩) (by assumption) ?_
  refine wpAnyH_take (i := 2) (v := .pointer (some ⟨w.heap.size, 0, none⟩)) rfl (by kernel_rfl) (by kernel_rfl) (by kernel_rfl) (fun _ _ _ h => h) (Or.inl ⟨by kernel_rfl, by intro w' hSw; (try dsimp only at hSw); go_simp⟩) (by assumption) ?_
  refine wpAnyH_take (i := 3) (v := .int .i64 s.w) rfl (by kernel_rfl) (by kernel_rfl) (by kernel_rfl) (fun _ _ _ h => h) (Or.inl ⟨by kernel_rfl, by intro w' hSw; (try dsimp only at hSw); (obtain ⟨a0, a1, a2, a3⟩ := hSw.a.cells4); go_simp⟩) (by assumption) ?_
  refine wpAnyH_take (i := 4) (v := .pointer (some ⟨w.heap.size, 1, none⟩)) rfl (by kernel_rfl) (by kernel_rfl) (by kernel_rfl) (fun _ _ _ h => h) (Or.inl ⟨by kernel_rfl, by intro w' hSw; (try dsimp only at hSw); go_simp⟩) (by assumption) ?_
  refine wpAnyH_take (i := 5) (v := .int .i64 s.h) rfl (by kernel_rfl) (by kernel_rfl) (by kernel_rfl) (fun _ _ _ h => h) (Or.inl ⟨by kernel_rfl, by intro w' hSw; (try dsimp only at hSw); (obtain ⟨a0, a1, a2, a3⟩ := hSw.a.cells4); go_simp⟩) (by assumption) ?_
  refine wpAnyH_take (i := 6) (v := .agg #[.int .i64 0, .int .i64 0, .int .i64 s.w, .int .i64 s.h]) rfl (by kernel_rfl) (by kernel_rfl) (by kernel_rfl) (fun _ _ _ h => h) (Or.inl ⟨by kernel_rfl, by intro w' hSw; (try dsimp only at hSw); go_simp⟩) (by assumption) ?_
  (try simp only [Act.put]); (try simp only [List.setIfInBounds_toArray]); (try simp only [List.set_cons_zero, List.set_cons_succ])
  refine wpAnyH_ready (rs := [1]) (by kernel_rfl) (by simp) ?_
  refine (AllReadyH.cons rfl (fun K hK => ?_) AllReadyH.nil)
  · rw [if_pos (by kernel_rfl)]
    (try simp only [List.getElem_toArray]); (try simp only [List.getElem_cons_succ]); (try simp only [List.getElem_cons_zero])
    go_simp
    with_reducible refine (HR.out _ hd).mono ?_
    rintro e W' ⟨rfl, hb⟩
    dsimp only
    have hr := hr.below hb hr.lt
    have hd := hd.call hb
    refine hK.out _ _ (hS.call hb) (fun hS => ?_)
    clear hK
    (try simp only [Act.put]); (try simp only [List.setIfInBounds_toArray]); (try simp only [List.set_cons_zero, List.set_cons_succ])
    refine wpAnyH_ready (rs := [7]) (by kernel_rfl) (by simp) ?_
    refine (AllReadyH.cons rfl (fun K hK => ?_) AllReadyH.nil)
    · rw [if_pos (by kernel_rfl)]
      (try simp only [List.getElem_toArray]); (try simp only [List.getElem_cons_succ]); (try simp only [List.getElem_cons_zero])
      go_simp
      with_reducible refine (HQ.out _).mono ?_
      rintro e W' ⟨rfl, hb⟩
      dsimp only
      have hr := hr.below hb hr.lt
      have hd := hd.call hb
      refine hK.out _ _ (hS.call hb) (fun hS => ?_)
      clear hK
      (try simp only [Act.put]); (try simp only [List.setIfInBounds_toArray]); (try simp only [List.set_cons_zero, List.set_cons_succ])
      refine wpAnyH_ready (rs := [8]) (by kernel_rfl) (by simp) ?_
      refine (AllReadyH.cons rfl (fun K hK => ?_) AllReadyH.nil)
      · rw [if_pos (by kernel_rfl)]
        (try simp only [List.getElem_toArray]); (try simp only [List.getElem_cons_succ]); (try simp only [List.getElem_cons_zero])
        refine wp_store_rc (.tmp 4) (.tmp 12) rfl (w.heap.size + 1 + 1) ⟨0, 0, 0, 0⟩ q rfl (by first | with_reducible rfl | (go_simp; done) | rfl) hr ?_
        intro W3 IB hgB
        skip
        skip
        refine hK.out _ _ (hS.grown hgB) (fun hS => ?_)
        clear hK
        (try simp only [Act.put]); (try simp only [List.setIfInBounds_toArray]); (try simp only [List.set_cons_zero, List.set_cons_succ])
        refine wpAnyH_done (by kernel_rfl) ?_ _
        obtain ⟨r0, r1, r2, r3⟩ := IB.cells
        go_wp2_with fail
        exact bodyPost_ret (v := .agg #[.int .i64 q.x, .int .i64 q.y, .int .i64 q.w, .int .i64 q.h]) (by simp [results, Try.results67, go_sem, r0, r1, r2, r3]) rfl ⟨rfl, hS.bw⟩
/-- What placedSurfaces answers. -/
def PlsAns (s : Sn) (bs : List Nat) (w : World) (e : Ending) (w' : World) : Prop :=
  ∃ g cs, e = .returned (.slice (some ⟨g, 0, none⟩) s.fs.length s.fs.length) ∧ HalfP w.heap.size w' (plL s.w s.h s.fs) (.slice (some ⟨g, 0, none⟩) s.fs.length s.fs.length) cs ∧ (∀ b ∈ cs, b ∈ bs ∨ w.heap.size ≤ b) ∧ w.heap.size ≤ g ∧ Below w.heap.size w w'
/-- The boxes of placedSurfaces. -/
structure PlT (w : World) (s : Sn) (v : Value) (bs : List Nat) (g n c k : Nat) (V : World) : Prop where
  a : SnA w.heap.size s v bs V
  p : ∃ cs, HalfP (w.heap.size + 1) V (plL s.w s.h (s.fs.take k)) (.slice (some ⟨g, 0, none⟩) n c) cs ∧ ∀ b ∈ cs, b ∈ bs ∨ w.heap.size ≤ b
  bw : Below w.heap.size w V
theorem PlT.call {w : World} {s : Sn} {v : Value} {bs : List Nat} {g n c k : Nat} {V V' : World} (h : PlT w s v bs g n c k V) (hb : Below V.heap.size V V') : PlT w s v bs g n c k V' :=
  ⟨h.a.call hb, by obtain ⟨cs, h1, h2⟩ := h.p; exact ⟨cs, h1.call hb, h2⟩, belI_call h.bw hb⟩
theorem PlT.glt {w : World} {s : Sn} {v : Value} {bs : List Nat} {g n c k : Nat} {V : World} (h : PlT w s v bs g n c k V) : w.heap.size + 1 ≤ g ∧ g < V.heap.size := by
  obtain ⟨cs, h1, _⟩ := h.p
  obtain ⟨xs, bss, hr, hls, how, rfl⟩ := h1.ex
  exact own_ltB how g (by simp [Value.ownBlock])
theorem sn_own_grown {w W W' : World} {s : Sn} {v : Value} {bs : List Nat} {b g : Nat} (h : SnA b s v bs W) (hold : ∀ q ∈ bs, q < w.heap.size) (hb : b ≤ w.heap.size) (hg : w.heap.size < g) (hc : W.grownBy W' (some g)) : SnA b s v bs W' :=
  ⟨h.at_.grown hc (fun e => by have := Option.some.inj e; omega), Rep.chg h.r (Chg.of_grown hc) fun q hq e => by have h1 := hold q hq; have h0 : q = g := (by simpa using e); omega⟩
theorem below_grownG {w W W' : World} {g : Nat} (h : Below w.heap.size w W) (hc : W.grownBy W' (some g)) (hg : w.heap.size ≤ g) : Below w.heap.size w W' :=
  (Chg.of_grown hc).below h h.size (fun b hb => by have h0 : b = g := (by simpa using hb); omega)
theorem pl_d {w : World} {fs : List Sf} {A : Option Addr} {n c : Nat} {bs : List Nat} (h : repSfs.R w fs [.slice A n c] bs) {k : Nat} (hk : k < fs.length) : ∃ g f d bd, A = some ⟨g, 0, none⟩ ∧ fs[k]? = some f ∧ C11 w g (k * 11) f d ∧ repInts.R w f.data [d] bd ∧ ∀ b ∈ bd, b ∈ bs := by
  rcases SlU.of_rep h with ⟨_, rfl, _⟩ | ⟨g, c', xs, bss, he, hU, rfl⟩
  · simp at hk
  · injection he with e1 e2 e3
    subst e1
    obtain ⟨f, x, b, hf, hx, hb, hl, hR, hc⟩ := hU.at_ hk
    obtain ⟨d, rfl, hd⟩ := hR
    exact ⟨g, f, d, b, rfl, hf, c11_of hc, hd, fun q hq => List.mem_cons.2 (.inr (flat_mem hb hq))⟩
set_option maxHeartbeats 2000000 in
set_option maxRecDepth 10000 in
theorem plsI (s : Sn) (v : Value) (bs : List Nat) (w : World) (hN : s.fs.length ≤ 6) (h : repSfs.R w s.fs [v] bs) : Calls Try.prog 102 #[.agg #[.int .i64 s.w, .int .i64 s.h, .int .i64 s.back, v]] w (PlsAns s bs w) := by
  have hA := SnA.born h
  have hB := belI_box w (.cells #[.int .i64 s.w, .int .i64 s.h, .int .i64 s.back, v] 26)
  obtain ⟨i0, hi, hz0, hz1, hby⟩ := info2_pl
  obtain ⟨⟨A, c, rfl⟩, _⟩ := repSfs_form h
  have Hold : Hid (∀ q ∈ bs, q < w.heap.size) := Lib.hid fun q hq => repSfs.ex h q hq
  obtain ⟨N, hNe⟩ : ∃ N, N = s.fs.length := ⟨_, rfl⟩
  rw [← hNe] at hN hA hB ⊢
  have HN := Lib.hid hNe
  obtain ⟨d0, d1, d2, d3⟩ := hA.cells
  have hby2 : i0.bytes * N ≤ 1000 * 6 := Nat.mul_le_mul hby hN
  have HR := Lib.hid (fun (W : World) (f : Sf) (d : Value) (hd : RdI W d f.data) => rosI s (.slice A N c) ⟨_, _, _, rfl⟩ f d W hd)
  unfold RcAns at HR
  clear h hNe
  go_enter Try.func102, Try.ntmps102
  go_wp2_with (at_make; refine wpList_make_own _ rfl _ _ 122 rfl (w.heap.size + 1) 127 i0 _ 12 Try.underlying122 hi hz0 hz1 .i64 .i64 _ N rfl rfl rfl (by omega) (by unfold maxLen; omega) (by simp) ?_)
  intro w0 hown0 hgrow0
  have hb0 := below_grown0 hgrow0
  obtain ⟨g, hgw⟩ : ∃ g, g = w.heap.size + 1 := ⟨_, rfl⟩
  have hown1 : w0.ownsRow (w.heap.size + 1) 127 12 (.slice (some ⟨g, 0, none⟩) 0 N) 0 [] := by rw [hgw]; exact hown0
  rw [← hgw]
  have hT : PlT w s (.slice A N c) bs g 0 N 0 w0 := ⟨hA.call hb0, ⟨[], ⟨⟨[], [], trivial, by simp, hown1, rfl⟩, by simp⟩, by simp⟩, belI_call hB hb0⟩
  clear d0 d1 d2 d3 hA hB hb0 hown0 hown1 hgrow0
  obtain ⟨d0, d1, d2, d3⟩ := hT.a.cells
  have HT := Lib.hid hT
  clear hT hgw
  go_wp2_with fail
  clear d0 d1 d2 d3
  go_loopg [3, 14] N (fun gk s3 s14 wr => ∃ (k : Nat) (u3 : Value) (V : World), V = wr ∧ k ≤ N ∧ gk = N - k ∧ s3 = u3 ∧ Hid (u3 = .slice (some ⟨g, 0, none⟩) k N) ∧ s14 = .int .i64 k ∧ Hid (PlT w s (.slice A N c) bs g k N k V))
  case atStart => exact ⟨0, _, _, rfl, Nat.zero_le _, by omega, rfl, Lib.hid rfl, rfl, HT⟩
  case round =>
    clear HT
    obtain ⟨k, u3, V, hV, hk, rfl, rfl, Hu3, rfl, HT⟩ := hrel
    subst hV
    by_cases hlt : k < N
    · obtain ⟨gs, f, d, bd, rfl, hf, hC, hd, hbd⟩ := pl_d HT.out.a.r (k := k) (by rw [← HN.out]; exact hlt)
      obtain ⟨⟨Ad, cd, rfl⟩, _⟩ := ints_form hd
      obtain ⟨d0, d1, d2, d3⟩ := HT.out.a.cells
      obtain ⟨c0, c1, c2, c3, c4, c5, c6, c7, c8, c9, c10⟩ := hC
      obtain ⟨V1, hV1⟩ : ∃ V1, V1 = V.alloc (.cells #[.int .i64 f.id, .int .i64 f.x, .int .i64 f.y, .int .i64 f.w, .int .i64 f.h, .int .i64 f.alpha, .int .i64 f.orient, .bool f.vis, .int .i64 f.bw, .int .i64 f.bh, .slice Ad f.data.length cd] 37) := ⟨_, rfl⟩
      obtain ⟨bsf, hbs⟩ : ∃ b, b = V.heap.size := ⟨_, rfl⟩
      have hbx : Below V.heap.size V V1 := by rw [hV1]; exact belI_box _ _
      have hX : BkAt V1 bsf 37 #[.int .i64 f.id, .int .i64 f.x, .int .i64 f.y, .int .i64 f.w, .int .i64 f.h, .int .i64 f.alpha, .int .i64 f.orient, .bool f.vis, .int .i64 f.bw, .int .i64 f.bh, .slice Ad f.data.length cd] := by rw [hV1, hbs]; exact BkAt.new _ _ _
      have HT1 := Lib.hid (HT.out.call hbx)
      have hd1 := Rep.call hd hbx
      have k0 : (0 : Int) ≤ (k : Int) := by omega
      have k1 : (k : Int) < (N : Int) := by omega
      obtain ⟨r, hr⟩ : ∃ r, r = ocR s.w s.h f := ⟨_, rfl⟩
      have HR1 := HR.out V1 f _ (repInts_rd hd1)
      rw [← hr] at HR1
      have HR1 := Lib.hid HR1
      have HF := Lib.hid (fun W u h => rofI u [r] W h)
      unfold RofAns at HF
      obtain ⟨L, hL⟩ : ∃ L, L = canon (gridOf [r]) := ⟨_, rfl⟩
      rw [← hL] at HF
      have HLe : Hid (L = ocP s.w s.h f) := Lib.hid (by rw [hL, hr]; rfl)
      have Hf := Lib.hid hf
      have Hbd := Lib.hid hbd
      have HV1 := Lib.hid hV1
      have Hbs := Lib.hid hbs
      have Hd1 := Lib.hid hd1
      have HX := Lib.hid hX
      clear hf hd hbx hV1 hbs HT hd1 hr hL hbd hX
      obtain ⟨e0, e1, e2, e3⟩ := HT1.out.a.cells
      rw [HV1.out] at e0 e1 e2 e3
      go_wp2_with fail
      rw [← HV1.out, ← Hbs.out]
      refine HR1.out.mono ?_
      rintro e w2 ⟨rfl, hb⟩
      have HT2 := Lib.hid (HT1.out.call hb)
      have HX2 := Lib.hid (HX.out.call hb)
      have Hd2 := Lib.hid (Rep.call Hd1.out hb)
      clear c0 c1 c2 c3 c4 c5 c6 c7 c8 c9 c10 d0 d1 d2 d3 hb HT1 Hd1 HX HR1 e0 e1 e2 e3
      go_wp2_with fail
      refine (HF.out _ _ (RdR.one (RcAt.new w2 r))).mono ?_
      rintro e w3 ⟨u, rfl, hou, hb⟩
      have hb := belI_call (belI_box w2 (.cells #[.int .i64 r.x, .int .i64 r.y, .int .i64 r.w, .int .i64 r.h] 49)) hb
      obtain ⟨Au, cu, hu⟩ := own_shape hou
      subst hu
      have HT3 := Lib.hid (HT2.out.call hb)
      have HX3 := Lib.hid (HX2.out.call hb)
      have Hd3 := Lib.hid (Rep.call Hd2.out hb)
      have hng : g ∉ (Value.slice Au L.length cu).ownBlock.toList := fun e => by
        have h1 := (own_ltB hou g e).1
        have h2 := HT2.out.glt.2
        simp at h1
        omega
      have hng2 : g ∉ bd := fun e => by have := Hold.out g (Hbd.out g e); have := HT2.out.glt.1; omega
      have Hng := Lib.hid (And.intro hng hng2)
      have Hlo : Hid (∀ b ∈ (Value.slice Au L.length cu).ownBlock.toList, w.heap.size ≤ b) := Lib.hid fun b hb => by
        have h1 := (own_ltB hou b hb).1
        have h2 := HT2.out.bw.size
        simp at h1
        omega
      have Hou := Lib.hid (own_rebase hou fun _ _ => Nat.zero_le _)
      clear HT2 HX2 Hd2 hb hou hng hng2
      have hX4 := HX3.out.call (belI_box w3 (.cells #[.slice Au L.length cu] 79))
      have x0 := hX4.cell 0 rfl
      have x1 := hX4.cell 1 rfl
      have x2 := hX4.cell 2 rfl
      have x3 := hX4.cell 3 rfl
      have x4 := hX4.cell 4 rfl
      have x5 := hX4.cell 5 rfl
      have x6 := hX4.cell 6 rfl
      have x7 := hX4.cell 7 rfl
      have x8 := hX4.cell 8 rfl
      have x9 := hX4.cell 9 rfl
      have x10 := hX4.cell 10 rfl
      clear hX4
      obtain ⟨cs, hP, hcs⟩ := HT3.out.p
      have HP := Lib.hid hP
      have Hcs := Lib.hid hcs
      clear hP hcs
      go_wp2_with (at_builtin; refine wpList_append_pl rfl _ _ rfl (w.heap.size + 1) g k N _ cs Hu3.out ((HP.out.call (belI_box _ _)).call (belI_box _ _)) (by omega) _ rfl f L (.slice Au L.length cu) (.slice Ad f.data.length cd) bd (BkAt.newAt (by simp) _ _) ((Hou.out.alloc _).alloc _) (Rep.call (Rep.call Hd3.out (belI_box _ _)) (belI_box _ _)) Hng.out.1 Hng.out.2 ?_)
      intro w4 hP4 hg4
      have hb4 := below_grownG (below_trans_box HT3.out.bw _ _) hg4 (by have := HT3.out.glt.1; omega)
      have hA4 := sn_own_grown (w := w) ((HT3.out.a.call (belI_box _ _)).call (belI_box _ _)) Hold.out (Nat.le_refl _) (by have := HT3.out.glt.1; omega) hg4
      have HT4 : Hid (PlT w s (.slice (some ⟨gs, 0, none⟩) N c) bs g (k + 1) N (k + 1) w4) := Lib.hid ⟨hA4, ⟨_, by rw [plL_take _ _ Hf.out, ← HLe.out]; exact hP4, fun b hb => by
        rcases List.mem_append.1 hb with hb | hb
        · exact Hcs.out b hb
        · rcases List.mem_append.1 hb with hb | hb
          · exact .inr (Hlo.out b hb)
          · exact .inl (Hbd.out b hb)⟩, hb4⟩
      clear x0 x1 x2 x3 x4 x5 x6 x7 x8 x9 x10 hP4 hg4 hb4 hA4 HT3 HX3 Hd3 HP Hcs Hou
      go_wp2_with fail
      go_roundg (N - (k + 1))
      case measure => omega
      case rel => exact ⟨k + 1, _, _, rfl, by omega, rfl, rfl, Lib.hid rfl, by go_num, HT4⟩
    · obtain rfl : k = N := by omega
      have hni : ¬ (k : Int) < (k : Int) := by omega
      go_wp2_with fail
      go_ret
      obtain ⟨cs, hP, hcs⟩ := HT.out.p
      rw [List.take_of_length_le (by rw [← HN.out]; exact Nat.le_refl _)] at hP
      refine ⟨g, cs, by rw [← HN.out, Hu3.out]; rfl, by rw [← HN.out]; exact hP.mono (by omega), hcs, by have := HT.out.glt.1; omega, HT.out.bw⟩
end Go.Proofs.Ytfolphadhmgbiaa
