/- The contracts of CoverOf and PaintCost of the model. No statement is proved here. -/
import Derived.Test.YtfolphadhmgbiaaMA
import Derived.Test.YtfolphadhmgbiaaMB
import Derived.Test.YtfolphadhmgbiaaLk
import Derived.Test.YtfolphadhmgbiaaSlE
import Derived.Test.YtfolphadhmgbiaaSfR
import Derived.Test.YtfolphadhmgbiaaSnO
import Derived.Test.YtfolphadhmgbiaaMC
import Derived.Test.YtfolphadhmgbiaaSfP
import Derived.Test.YtfolphadhmgbiaaSnS
import Derived.Test.YtfolphadhmgbiaaSfQ
import Derived.Test.YtfolphadhmgbiaaOcM
import Derived.Test.YtfolphadhmgbiaaPlH
import Derived.Test.YtfolphadhmgbiaaOcI
import Derived.Test.YtfolphadhmgbiaaOcJ
import Derived.Test.YtfolphadhmgbiaaOcK
import Derived.Test.YtfolphadhmgbiaaProg
import Derived.WalkKit
import Derived.ProofKit
import Derived.OpenShut
import Derived.WalkLawsBesides
import Derived.WalkSpells
import Derived.ShutString
import Derived.ChangeOld
import Derived.Below
import Derived.Lib.Hide
import Derived.BigQuiet
import Derived.Deep.QuietTactic
import Derived.Maps.AppendAt
import Derived.Deep.OwnRows
import Derived.Handy
import Derived.Deep.Draws
import Derived.OwnWalk
import Derived.Deep.AppendLies
import Derived.Deep.LoopGhost
import Derived.Deep.Onto
import Derived.Deep.MidRow
import Derived.Deep.WholeRow
import Derived.Laws.BitsAllLaws
import Derived.Lib.QuoteBits
import Derived.Deep.RegionHeld3
import Derived.Deep.DeepCutAuto
import Derived.Test.YtfolphadhmgbiaaShelf
import Derived.Laws.CopyOwn
import Derived.Deep.RegionLaw
import Derived.Great.BuildSlice
import Derived.Shelf.RegionOpenPlain
import Derived.Lib.SliceRun
import Derived.Deep.RegionWith
import Derived.Laws.AppendOwn
import Derived.ChangeKeysEq
import Derived.Deep.DeepAppendRoom
namespace Go.Proofs.Ytfolphadhmgbiaa
open Go.RowKit
theorem wp_build1o {op : Oper} {a : Act} {w : World} {K : Act → World → Prop} {Q : Exit → Act → World → Prop} (d : Nat) (x : Operand) (r : Rc) (ho : op.op = .buildSlice 77 1 #[(0, x)]) (hx : a.eval x = .agg #[.int .i64 r.x, .int .i64 r.y, .int .i64 r.w, .int .i64 r.h]) (hd : op.dst = some d)
    (h : ∀ g W', Below w.heap.size w W' → W'.ownsRow w.heap.size 49 4 (.slice (some ⟨g, 0, none⟩) 1 1) 1 (rcsCells [r]) → K (a.put (some d) (.slice (some ⟨g, 0, none⟩) 1 1)) W') : op.wp Try.prog a w K Q := by
  have h1 := h w.heap.size (w.alloc (.cells #[.int .i64 r.x, .int .i64 r.y, .int .i64 r.w, .int .i64 r.h] 49)) (belI_box _ _) ⟨rfl, .inr ⟨w.heap.size, 1, _, rfl, Nat.le_refl _, heap_alloc_new w _, Nat.le_refl _, by unfold maxLen; omega, rfl, rfl⟩⟩
  have hz := run_build1 r w
  unfold Oper.wp execOp
  simp only [ho, List.map_toArray, List.map_cons, List.map_nil, hx, Sem.run_bind, hz, Result.andThen_ok, Sem.run_pure]
  rw [← hd] at h1
  exact h1
/-- The boxes of the model's CoverOf. -/
structure CwS (w : World) (s : Sn) (v : Value) (V : World) : Prop where
  a : BkAt V w.heap.size 26 #[.int .i64 s.w, .int .i64 s.h, .int .i64 s.back, v]
  x : BxR V (w.heap.size + 1)
  bw : Below w.heap.size w V
theorem CwS.call {w : World} {s : Sn} {v : Value} {V V' : World} (h : CwS w s v V) (hb : Below V.heap.size V V') : CwS w s v V' := ⟨h.a.call hb, (hb.block _ h.x.lt).trans h.x, belI_call h.bw hb⟩
theorem CwS.grown {w : World} {s : Sn} {v u : Value} {n : Nat} {xs : List Value} {V V' : World} (h : CwS w s v V) (ho : V.ownsRow (w.heap.size + 2) 49 4 u n xs) (hg : V.grownBy V' u.ownBlock) : CwS w s v V' := by
  have hlo : ∀ k, u.ownBlock = some k → w.heap.size + 2 ≤ k := fun k hk => (own_ltB ho k (by rw [hk]; simp)).1
  refine ⟨h.a.grown hg fun e => by have := hlo _ e.symm; omega, (hg.block _ h.x.lt fun e => by have := hlo _ e.symm; omega).trans h.x, (Chg.of_grown hg).below h.bw h.bw.size fun b hb => ?_⟩
  have := hlo b (by simpa using hb)
  omega
theorem CwS.born {w : World} {s : Sn} {v : Value} : CwS w s v ((w.alloc (.cells #[.int .i64 s.w, .int .i64 s.h, .int .i64 s.back, v] 26)).alloc (.cells #[.slice none 0 0] 79)) :=
  ⟨(BkAt.new _ _ _).call (belI_box _ _), by have := heap_alloc_new (w.alloc (.cells #[.int .i64 s.w, .int .i64 s.h, .int .i64 s.back, v] 26)) (.cells #[.slice none 0 0] 79); unfold BxR; simpa using this, belI_call (belI_box _ _) (belI_box _ _)⟩
theorem CwS.res {w : World} {s : Sn} {v : Value} {V : World} (h : CwS w s v V) : V.cell? ⟨w.heap.size + 1, 0, none⟩ = some (.slice none 0 0) ∧ V.frozen? ⟨w.heap.size + 1, 0, none⟩ = false := by
  constructor
  · simp [World.cell?, show V.heap[w.heap.size + 1]? = _ from h.x]
  · simp [World.frozen?, show V.heap[w.heap.size + 1]? = _ from h.x]
theorem ocO_take (W H : Int) {G : List Sf} {i : Nat} {f : Sf} (h : G[i]? = some f) : ocO W H (G.take (i + 1)) = ocO W H (G.take i) ++ (if sfOpq f = true then [ocR W H f] else []) := by
  rw [List.take_add_one, h, Option.toList_some, ocO_one]
theorem ocO_taken (W H : Int) (G : List Sf) (i : Nat) : (ocO W H (G.take i)).length ≤ i := Nat.le_trans (ocO_len _ _ _) (List.length_take_le _ _)
theorem own_nil2 (V : World) (B : Nat) (hB : B ≤ V.heap.size) : (V.alloc (.cells #[] 49)).ownsRow B 49 4 (.slice (some ⟨V.heap.size, 0, none⟩) 0 0) 0 [] :=
  ⟨rfl, .inr ⟨V.heap.size, 0, #[], rfl, hB, heap_alloc_new V _, Nat.le_refl _, by unfold maxLen; omega, rfl, rfl⟩⟩
set_option maxHeartbeats 4000000 in
set_option maxRecDepth 10000 in
theorem covS (s : Sn) (k : Int) (v : Value) (bs : List Nat) (w : World) (h : repSfs.R w s.fs [v] bs) : Calls Try.prog 47 #[.agg #[.int .i64 s.w, .int .i64 s.h, .int .i64 s.back, v], .int .i64 k] w (RgQ (covM s k) w) := by
  have HS := fun W h => snS s v bs W h
  unfold SnOkAns at HS
  obtain ⟨⟨A, c, rfl⟩, hml⟩ := repSfs_form h
  have hT0 := (CwS.born (w := w) (s := s) (v := .slice A s.fs.length c))
  have hT : CwS w s (.slice A s.fs.length c) (((w.alloc (.cells #[.int .i64 s.w, .int .i64 s.h, .int .i64 s.back, .slice A s.fs.length c] 26)).alloc (.cells #[.slice none 0 0] 79)).alloc (.cells #[] 49)) := hT0.call (belI_box _ _)
  have hO : (((w.alloc (.cells #[.int .i64 s.w, .int .i64 s.h, .int .i64 s.back, .slice A s.fs.length c] 26)).alloc (.cells #[.slice none 0 0] 79)).alloc (.cells #[] 49)).ownsRow (w.heap.size + 2) 49 4 (.slice (some ⟨w.heap.size + 1 + 1, 0, none⟩) 0 0) 0 [] := by
    have h1 := own_nil2 ((w.alloc (.cells #[.int .i64 s.w, .int .i64 s.h, .int .i64 s.back, .slice A s.fs.length c] 26)).alloc (.cells #[.slice none 0 0] 79)) (w.heap.size + 2) (by simp)
    simpa using h1
  have hR : ∀ V, Below w.heap.size w V → repSfs.R V s.fs [.slice A s.fs.length c] bs := fun V hb => Rep.call h hb
  obtain ⟨d0, d1, d2, d3⟩ := hT.a.cells4
  by_cases hs : snOk s
  · rw [snB_yes hs] at HS
    have HS := Lib.hid HS
    obtain ⟨N, hNe⟩ : ∃ N, N = s.fs.length := ⟨_, rfl⟩
    have hN6 : N ≤ 6 := by rw [hNe]; exact hs.2.2.1
    rw [← hNe] at hml hT HS d3 hR hO ⊢
    have HN := Lib.hid hNe
    have HR := Lib.hid hR
    have HW : Hid (repSfs.R w s.fs [.slice A N c] bs) := Lib.hid (by rw [hNe]; exact h)
    by_cases hk : -1 ≤ k ∧ k ≤ (N : Int) - 1
    · obtain ⟨j, rfl⟩ : ∃ j : Nat, k = (j : Int) - 1 := ⟨(k + 1).toNat, by omega⟩
      have hj : j ≤ N := by omega
      obtain ⟨G, hG⟩ : ∃ G, G = s.fs.drop j := ⟨_, rfl⟩
      have HA : Hid (covM s ((j : Int) - 1) = canon (gridOf (ocO s.w s.h G))) := Lib.hid (by
        rw [covM_yes ⟨hs, hk.1, by rw [← hNe]; exact hk.2⟩, show ((j : Int) - 1 + 1).toNat = j by omega, hG]; rfl)
      have HGl : Hid (G.length = N - j) := Lib.hid (by rw [hG, List.length_drop, hNe])
      have HGi : Hid (∀ i f, s.fs[j + i]? = some f → G[i]? = some f) := Lib.hid (fun i f hf => by rw [hG, List.getElem?_drop]; exact hf)
      have Hk := Lib.hid hk
      obtain ⟨i0, hi, hz0, hz1, hz2⟩ := info2_rc
      have q0 : IntKind.i64.wrap ((N : Int) - 1) = (N : Int) - 1 := wrap_in _ (by omega) (by omega)
      have q1 : IntKind.i64.wrap ((j : Int) - 1 + 1) = (j : Int) := by rw [wrap_in _ (by omega) (by omega)]; omega
      have HI := Lib.hid (fun (W : World) (f : Sf) (d : Value) (h : RdI W d f.data) => isoS f d W h)
      unfold IsoAns at HI
      have HRR := Lib.hid (fun (W : World) (f : Sf) (d : Value) (h : RdI W d f.data) => srS f d W h)
      unfold SrAns RcAns at HRR
      have HF := Lib.hid (fun W u L h => rofS u L W h)
      unfold RofAns at HF
      clear hs hNe hk h hT0 hR hG
      go_enter Try.func47, Try.ntmps47
      go_wp2_with fail
      refine (HS.out _ (HR.out _ hT.bw)).mono ?_
      rintro e w1 ⟨rfl, hb⟩
      replace hT := hT.call hb
      replace hO := own_call2 hO hb
      clear d0 d1 d2 d3 hb
      obtain ⟨d0, d1, d2, d3⟩ := hT.a.cells4
      go_wp2_with fail
      refine (inS_yes _ _ _ _ Hk.out.1 Hk.out.2).mono ?_
      rintro e w2 ⟨rfl, rfl⟩
      go_wp2_with fail
      clear d0 d1 d2 d3
      have HT := Lib.hid hT
      have HO : Hid (w1.ownsRow (w.heap.size + 2) 49 4 (.slice (some ⟨w.heap.size + 1 + 1, 0, none⟩) 0 0) (ocO s.w s.h (G.take 0)).length (rcsCells (ocO s.w s.h (G.take 0)))) := Lib.hid hO
      clear hT hO
      go_loopg [5, 6] (N - j) (fun gk s5 s6 wr => ∃ (i : Nat) (u5 : Value) (V : World), V = wr ∧ i ≤ N - j ∧ gk = N - j - i ∧ s5 = u5 ∧ s6 = .int .i64 ((j + i : Nat) : Int) ∧ Hid (CwS w s (.slice A N c) V) ∧ Hid (V.ownsRow (w.heap.size + 2) 49 4 u5 (ocO s.w s.h (G.take i)).length (rcsCells (ocO s.w s.h (G.take i)))))
      case atStart => exact ⟨0, _, _, rfl, Nat.zero_le _, by omega, rfl, rfl, HT, HO⟩
      case round =>
        clear HT HO
        obtain ⟨i, u5, V, hV, hi2, rfl, rfl, rfl, HT, HO⟩ := hrel
        subst hV
        obtain ⟨m, hm⟩ : ∃ m, m = j + i := ⟨_, rfl⟩
        rw [← hm]
        have Hm := Lib.hid hm
        obtain ⟨d0, d1, d2, d3⟩ := HT.out.a.cells4
        by_cases hlt : m < N
        · obtain ⟨gs, f, d, bd, rfl, hf, hC, hd, hbd⟩ := pl_d HW.out (k := m) (by rw [← HN.out]; exact hlt)
          obtain ⟨⟨Ad, cd, rfl⟩, _⟩ := ints_form hd
          have HC0 : Hid (∀ V' : World, Below w.heap.size w V' → C11 V' gs (m * 11) f (.slice Ad f.data.length cd) ∧ RdI V' (.slice Ad f.data.length cd) f.data) := Lib.hid fun V' hb => ⟨hC.call hb, repInts_rd (Rep.call hd hb)⟩
          have Hf := Lib.hid (HGi.out i f (by rw [← hm]; exact hf))
          obtain ⟨c0, c1, c2, c3, c4, c5, c6, c7, c8, c9, c10⟩ := (HC0.out _ HT.out.bw).1
          have k0 : (0 : Int) ≤ (m : Int) := by omega
          have k1 : (m : Int) < (N : Int) := by omega
          have HI1 := HI.out V f _ (HC0.out _ HT.out.bw).2
          obtain ⟨q, hq⟩ : ∃ q, q = ocR s.w s.h f := ⟨_, rfl⟩
          obtain ⟨r, hr⟩ : ∃ r, r = sfRect f := ⟨_, rfl⟩
          have hrq : isect r ⟨0, 0, s.w, s.h⟩ = q := by rw [hq, hr]; rfl
          have HQ := fun W0 => isectS_any r ⟨0, 0, s.w, s.h⟩ W0
          rw [hrq] at HQ
          dsimp only at HQ
          have HQ := Lib.hid HQ
          have HR1 := fun (W : World) h => HRR.out W f (.slice Ad f.data.length cd) h
          rw [← hr] at HR1
          have HR1 := Lib.hid HR1
          have hnx := ocO_take s.w s.h Hf.out
          rw [← hq] at hnx
          have Hnx := Lib.hid hnx
          have Hle := Lib.hid (ocO_taken s.w s.h G i)
          clear hf hd hbd hC hq hr hrq hm hnx
          rcases ho : sfOpq f with _ | _
          · rw [ho] at HI1
            have HI1 := Lib.hid HI1
            have Ho := Lib.hid ho
            clear ho
            go_wp2_with fail
            refine HI1.out.mono ?_
            rintro e w2 ⟨rfl, hb⟩
            have HT2 := Lib.hid (HT.out.call hb)
            have HO2 : Hid (w2.ownsRow (w.heap.size + 2) 49 4 u5 (ocO s.w s.h (G.take (i + 1))).length (rcsCells (ocO s.w s.h (G.take (i + 1))))) := Lib.hid (by rw [Hnx.out, Ho.out]; simpa using own_call2 HO.out hb)
            clear c0 c1 c2 c3 c4 c5 c6 c7 c8 c9 c10 d0 d1 d2 d3 hb HT HO
            go_wp2_with fail
            go_roundg (N - j - (i + 1))
            case measure => have := Hm.out; omega
            case rel => exact ⟨i + 1, _, _, rfl, by have := Hm.out; omega, rfl, rfl, by have := Hm.out; go_num, HT2, HO2⟩
          · rw [ho] at HI1
            have HI1 := Lib.hid HI1
            have Ho := Lib.hid ho
            clear ho
            go_wp2_with fail
            refine HI1.out.mono ?_
            rintro e w2 ⟨rfl, hb⟩
            have hT2 := HT.out.call hb
            have hO2 := own_call2 HO.out hb
            clear c0 c1 c2 c3 c4 c5 c6 c7 c8 c9 c10 d0 d1 d2 d3 hb HT HO
            go_upto_region 8 with fail
            refine wp_region_held_drew (S := fun V => CwS w s (.slice (some ⟨gs, 0, none⟩) N c) V) (by kernel_rfl) (hT2.call (belI_drew _)) (fun hS => ?_)
            replace hO2 := own_call2 hO2 (belI_drew _)
            refine wpAnyH_take (i := 0) (v := u5) rfl (by kernel_rfl) (by kernel_rfl) (by kernel_rfl) (fun _ _ _ h => h) (Or.inl ⟨by kernel_rfl, by intro w' hSw; (try dsimp only at hSw); go_simp⟩) (by assumption) ?_
            refine wpAnyH_take (i := 1) (v := .pointer (some ⟨w.heap.size, 3, none⟩)) rfl (by kernel_rfl) (by kernel_rfl) (by kernel_rfl) (fun _ _ _ h => h) (Or.inl ⟨by kernel_rfl, by intro w' hSw; (try dsimp only at hSw); go_simp⟩) (by assumption) ?_
            refine wpAnyH_take (i := 2) (v := .slice (some ⟨gs, 0, none⟩) N c) rfl (by kernel_rfl) (by kernel_rfl) (by kernel_rfl) (fun _ _ _ h => h) (Or.inl ⟨by kernel_rfl, by intro w' hSw; (try dsimp only at hSw); (obtain ⟨a0, a1, a2, a3⟩ := hSw.a.cells4); go_simp⟩) (by assumption) ?_
            refine wpAnyH_take (i := 3) (v := .int .i64 (m : Int)) rfl (by kernel_rfl) (by kernel_rfl) (by kernel_rfl) (fun _ _ _ h => h) (Or.inl ⟨by kernel_rfl, by intro w' hSw; (try dsimp only at hSw); go_simp⟩) (by assumption) ?_
            refine wpAnyH_take (i := 4) (v := .pointer (some ⟨gs, m * 11, none⟩)) rfl (by kernel_rfl) (by kernel_rfl) (by kernel_rfl) (fun _ _ _ h => h) (Or.inl ⟨by kernel_rfl, by intro w' hSw; (try dsimp only at hSw); go_simp⟩) (by assumption) ?_
            refine wpAnyH_take (i := 5) (v := .agg #[.int .i64 f.id, .int .i64 f.x, .int .i64 f.y, .int .i64 f.w, .int .i64 f.h, .int .i64 f.alpha, .int .i64 f.orient, .bool f.vis, .int .i64 f.bw, .int .i64 f.bh, .slice Ad f.data.length cd]) rfl (by kernel_rfl) (by kernel_rfl) (by kernel_rfl) (fun _ _ _ h => h) (Or.inl ⟨by kernel_rfl, by intro w' hSw; (try dsimp only at hSw); (obtain ⟨c0, c1, c2, c3, c4, c5, c6, c7, c8, c9, c10⟩ := (HC0.out _ hSw.bw).1); go_simp⟩) (by assumption) ?_
            refine wpAnyH_take (i := 7) (v := .pointer (some ⟨w.heap.size, 0, none⟩)) rfl (by kernel_rfl) (by kernel_rfl) (by kernel_rfl) (fun _ _ _ h => h) (Or.inl ⟨by kernel_rfl, by intro w' hSw; (try dsimp only at hSw); go_simp⟩) (by assumption) ?_
            refine wpAnyH_take (i := 8) (v := .int .i64 s.w) rfl (by kernel_rfl) (by kernel_rfl) (by kernel_rfl) (fun _ _ _ h => h) (Or.inl ⟨by kernel_rfl, by intro w' hSw; (try dsimp only at hSw); (obtain ⟨a0, a1, a2, a3⟩ := hSw.a.cells4); go_simp⟩) (by assumption) ?_
            refine wpAnyH_take (i := 9) (v := .pointer (some ⟨w.heap.size, 1, none⟩)) rfl (by kernel_rfl) (by kernel_rfl) (by kernel_rfl) (fun _ _ _ h => h) (Or.inl ⟨by kernel_rfl, by intro w' hSw; (try dsimp only at hSw); go_simp⟩) (by assumption) ?_
            refine wpAnyH_take (i := 10) (v := .int .i64 s.h) rfl (by kernel_rfl) (by kernel_rfl) (by kernel_rfl) (fun _ _ _ h => h) (Or.inl ⟨by kernel_rfl, by intro w' hSw; (try dsimp only at hSw); (obtain ⟨a0, a1, a2, a3⟩ := hSw.a.cells4); go_simp⟩) (by assumption) ?_
            refine wpAnyH_take (i := 11) (v := .agg #[.int .i64 0, .int .i64 0, .int .i64 s.w, .int .i64 s.h]) rfl (by kernel_rfl) (by kernel_rfl) (by kernel_rfl) (fun _ _ _ h => h) (Or.inl ⟨by kernel_rfl, by intro w' hSw; (try dsimp only at hSw); go_simp⟩) (by assumption) ?_
            (try simp only [Act.put]); (try simp only [List.setIfInBounds_toArray]); (try simp only [List.set_cons_zero, List.set_cons_succ])
            refine wpAnyH_ready (rs := [6]) (by kernel_rfl) (by simp) ?_
            refine (AllReadyH.cons rfl (fun K hK => ?_) AllReadyH.nil)
            · rw [if_pos (by kernel_rfl)]
              (try simp only [List.getElem_toArray]); (try simp only [List.getElem_cons_succ]); (try simp only [List.getElem_cons_zero])
              go_simp
              with_reducible refine (HR1.out _ (HC0.out _ hS.bw).2).mono ?_
              rintro e W' ⟨rfl, hb⟩
              dsimp only
              have hO2 := own_call2 hO2 hb
              refine hK.out _ _ (hS.call hb) (fun hS => ?_)
              clear hK
              (try simp only [Act.put]); (try simp only [List.setIfInBounds_toArray]); (try simp only [List.set_cons_zero, List.set_cons_succ])
              refine wpAnyH_ready (rs := [12]) (by kernel_rfl) (by simp) ?_
              refine (AllReadyH.cons rfl (fun K hK => ?_) AllReadyH.nil)
              · rw [if_pos (by kernel_rfl)]
                (try simp only [List.getElem_toArray]); (try simp only [List.getElem_cons_succ]); (try simp only [List.getElem_cons_zero])
                go_simp
                with_reducible refine (HQ.out _).mono ?_
                rintro e W' ⟨rfl, hb⟩
                dsimp only
                have hO2 := own_call2 hO2 hb
                refine hK.out _ _ (hS.call hb) (fun hS => ?_)
                clear hK
                (try simp only [Act.put]); (try simp only [List.setIfInBounds_toArray]); (try simp only [List.set_cons_zero, List.set_cons_succ])
                refine wpAnyH_ready (rs := [13]) (by kernel_rfl) (by simp) ?_
                refine (AllReadyH.cons rfl (fun K hK => ?_) AllReadyH.nil)
                · rw [if_pos (by kernel_rfl)]
                  (try simp only [List.getElem_toArray]); (try simp only [List.getElem_cons_succ]); (try simp only [List.getElem_cons_zero])
                  refine wp_build1o 49 (.tmp 48) q rfl (by first | with_reducible rfl | (go_simp; done) | rfl) rfl ?_
                  intro g1 W' hb hN1
                  have hO2 := own_call2 hO2 hb
                  refine hK.out _ _ (hS.call hb) (fun hS => ?_)
                  clear hK
                  (try simp only [Act.put]); (try simp only [List.setIfInBounds_toArray]); (try simp only [List.set_cons_zero, List.set_cons_succ])
                  refine wpAnyH_ready (rs := [14]) (by kernel_rfl) (by simp) ?_
                  refine (AllReadyH.cons rfl (fun K hK => ?_) AllReadyH.nil)
                  · rw [if_pos (by kernel_rfl)]
                    (try simp only [List.getElem_toArray]); (try simp only [List.getElem_cons_succ]); (try simp only [List.getElem_cons_zero])
                    refine wp_append_row (.tmp 36) (.tmp 49) 77 rfl (w.heap.size + 2) _ 49 i0 (.agg #[.int .i64 0, .int .i64 0, .int .i64 0, .int .i64 0]) 4 32 Try.underlying77 hi hz0 hz1 hz2 rfl (by decide) u5 _ _ (by first | with_reducible rfl | (go_simp; done) | rfl) hO2 _ 1 _ (by first | with_reducible rfl | (go_simp; done) | rfl) hN1 (rcs_one _) (by have := Hle.out; unfold maxLen; omega) (by have := Hle.out; omega) (by have := hS.x.lt; omega) ?_
                    intro v9 W' h9 hgr _
                    have hO9 := h9
                    skip
                    refine hK.out _ _ (hS.grown hO2 hgr) (fun hS => ?_)
                    clear hK
                    (try simp only [Act.put]); (try simp only [List.setIfInBounds_toArray]); (try simp only [List.set_cons_zero, List.set_cons_succ])
                    refine wpAnyH_take (i := 15) (v := v9) rfl (by kernel_rfl) (by kernel_rfl) (by kernel_rfl) (fun _ _ _ h => h) (Or.inl ⟨by kernel_rfl, by intro w' hSw; (try dsimp only at hSw); go_simp⟩) (by assumption) ?_
                    refine wpAnyH_done (by kernel_rfl) ?_ _
                    have HT9 := Lib.hid hS
                    have HO9 : Hid (W'.ownsRow (w.heap.size + 2) 49 4 v9 (ocO s.w s.h (G.take (i + 1))).length (rcsCells (ocO s.w s.h (G.take (i + 1))))) := Lib.hid (by rw [Hnx.out, Ho.out, if_pos rfl, rcsCells_append, List.length_append]; exact hO9)
                    clear hO9
                    go_wp2_with fail
                    go_roundg (N - j - (i + 1))
                    case measure => have := Hm.out; omega
                    case rel => exact ⟨i + 1, _, _, rfl, by have := Hm.out; omega, rfl, rfl, by have := Hm.out; go_num, HT9, HO9⟩
        · have hmN : m = N := by have := Hm.out; omega
          have hni : ¬ (m : Int) < (N : Int) := by omega
          have hfull : G.take i = G := List.take_of_length_le (by have := Hm.out; rw [HGl.out]; omega)
          have hO := HO.out
          rw [hfull] at hO
          obtain ⟨Q, hQ⟩ : ∃ Q, Q = canon (gridOf (ocO s.w s.h G)) := ⟨_, rfl⟩
          have HF1 := HF.out V u5 (ocO s.w s.h G) (RdR.of_own hO)
          rw [← hQ] at HF1
          have HF1 := Lib.hid HF1
          have HQ := Lib.hid hQ
          clear hO hfull hQ hm
          go_wp2_with fail
          refine HF1.out.mono ?_
          rintro e w3 ⟨z, rfl, hown, hb⟩
          obtain ⟨Az, cz, rfl⟩ := own_shape hown
          have HT2 := Lib.hid (HT.out.call hb)
          have hl := HT.out.x.lt
          obtain ⟨r0, r1⟩ := HT2.out.res
          have Hown := Lib.hid hown
          clear hown hb d0 d1 d2 d3
          go_wp2_with fail
          refine bodyPost_ret (v := .agg #[.slice Az Q.length cz]) (by simp [results, Try.results47, go_sem, r0]) rfl ?_
          rw [HA.out, ← HQ.out]
          exact ⟨_, rfl, own_set Hown.out (by omega) (by omega) _, HT2.out.bw.setCell (by simp) _⟩
    · have HA := Lib.hid (covM_no (s := s) (k := k) fun h => hk ⟨h.2.1, by rw [hNe]; exact h.2.2⟩)
      have q0 : IntKind.i64.wrap ((N : Int) - 1) = (N : Int) - 1 := wrap_in _ (by omega) (by omega)
      have Hk : Hid (k < -1 ∨ (N : Int) - 1 < k) := Lib.hid (by omega)
      clear hs hNe hk h hT0 hR hO
      go_enter Try.func47, Try.ntmps47
      go_wp2_with fail
      refine (HS.out _ (HR.out _ hT.bw)).mono ?_
      rintro e w1 ⟨rfl, hb⟩
      replace hT := hT.call hb
      clear d0 d1 d2 d3 hb
      obtain ⟨d0, d1, d2, d3⟩ := hT.a.cells4
      obtain ⟨r0, r1⟩ := hT.res
      go_wp2_with fail
      refine (inS_no _ _ _ _ Hk.out).mono ?_
      rintro e w2 ⟨rfl, rfl⟩
      go_wp2_with fail
      refine bodyPost_ret (v := .agg #[.slice none 0 0]) (by simp [results, Try.results47, go_sem, r0]) rfl ?_
      rw [HA.out]
      exact rg_zero hT.bw
  · rw [snB_no hs] at HS
    have HS := Lib.hid HS
    have HA := Lib.hid (covM_no (s := s) (k := k) fun h => hs h.1)
    have HR := Lib.hid hR
    clear hs h hT0 hR hO
    go_enter Try.func47, Try.ntmps47
    go_wp2_with fail
    refine (HS.out _ (HR.out _ hT.bw)).mono ?_
    rintro e w1 ⟨rfl, hb⟩
    replace hT := hT.call hb
    clear d0 d1 d2 d3 hb
    obtain ⟨r0, r1⟩ := hT.res
    go_wp2_with fail
    refine bodyPost_ret (v := .agg #[.slice none 0 0]) (by simp [results, Try.results47, go_sem, r0]) rfl ?_
    rw [HA.out]
    exact rg_zero hT.bw
end Go.Proofs.Ytfolphadhmgbiaa
