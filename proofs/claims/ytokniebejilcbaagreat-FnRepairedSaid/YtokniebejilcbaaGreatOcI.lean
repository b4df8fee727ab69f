/- The contracts of rectOnScreen, placedSurfaces and coverBy of the program. No statement is proved here. -/
import Derived.Test.YtokniebejilcbaaGreatMA
import Derived.Test.YtokniebejilcbaaGreatMC
import Derived.Test.YtokniebejilcbaaGreatMB
import Derived.Test.YtokniebejilcbaaGreatCpyI
import Derived.Test.YtokniebejilcbaaGreatFilB
import Derived.Test.YtokniebejilcbaaGreatSnS
import Derived.Test.YtokniebejilcbaaGreatSnD
import Derived.Test.YtokniebejilcbaaGreatEdH
import Derived.Test.YtokniebejilcbaaGreatSfR
import Derived.Test.YtokniebejilcbaaGreatOrdB
import Derived.Test.YtokniebejilcbaaGreatOrdS
import Derived.Test.YtokniebejilcbaaGreatOrdI
import Derived.Test.YtokniebejilcbaaGreatSclB
import Derived.Test.YtokniebejilcbaaGreatSfP
import Derived.Test.YtokniebejilcbaaGreatOcM
import Derived.Test.YtokniebejilcbaaGreatProg
import Derived.WalkKit
import Derived.ProofKit
import Derived.OpenShut
import Derived.WalkLawsBesides
import Derived.WalkSpells
import Derived.ShutString
import Derived.ChangeOld
import Derived.Below
import Derived.Lib.Hide
import Derived.BigQuiet
import Derived.Deep.QuietTactic
import Derived.Maps.AppendAt
import Derived.Deep.OwnRows
import Derived.Handy
import Derived.Deep.Draws
import Derived.OwnWalk
import Derived.Deep.AppendLies
import Derived.Deep.LoopGhost
import Derived.Deep.Onto
import Derived.Deep.MidRow
import Derived.Deep.WholeRow
import Derived.Laws.BitsAllLaws
import Derived.Lib.QuoteBits
import Derived.Deep.RegionHeld3
import Derived.Deep.DeepCutAuto
import Derived.Test.YtokniebejilcbaaGreatShelf
import Derived.Laws.CopyOwn
import Derived.Deep.RegionLaw
import Derived.Great.BuildSlice
import Derived.Shelf.RegionOpenPlain
import Derived.Lib.SliceRun
import Derived.Deep.RegionWith
import Derived.Laws.AppendOwn
import Derived.ChangeKeysEq
import Derived.Deep.DeepAppendRoom
namespace Go.Proofs.YtokniebejilcbaaGreat
open Go.RowKit
structure RoS (w : World) (s : Sn) (v : Value) (f : Sf) (d : Value) (V : World) : Prop where
 a : BkAt V w.heap.size 34 #[.int .i64 s.w, .int .i64 s.h, .int .i64 s.back, v]
 b : BkAt V (w.heap.size + 1) 153 #[.int .i64 f.id, .int .i64 f.x, .int .i64 f.y, .int .i64 f.w, .int .i64 f.h, .int .i64 f.alpha, .int .i64 f.orient, .bool f.vis, .int .i64 f.bw, .int .i64 f.bh, d]
 bw : Below w.heap.size w V
theorem RoS.call {w : World} {s : Sn} {v : Value} {f : Sf} {d : Value} {V V' : World} (h : RoS w s v f d V) (hb : Below V.heap.size V V') : RoS w s v f d V' := ⟨h.a.call hb, h.b.call hb, belI_call h.bw hb⟩
theorem RoS.grown {w : World} {s : Sn} {v : Value} {f : Sf} {d : Value} {V V' : World} (h : RoS w s v f d V) (hg : V.grownBy V' (some (w.heap.size + 1 + 1))) : RoS w s v f d V' :=
 ⟨h.a.grown hg (fun e => by have := Option.some.inj e; omega), h.b.grown hg (fun e => by have := Option.some.inj e; omega), (Chg.of_grown hg).below h.bw h.bw.size (fun b hb => by have h0 : b = w.heap.size + 1 + 1 := (by simpa using hb); omega)⟩
set_option maxHeartbeats 1000000 in
set_option maxRecDepth 10000 in
theorem rosI (s : Sn) (v : Value) (hv : ∃ A n c, v = .slice A n c) (f : Sf) (d : Value) (w : World) (hd : RdI w d f.data) : Calls Tryz.prog 145 #[.agg #[.int .i64 s.w, .int .i64 s.h, .int .i64 s.back, v], .agg #[.int .i64 f.id, .int .i64 f.x, .int .i64 f.y, .int .i64 f.w, .int .i64 f.h, .int .i64 f.alpha, .int .i64 f.orient, .bool f.vis, .int .i64 f.bw, .int .i64 f.bh, d]] w (RcAns (ocR s.w s.h f) w) := by
 obtain ⟨Av, nv, cv, rfl⟩ := hv
 obtain ⟨Ad, cd, rfl⟩ := hd.form
 have hS : RoS w s (.slice Av nv cv) f (.slice Ad f.data.length cd) (((w.alloc (.cells #[.int .i64 s.w, .int .i64 s.h, .int .i64 s.back, .slice Av nv cv] 34)).alloc (.cells #[.int .i64 f.id, .int .i64 f.x, .int .i64 f.y, .int .i64 f.w, .int .i64 f.h, .int .i64 f.alpha, .int .i64 f.orient, .bool f.vis, .int .i64 f.bw, .int .i64 f.bh, .slice Ad f.data.length cd] 153)).alloc (.cells #[.int .i64 0, .int .i64 0, .int .i64 0, .int .i64 0] 111)) :=
  ⟨((BkAt.new _ _ _).call (belI_box _ _)).call (belI_box _ _), (BkAt.newAt (by simp) _ _).call (belI_box _ _), belI_call (belI_call (belI_box _ _) (belI_box _ _)) (belI_box _ _)⟩
 have hr : RcAt (((w.alloc (.cells #[.int .i64 s.w, .int .i64 s.h, .int .i64 s.back, .slice Av nv cv] 34)).alloc (.cells #[.int .i64 f.id, .int .i64 f.x, .int .i64 f.y, .int .i64 f.w, .int .i64 f.h, .int .i64 f.alpha, .int .i64 f.orient, .bool f.vis, .int .i64 f.bw, .int .i64 f.bh, .slice Ad f.data.length cd] 153)).alloc (.cells #[.int .i64 0, .int .i64 0, .int .i64 0, .int .i64 0] 111)) (w.heap.size + 1 + 1) ⟨0, 0, 0, 0⟩ := RcAt.newAt (by simp) ⟨0, 0, 0, 0⟩
 obtain ⟨r, hre⟩ : ∃ r, r = sfRect f := ⟨_, rfl⟩
 obtain ⟨q, hq⟩ : ∃ q, q = ocR s.w s.h f := ⟨_, rfl⟩
 have HR := fun W0 (h : RdI W0 (.slice Ad f.data.length cd) f.data) => srI f _ W0 h
 unfold SrAns at HR
 have HQ := fun W0 => isectI_any r ⟨0, 0, s.w, s.h⟩ W0
 rw [← hre] at HR
 have hrq : isect r ⟨0, 0, s.w, s.h⟩ = q := by rw [hq, hre]; rfl
 rw [hrq] at HQ
 rw [← hq]
 unfold RcAns at HR ⊢
 dsimp only at HQ
 have HR := Lib.hid HR
 have HQ := Lib.hid HQ
 replace hd := ((hd.alloc (.cells #[.int .i64 s.w, .int .i64 s.h, .int .i64 s.back, .slice Av nv cv] 34)).alloc (.cells #[.int .i64 f.id, .int .i64 f.x, .int .i64 f.y, .int .i64 f.w, .int .i64 f.h, .int .i64 f.alpha, .int .i64 f.orient, .bool f.vis, .int .i64 f.bw, .int .i64 f.bh, .slice Ad f.data.length cd] 153)).alloc (.cells #[.int .i64 0, .int .i64 0, .int .i64 0, .int .i64 0] 111)
 clear hre hq hrq
 go_enter Tryz.func145, Tryz.ntmps145
 go_upto_region 1 with fail
 refine wp_region_held_drew (S := fun V => RoS w s (.slice Av nv cv) f (.slice Ad f.data.length cd) V) (by kernel_rfl) (hS.call (belI_drew _)) (fun hS => ?_)
 replace hr := hr.below (belI_drew _) hr.lt
 replace hd := hd.drew
 refine tcH (i := 0) (v := .agg #[.int .i64 f.id, .int .i64 f.x, .int .i64 f.y, .int .i64 f.w, .int .i64 f.h, .int .i64 f.alpha, .int .i64 f.orient, .bool f.vis, .int .i64 f.bw, .int .i64 f.bh, .slice Ad f.data.length cd]) rfl (by intro w' hSw; (try dsimp only at hSw); (have e0 := hSw.b.cell 0 rfl); (have e1 := hSw.b.cell 1 rfl); (have e2 := hSw.b.cell 2 rfl); (have e3 := hSw.b.cell 3 rfl); (have e4 := hSw.b.cell 4 rfl); (have e5 := hSw.b.cell 5 rfl); (have e6 := hSw.b.cell 6 rfl); (have e7 := hSw.b.cell 7 rfl); (have e8 := hSw.b.cell 8 rfl); (have e9 := hSw.b.cell 9 rfl); (have e10 := hSw.b.cell 10 rfl); go_simp) ?_
 refine tkH (i := 2) (v := .pointer (some ⟨w.heap.size, 0, none⟩)) rfl ?_
 refine tcH (i := 3) (v := .int .i64 s.w) rfl (by intro w' hSw; (try dsimp only at hSw); (obtain ⟨a0, a1, a2, a3⟩ := hSw.a.cells4); go_simp) ?_
 refine tkH (i := 4) (v := .pointer (some ⟨w.heap.size, 1, none⟩)) rfl ?_
 refine tcH (i := 5) (v := .int .i64 s.h) rfl (by intro w' hSw; (try dsimp only at hSw); (obtain ⟨a0, a1, a2, a3⟩ := hSw.a.cells4); go_simp) ?_
 refine tkH (i := 6) (v := .agg #[.int .i64 0, .int .i64 0, .int .i64 s.w, .int .i64 s.h]) rfl ?_
 (try simp only [Act.put]); (try simp only [zPa]); (try simp only [zPb, zPc])
 refine wpAnyH_ready (rs := [1]) (by kernel_rfl) (by simp) ?_
 refine (AllReadyH.cons rfl (fun K hK => ?_) AllReadyH.nil)
 ·rw [if_pos (by kernel_rfl)]
  (try simp only [zGa]); (try simp only [zGb]); (try simp only [zGc])
  go_simp
  with_reducible refine (HR.out _ hd).mono ?_
  rintro e W' ⟨rfl, hb⟩
  dsimp only
  have hr := hr.below hb hr.lt
  have hd := hd.call hb
  refine hK.out _ _ (hS.call hb) (fun hS => ?_)
  clear hK
  (try simp only [Act.put]); (try simp only [zPa]); (try simp only [zPb, zPc])
  refine wpAnyH_ready (rs := [7]) (by kernel_rfl) (by simp) ?_
  refine (AllReadyH.cons rfl (fun K hK => ?_) AllReadyH.nil)
  ·rw [if_pos (by kernel_rfl)]
   (try simp only [zGa]); (try simp only [zGb]); (try simp only [zGc])
   go_simp
   with_reducible refine (HQ.out _).mono ?_
   rintro e W' ⟨rfl, hb⟩
   dsimp only
   have hr := hr.below hb hr.lt
   have hd := hd.call hb
   refine hK.out _ _ (hS.call hb) (fun hS => ?_)
   clear hK
   (try simp only [Act.put]); (try simp only [zPa]); (try simp only [zPb, zPc])
   refine wpAnyH_ready (rs := [8]) (by kernel_rfl) (by simp) ?_
   refine (AllReadyH.cons rfl (fun K hK => ?_) AllReadyH.nil)
   ·rw [if_pos (by kernel_rfl)]
    (try simp only [zGa]); (try simp only [zGb]); (try simp only [zGc])
    refine wp_store_rc (.tmp 4) (.tmp 12) rfl (w.heap.size + 1 + 1) ⟨0, 0, 0, 0⟩ q rfl (by first | with_reducible rfl | (go_simp; done) | rfl) hr ?_
    intro W3 IB hgB
    skip
    skip
    refine hK.out _ _ (hS.grown hgB) (fun hS => ?_)
    clear hK
    (try simp only [Act.put]); (try simp only [zPa]); (try simp only [zPb, zPc])
    refine wpAnyH_done (by kernel_rfl) ?_ _
    obtain ⟨r0, r1, r2, r3⟩ := IB.cells
    go_wp2_with fail
    exact bodyPost_ret (v := .agg #[.int .i64 q.x, .int .i64 q.y, .int .i64 q.w, .int .i64 q.h]) (by simp [results, Tryz.results145, go_sem, r0, r1, r2, r3]) rfl ⟨rfl, hS.bw⟩
theorem pl_d {w : World} {fs : List Sf} {A : Option Addr} {n c : Nat} {bs : List Nat} (h : repSfs.R w fs [.slice A n c] bs) {k : Nat} (hk : k < fs.length) : ∃ g f d bd, A = some ⟨g, 0, none⟩ ∧ fs[k]? = some f ∧ C11 w g (k * 11) f d ∧ repInts.R w f.data [d] bd ∧ ∀ b ∈ bd, b ∈ bs := by
 rcases SlU.of_rep h with ⟨_, rfl, _⟩ | ⟨g, c', xs, bss, he, hU, rfl⟩
 ·simp at hk
 ·injection he with e1 e2 e3
  subst e1
  obtain ⟨f, x, b, hf, hx, hb, hl, hR, hc⟩ := hU.at_ hk
  obtain ⟨d, rfl, hd⟩ := hR
  exact ⟨g, f, d, b, rfl, hf, c11_of hc, hd, fun q hq => List.mem_cons.2 (.inr (flat_mem hb hq))⟩
end Go.Proofs.YtokniebejilcbaaGreat
