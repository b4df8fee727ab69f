/- The contracts of PaintInto, of the program and of its model. No statement is proved here. -/
import Derived.Test.YtokniebejilcbaaGreatMA
import Derived.Test.YtokniebejilcbaaGreatMB
import Derived.Test.YtokniebejilcbaaGreatMC
import Derived.Test.YtokniebejilcbaaGreatCpyI
import Derived.Test.YtokniebejilcbaaGreatCpyJ
import Derived.Test.YtokniebejilcbaaGreatFilB
import Derived.Test.YtokniebejilcbaaGreatSnS
import Derived.Test.YtokniebejilcbaaGreatSnD
import Derived.Test.YtokniebejilcbaaGreatEdH
import Derived.Test.YtokniebejilcbaaGreatOrdB
import Derived.Test.YtokniebejilcbaaGreatOrdI
import Derived.Test.YtokniebejilcbaaGreatOrdA
import Derived.Test.YtokniebejilcbaaGreatSclB
import Derived.Test.YtokniebejilcbaaGreatSfP
import Derived.Test.YtokniebejilcbaaGreatPnM
import Derived.Test.YtokniebejilcbaaGreatPnS
import Derived.Test.YtokniebejilcbaaGreatPnI
import Derived.Test.YtokniebejilcbaaGreatOcI
import Derived.Test.YtokniebejilcbaaGreatPnP
import Derived.Test.YtokniebejilcbaaGreatProg
import Derived.WalkKit
import Derived.ProofKit
import Derived.OpenShut
import Derived.WalkLawsBesides
import Derived.WalkSpells
import Derived.ShutString
import Derived.ChangeOld
import Derived.Below
import Derived.Lib.Hide
import Derived.BigQuiet
import Derived.Deep.QuietTactic
import Derived.Maps.AppendAt
import Derived.Deep.OwnRows
import Derived.Handy
import Derived.Deep.Draws
import Derived.OwnWalk
import Derived.Deep.AppendLies
import Derived.Deep.LoopGhost
import Derived.Deep.Onto
import Derived.Deep.MidRow
import Derived.Deep.WholeRow
import Derived.Laws.BitsAllLaws
import Derived.Lib.QuoteBits
import Derived.Deep.RegionHeld3
import Derived.Deep.DeepCutAuto
import Derived.Test.YtokniebejilcbaaGreatShelf
import Derived.Laws.CopyOwn
import Derived.Deep.RegionLaw
import Derived.Great.BuildSlice
import Derived.Laws.AppendOwn
import Derived.ChangeKeysEq
import Derived.Deep.RegionWith
import Derived.Shelf.RegionOpenPlain
import Derived.Lib.SliceRun
import Derived.Deep.DeepAppendRoom
namespace Go.Proofs.YtokniebejilcbaaGreat
open Go.RowKit
noncomputable def pniIm (i : Im) (s : Sn) (R : List Rc) : Im := copyIm i.w i.h i.d (pnIm s).w (pnIm s).h (pnIm s).d R
structure PiC (w : World) (i : Im) (s : Sn) (u v vr : Value) (V : World) : Prop where
 i : ImAt V w.heap.size 55 i.w i.h u
 a : BkAt V (w.heap.size + 1) 34 #[.int .i64 s.w, .int .i64 s.h, .int .i64 s.back, v]
 g : RgAt V (w.heap.size + 2) vr
 bw : Below w.heap.size w V
theorem PiC.call {w : World} {i : Im} {s : Sn} {u v vr : Value} {V V' : World} (h : PiC w i s u v vr V) (hb : Below V.heap.size V V') : PiC w i s u v vr V' := ⟨h.i.call hb, h.a.call hb, h.g.call hb, belI_call h.bw hb⟩
theorem PiC.far {w : World} {i : Im} {s : Sn} {u v vr : Value} {V V' : World} (h : PiC w i s u v vr V) (hg : V.grownBy V' (some (w.heap.size + 3))) : PiC w i s u v vr V' :=
 ⟨h.i.grown hg (fun e => by have := Option.some.inj e; omega), h.a.grown hg (fun e => by have := Option.some.inj e; omega), (hg.block _ h.g.lt (fun e => by have := Option.some.inj e; omega)).trans h.g, h.bw.grown hg h.bw.size (fun k e => by have := Option.some.inj e; omega)⟩
theorem PiC.born (w : World) (i : Im) (s : Sn) (u v vr : Value) : PiC w i s u v vr ((((w.alloc (.cells #[.int .i64 i.w, .int .i64 i.h, u] 55)).alloc (.cells #[.int .i64 s.w, .int .i64 s.h, .int .i64 s.back, v] 34)).alloc (.cells #[vr] 30)).alloc (.cells #[.int .i64 0, .int .i64 0, .slice none 0 0] 55)) :=
 ⟨((((ImAt.new w _ _ _ _).alloc _).alloc _).alloc _), (((BkAt.newAt (w := w.alloc (.cells #[.int .i64 i.w, .int .i64 i.h, u] 55)) (by simp) _ _).alloc _).alloc _), (RgAt.newAt (w := (w.alloc (.cells #[.int .i64 i.w, .int .i64 i.h, u] 55)).alloc (.cells #[.int .i64 s.w, .int .i64 s.h, .int .i64 s.back, v] 34)) (by simp) _).alloc _, belI_call (belI_call (belI_call (belI_box _ _) (belI_box _ _)) (belI_box _ _)) (belI_box _ _)⟩
set_option maxHeartbeats 2000000 in
set_option maxRecDepth 10000 in
theorem pniI (i : Im) (s : Sn) (R : List Rc) (u v vr : Value) (bs : List Nat) (w : World) (hm : i.d.length ≤ 2097152) (hi : RdI w u i.d) (h : repSfs.R w s.fs [v] bs) (hr : RdR w vr R) :
  Calls Tryz.prog 32 #[.agg #[.int .i64 i.w, .int .i64 i.h, u], .agg #[.int .i64 s.w, .int .i64 s.h, .int .i64 s.back, v], .agg #[vr]] w (AnsIm (pniIm i s R) w) := by
 have hS := PiC.born w i s u v vr
 have hO : ImAt ((((w.alloc (.cells #[.int .i64 i.w, .int .i64 i.h, u] 55)).alloc (.cells #[.int .i64 s.w, .int .i64 s.h, .int .i64 s.back, v] 34)).alloc (.cells #[vr] 30)).alloc (.cells #[.int .i64 0, .int .i64 0, .slice none 0 0] 55)) (w.heap.size + 3) 55 0 0 (.slice none 0 0) := ImAt.newAt (by simp) _ _ _ _
 have hdi := hi.call hS.bw
 have hR := Rep.call h hS.bw
 have hdr := hr.call hS.bw
 have hsz0 := hO.lt
 obtain ⟨Ai, ci, rfl⟩ := hi.form
 obtain ⟨⟨As, cs, rfl⟩, _⟩ := repSfs_form h
 obtain ⟨Ar, cr, rfl⟩ := hr.form
 have Hm := Lib.hid hm
 clear hi h hr hm
 have HL := Lib.hid (fun W h => paI s (.slice As s.fs.length cs) bs W h)
 unfold AnsIm at HL ⊢
 obtain ⟨P, hP⟩ : ∃ P, P = pnIm s := ⟨_, rfl⟩
 have HC := fun (W : World) (up : Value) (h1 : RdI W (.slice Ai i.d.length ci) i.d) (h2 : RdI W up P.d) (h3 : RdR W (.slice Ar R.length cr) R) => copyI_any i.w i.h _ i.d P.w P.h up P.d _ R W Hm.out h1 h2 h3
 unfold AnsIm at HC
 obtain ⟨J, hJ⟩ : ∃ J, J = pniIm i s R := ⟨_, rfl⟩
 rw [show copyIm i.w i.h i.d P.w P.h P.d R = J by rw [hJ, hP]; rfl] at HC
 rw [← hP] at HL
 rw [← hJ]
 have HC := Lib.hid HC
 clear hP hJ
 go_enter Tryz.func32, Tryz.ntmps32
 go_upto_region 1 with fail
 refine wp_region_held_drew (S := fun V => PiC w i s (.slice Ai i.d.length ci) (.slice As s.fs.length cs) (.slice Ar R.length cr) V) (by kernel_rfl) (hS.call (belI_drew _)) (fun hS => ?_)
 replace hdi := hdi.call (belI_drew _)
 replace hR := Rep.call hR (belI_drew _)
 replace hdr := hdr.call (belI_drew _)
 replace hO := hO.call (belI_drew _)
 refine tcH (i := 0) (v := .agg #[.int .i64 i.w, .int .i64 i.h, .slice Ai i.d.length ci]) rfl (by intro w' hSw; (try dsimp only at hSw); (obtain ⟨i0, i1, i2⟩ := hSw.i.cells); go_simp) ?_
 refine tcH (i := 1) (v := .agg #[.int .i64 s.w, .int .i64 s.h, .int .i64 s.back, .slice As s.fs.length cs]) rfl (by intro w' hSw; (try dsimp only at hSw); (obtain ⟨d0, d1, d2, d3⟩ := hSw.a.cells4); go_simp) ?_
 refine tcH (i := 3) (v := .agg #[.slice Ar R.length cr]) rfl (by intro w' hSw; (try dsimp only at hSw); (have g0 := hSw.g.cell); go_simp) ?_
 (try simp only [Act.put]); (try simp only [zPa]); (try simp only [zPb, zPc])
 refine wpAnyH_ready (rs := [2]) (by kernel_rfl) (by simp) ?_
 refine (AllReadyH.cons rfl (fun K hK => ?_) AllReadyH.nil)
 ·rw [if_pos (by kernel_rfl)]
  (try simp only [zGa]); (try simp only [zGb]); (try simp only [zGc])
  go_simp
  with_reducible refine (HL.out _ hR).mono ?_
  rintro e W' ⟨up, rfl, hown, hb⟩
  obtain ⟨Ap, cp, hup⟩ := ownI_shape hown
  subst hup
  dsimp only
  have hdi := hdi.call hb
  have hR := Rep.call hR hb
  have hdr := hdr.call hb
  have hO := hO.call hb
  refine hK.out _ _ (hS.call hb) (fun hS => ?_)
  clear hK
  (try simp only [Act.put]); (try simp only [zPa]); (try simp only [zPb, zPc])
  refine wpAnyH_ready (rs := [4]) (by kernel_rfl) (by simp) ?_
  refine (AllReadyH.cons rfl (fun K hK => ?_) AllReadyH.nil)
  ·rw [if_pos (by kernel_rfl)]
   (try simp only [zGa]); (try simp only [zGb]); (try simp only [zGc])
   go_simp
   with_reducible refine (HC.out _ _ hdi (RdI.of_own hown) hdr).mono ?_
   rintro e W' ⟨uq, rfl, hq, hb⟩
   obtain ⟨Aq, cq, huq⟩ := ownI_shape hq
   subst huq
   have hql := fun g hg => (hq.lt g hg).1
   have hsz := hO.lt
   dsimp only
   have hdi := hdi.call hb
   have hR := Rep.call hR hb
   have hdr := hdr.call hb
   have hO := hO.call hb
   have hown := ownI_call hown hb
   refine hK.out _ _ (hS.call hb) (fun hS => ?_)
   clear hK
   (try simp only [Act.put]); (try simp only [zPa]); (try simp only [zPb, zPc])
   refine wpAnyH_ready (rs := [5]) (by kernel_rfl) (by simp) ?_
   refine (AllReadyH.cons rfl (fun K hK => ?_) AllReadyH.nil)
   ·rw [if_pos (by kernel_rfl)]
    (try simp only [zGa]); (try simp only [zGb]); (try simp only [zGc])
    refine wp_store_im 55 size26 (.tmp 6) (.tmp 11) rfl (w.heap.size + 3) 0 0 _ J.w J.h Aq J.d.length cq rfl (by first | with_reducible rfl | (go_simp; done) | rfl) hO ?_
    intro W3 IB hgB
    skip
    skip
    skip
    skip
    skip
    have hqq := hq.kept hgB (by rcases hqe : (Value.slice Aq J.d.length cq).ownBlock with _ | q; exact .inl rfl; exact .inr (fun e => by have h1 := hql q hqe; have h2 := Option.some.inj e; omega))
    refine hK.out _ _ (hS.far hgB) (fun hS => ?_)
    clear hK
    (try simp only [Act.put]); (try simp only [zPa]); (try simp only [zPb, zPc])
    refine wpAnyH_done (by kernel_rfl) ?_ _
    obtain ⟨z0, z1, z2⟩ := IB.cells
    go_wp2_with fail
    exact bodyPost_ret (v := .agg #[.int .i64 J.w, .int .i64 J.h, .slice Aq J.d.length cq]) (by simp [results, Tryz.results32, go_sem, z0, z1, z2]) rfl ⟨_, rfl, hqq.mono (by omega), hS.bw⟩
end Go.Proofs.YtokniebejilcbaaGreat
