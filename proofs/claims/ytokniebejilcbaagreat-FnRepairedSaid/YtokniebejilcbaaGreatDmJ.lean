/- The contracts of the program's reorderedRects and DamageOf. No statement is proved here. -/
import Derived.Test.YtokniebejilcbaaGreatMA
import Derived.Test.YtokniebejilcbaaGreatMC
import Derived.Test.YtokniebejilcbaaGreatMB
import Derived.Test.YtokniebejilcbaaGreatCpyI
import Derived.Test.YtokniebejilcbaaGreatFilB
import Derived.Test.YtokniebejilcbaaGreatSnO
import Derived.Test.YtokniebejilcbaaGreatSnS
import Derived.Test.YtokniebejilcbaaGreatSnD
import Derived.Test.YtokniebejilcbaaGreatEdH
import Derived.Test.YtokniebejilcbaaGreatSfR
import Derived.Test.YtokniebejilcbaaGreatOrdB
import Derived.Test.YtokniebejilcbaaGreatOrdI
import Derived.Test.YtokniebejilcbaaGreatOrdA
import Derived.Test.YtokniebejilcbaaGreatSclB
import Derived.Test.YtokniebejilcbaaGreatSfP
import Derived.Test.YtokniebejilcbaaGreatOcM
import Derived.Test.YtokniebejilcbaaGreatDmM
import Derived.Test.YtokniebejilcbaaGreatOcI
import Derived.Test.YtokniebejilcbaaGreatOcS
import Derived.Test.YtokniebejilcbaaGreatDmI
import Derived.Test.YtokniebejilcbaaGreatProg
import Derived.WalkKit
import Derived.ProofKit
import Derived.OpenShut
import Derived.WalkLawsBesides
import Derived.WalkSpells
import Derived.ShutString
import Derived.ChangeOld
import Derived.Below
import Derived.Lib.Hide
import Derived.BigQuiet
import Derived.Deep.QuietTactic
import Derived.Maps.AppendAt
import Derived.Deep.OwnRows
import Derived.Handy
import Derived.Deep.Draws
import Derived.OwnWalk
import Derived.Deep.AppendLies
import Derived.Deep.LoopGhost
import Derived.Deep.Onto
import Derived.Deep.MidRow
import Derived.Deep.WholeRow
import Derived.Laws.BitsAllLaws
import Derived.Lib.QuoteBits
import Derived.Deep.RegionHeld3
import Derived.Deep.DeepCutAuto
import Derived.Test.YtokniebejilcbaaGreatShelf
import Derived.Laws.CopyOwn
import Derived.Deep.RegionLaw
import Derived.Great.BuildSlice
import Derived.Laws.AppendOwn
import Derived.ChangeKeysEq
import Derived.Deep.RegionWith
import Derived.Maps.RangeWalk
import Derived.Maps.OwnOps
import Derived.Shelf.RegionOpenPlain
import Derived.Lib.SliceRun
import Derived.Deep.DeepAppendRoom
namespace Go.Proofs.YtokniebejilcbaaGreat
open Go.RowKit
theorem dm_cap {V : World} {fs : List Sf} {g n c : Nat} {bs : List Nat} (h : repSfs.R V fs [.slice (some ⟨g, 0, none⟩) n c] bs) : n ≤ c := by
 obtain ⟨v', xs, bss, e, hr, hs, ho, _⟩ := h
 obtain rfl : Value.slice (some ⟨g, 0, none⟩) n c = v' := by simpa using e
 rcases ho.2 with ⟨he, _⟩ | ⟨g', cap, cur, he, _, _, hn, _⟩
 ·cases he
 ·injection he with e1 e2 e3
  omega
theorem row_not_sf {V : World} {B n b : Nat} {u : Value} {xs : List Value} (ho : V.ownsRow B 111 4 u n xs) {cs : Array Value} (hm : BkAt V b 153 cs) : u.ownBlock ≠ some b := fun hu => by
 rcases ho.2 with ⟨rfl, _⟩ | ⟨g, cap, cur, rfl, _, hc, _⟩
 ·cases hu
 ·obtain rfl : g = b := by simpa [Value.ownBlock] using hu
  unfold BkAt at hm
  rw [hm] at hc
  injection hc with hc
  injection hc with _ h2 _
  exact absurd h2 (by decide)
structure DmP (w : World) (s t : Sn) (u v : Value) (bf : Nat) (f : Sf) (df : Value) (bg : Nat) (g : Sf) (dg : Value) (V : World) : Prop where
 x : DmB w s t u v V
 f : BkAt V bf 153 #[.int .i64 f.id, .int .i64 f.x, .int .i64 f.y, .int .i64 f.w, .int .i64 f.h, .int .i64 f.alpha, .int .i64 f.orient, .bool f.vis, .int .i64 f.bw, .int .i64 f.bh, df]
 g : BkAt V bg 153 #[.int .i64 g.id, .int .i64 g.x, .int .i64 g.y, .int .i64 g.w, .int .i64 g.h, .int .i64 g.alpha, .int .i64 g.orient, .bool g.vis, .int .i64 g.bw, .int .i64 g.bh, dg]
theorem DmP.call {w : World} {s t : Sn} {u v : Value} {bf : Nat} {f : Sf} {df : Value} {bg : Nat} {g : Sf} {dg : Value} {V V' : World} (h : DmP w s t u v bf f df bg g dg V) (hb : Below V.heap.size V V') : DmP w s t u v bf f df bg g dg V' := ⟨h.x.call hb, h.f.call hb, h.g.call hb⟩
theorem DmP.grown {w : World} {s t : Sn} {u v : Value} {bf : Nat} {f : Sf} {df : Value} {bg : Nat} {g : Sf} {dg : Value} {V V' : World} {z : Value} {n : Nat} {xs : List Value} (h : DmP w s t u v bf f df bg g dg V) (ho : V.ownsRow (w.heap.size + 2) 111 4 z n xs) (hg : V.grownBy V' z.ownBlock) : DmP w s t u v bf f df bg g dg V' :=
 ⟨h.x.grown (fun k hk => (own_ltB ho k (by rw [hk]; simp)).1) hg, h.f.grown hg fun e => row_not_sf ho h.f e.symm, h.g.grown hg fun e => row_not_sf ho h.g e.symm⟩
def ReoAns (s t : Sn) (w : World) (e : Ending) (w' : World) : Prop := ∃ z, e = .returned z ∧ w'.ownsRow w.heap.size 111 4 z (dmJ (fun _ => []) (ocR t.w t.h) s.fs t.fs t.fs.length).length (rcsCells (dmJ (fun _ => []) (ocR t.w t.h) s.fs t.fs t.fs.length)) ∧ Below w.heap.size w w'
set_option maxHeartbeats 4000000 in
set_option maxRecDepth 10000 in
theorem reoI (s t : Sn) (u v : Value) (bu bv : List Nat) (w : World) (ht : snOk t) (hu : repSfs.R w s.fs [u] bu) (hv : repSfs.R w t.fs [v] bv) :
  Calls Tryz.prog 68 #[.agg #[.int .i64 s.w, .int .i64 s.h, .int .i64 s.back, u], .agg #[.int .i64 t.w, .int .i64 t.h, .int .i64 t.back, v]] w (ReoAns s t w) := by
 obtain ⟨⟨Au, cu, rfl⟩, _⟩ := repSfs_form hu
 obtain ⟨⟨A, c, rfl⟩, _⟩ := repSfs_form hv
 obtain ⟨i0, hi, hz0, hz1, hz2⟩ := info2_rc
 obtain ⟨N, hN⟩ : ∃ N, N = t.fs.length := ⟨_, rfl⟩
 obtain ⟨nu, hnu⟩ : ∃ N, N = s.fs.length := ⟨_, rfl⟩
 have hN6 : N ≤ 6 := by rw [hN]; exact ht.2.2.1
 unfold ReoAns
 rw [← hN] at hv ⊢
 rw [← hnu] at hu ⊢
 have hX := DmB.born w s t (.slice Au nu cu) (.slice A N c)
 obtain ⟨wA, hwA⟩ : ∃ V, V = (w.alloc (.cells #[.int .i64 s.w, .int .i64 s.h, .int .i64 s.back, .slice Au nu cu] 34)).alloc (.cells #[.int .i64 t.w, .int .i64 t.h, .int .i64 t.back, .slice A N c] 34) := ⟨_, rfl⟩
 rw [← hwA] at hX
 have HU := Lib.hid hu
 have HW := Lib.hid hv
 have HN := Lib.hid hN
 have HST := Lib.hid (fun (V : World) i j h => standsI s i j (.slice Au nu cu) bu V h)
 have HJl := Lib.hid (fun k => dmJ_len (X := fun _ => []) (fun _ => Nat.zero_le _) (ocR t.w t.h) s.fs (L := t.fs) (by rw [← hN]; exact hN6) k)
 have HWA := Lib.hid hwA
 have hO : wA.ownsRow (w.heap.size + 2) 111 4 (.slice none 0 0) (dmJ (fun _ => []) (ocR t.w t.h) s.fs t.fs 0).length (rcsCells (dmJ (fun _ => []) (ocR t.w t.h) s.fs t.fs 0)) := ⟨rfl, .inl ⟨rfl, rfl⟩⟩
 have HO := Lib.hid hO
 obtain ⟨b0, b1, b2, b3⟩ := hX.b.cells4
 rw [hwA] at b0 b1 b2 b3
 have HX := Lib.hid hX
 clear ht hu hv hN hnu hX hwA hO
 go_enter Tryz.func68, Tryz.ntmps68
 go_wp2_with fail
 rw [← HWA.out]
 clear b0 b1 b2 b3
 go_loopg [5, 13] N (fun gk s5 s13 wr => ∃ (k : Nat) (u5 : Value) (V : World), V = wr ∧ k ≤ N ∧ gk = N - k ∧ s5 = u5 ∧ s13 = .int .i64 k ∧ Hid (DmB w s t (.slice Au nu cu) (.slice A N c) V) ∧ Hid (V.ownsRow (w.heap.size + 2) 111 4 u5 (dmJ (fun _ => []) (ocR t.w t.h) s.fs t.fs k).length (rcsCells (dmJ (fun _ => []) (ocR t.w t.h) s.fs t.fs k))))
 case atStart => exact ⟨0, _, _, rfl, Nat.zero_le _, by omega, rfl, rfl, HX, HO⟩
 case round =>
  clear HX HO
  obtain ⟨k, u5, V, hV, hk, rfl, rfl, rfl, HX, HO⟩ := hrel
  subst hV
  by_cases hlt : k < N
  ·obtain ⟨gs, f, d, bd, rfl, hf, hC, hd, hbd⟩ := pl_d HW.out (k := k) (by rw [← HN.out]; exact hlt)
   have hcap := dm_cap HW.out
   obtain ⟨⟨Ad, cd, rfl⟩, _⟩ := ints_form hd
   have HF0 : Hid (∀ V' : World, Below w.heap.size w V' → RdI V' (.slice Ad f.data.length cd) f.data) := Lib.hid fun V' hb => repInts_rd (Rep.call hd hb)
   obtain ⟨c0, c1, c2, c3, c4, c5, c6, c7, c8, c9, c10⟩ := hC.call HX.out.bw
   obtain ⟨V1, hV1⟩ : ∃ V1, V1 = V.alloc (.cells #[.int .i64 f.id, .int .i64 f.x, .int .i64 f.y, .int .i64 f.w, .int .i64 f.h, .int .i64 f.alpha, .int .i64 f.orient, .bool f.vis, .int .i64 f.bw, .int .i64 f.bh, .slice Ad f.data.length cd] 153) := ⟨_, rfl⟩
   obtain ⟨bf, hbf⟩ : ∃ b, b = V.heap.size := ⟨_, rfl⟩
   have hbx : Below V.heap.size V V1 := by rw [hV1]; exact belI_box _ _
   have hF : BkAt V1 bf 153 #[.int .i64 f.id, .int .i64 f.x, .int .i64 f.y, .int .i64 f.w, .int .i64 f.h, .int .i64 f.alpha, .int .i64 f.orient, .bool f.vis, .int .i64 f.bw, .int .i64 f.bh, .slice Ad f.data.length cd] := by rw [hV1, hbf]; exact BkAt.new _ _ _
   have HF := Lib.hid hF
   have HX1 := Lib.hid (HX.out.call hbx)
   have HO1 : Hid (V1.ownsRow (w.heap.size + 2) 111 4 u5 (dmJ (fun _ => []) (ocR t.w t.h) s.fs t.fs k ++ dmIn (ocR t.w t.h) s.fs f (t.fs.take 0)).length (rcsCells (dmJ (fun _ => []) (ocR t.w t.h) s.fs t.fs k ++ dmIn (ocR t.w t.h) s.fs f (t.fs.take 0)))) := Lib.hid (by
    have := own_call2 HO.out hbx
    rw [show dmJ (fun _ => []) (ocR t.w t.h) s.fs t.fs k ++ dmIn (ocR t.w t.h) s.fs f (t.fs.take 0) = dmJ (fun _ => []) (ocR t.w t.h) s.fs t.fs k by rw [List.take_zero]; exact List.append_nil _]
    exact this)
   have k0 : (0 : Int) ≤ (k : Int) := by omega
   have k1 : (k : Int) < (N : Int) := by omega
   have k2 : (k : Int) ≤ (c : Int) := by omega
   have Hnx := Lib.hid (dmJ_next (X := fun _ => []) (R := ocR t.w t.h) (a := s.fs) hf)
   have HV1 := Lib.hid hV1
   have Hbf := Lib.hid hbf
   obtain ⟨b0, b1, b2, b3⟩ := HX1.out.b.cells4
   rw [hV1] at b0 b1 b2 b3
   clear hf hC hd hbd hV1 hbf hbx hF HX HO
   go_wp2_with fail
   rw [← HV1.out, ← Hbf.out]
   clear b0 b1 b2 b3 c0 c1 c2 c3 c4 c5 c6 c7 c8 c9 c10
   go_loopg [5, 23] k (fun gk s5 s23 wr => ∃ (m : Nat) (u5 : Value) (V : World), V = wr ∧ m ≤ k ∧ gk = k - m ∧ s5 = u5 ∧ s23 = .int .i64 m ∧ Hid (DmB w s t (.slice Au nu cu) (.slice (some ⟨gs, 0, none⟩) N c) V) ∧ Hid (BkAt V bf 153 #[.int .i64 f.id, .int .i64 f.x, .int .i64 f.y, .int .i64 f.w, .int .i64 f.h, .int .i64 f.alpha, .int .i64 f.orient, .bool f.vis, .int .i64 f.bw, .int .i64 f.bh, .slice Ad f.data.length cd]) ∧ Hid (V.ownsRow (w.heap.size + 2) 111 4 u5 (dmJ (fun _ => []) (ocR t.w t.h) s.fs t.fs k ++ dmIn (ocR t.w t.h) s.fs f (t.fs.take m)).length (rcsCells (dmJ (fun _ => []) (ocR t.w t.h) s.fs t.fs k ++ dmIn (ocR t.w t.h) s.fs f (t.fs.take m)))))
   case atStart => exact ⟨0, _, _, rfl, Nat.zero_le _, by omega, rfl, rfl, HX1, HF, HO1⟩
   case round =>
    clear HX1 HF HO1 HV1 Hbf
    obtain ⟨m, u5, V, hV, hm, rfl, rfl, rfl, HX, HF, HO⟩ := hrel
    subst hV
    by_cases hlm : m < k
    ·obtain ⟨gs', g, d, bd, egs, hg, hC, hd, hbd⟩ := pl_d HW.out (k := m) (by rw [← HN.out]; omega)
     obtain rfl : gs = gs' := by injection egs with egs; injection egs
     obtain ⟨⟨Ag, cg, rfl⟩, _⟩ := ints_form hd
     have HG0 : Hid (∀ V' : World, Below w.heap.size w V' → RdI V' (.slice Ag g.data.length cg) g.data) := Lib.hid fun V' hb => repInts_rd (Rep.call hd hb)
     obtain ⟨c0, c1, c2, c3, c4, c5, c6, c7, c8, c9, c10⟩ := hC.call HX.out.bw
     obtain ⟨V1, hV1⟩ : ∃ V1, V1 = V.alloc (.cells #[.int .i64 g.id, .int .i64 g.x, .int .i64 g.y, .int .i64 g.w, .int .i64 g.h, .int .i64 g.alpha, .int .i64 g.orient, .bool g.vis, .int .i64 g.bw, .int .i64 g.bh, .slice Ag g.data.length cg] 153) := ⟨_, rfl⟩
     obtain ⟨bg, hbg⟩ : ∃ b, b = V.heap.size := ⟨_, rfl⟩
     have hbx : Below V.heap.size V V1 := by rw [hV1]; exact belI_box _ _
     have hG : BkAt V1 bg 153 #[.int .i64 g.id, .int .i64 g.x, .int .i64 g.y, .int .i64 g.w, .int .i64 g.h, .int .i64 g.alpha, .int .i64 g.orient, .bool g.vis, .int .i64 g.bw, .int .i64 g.bh, .slice Ag g.data.length cg] := by rw [hV1, hbg]; exact BkAt.new _ _ _
     have HP1 : Hid (DmP w s t (.slice Au nu cu) (.slice (some ⟨gs, 0, none⟩) N c) bf f (.slice Ad f.data.length cd) bg g (.slice Ag g.data.length cg) V1) := Lib.hid ⟨HX.out.call hbx, HF.out.call hbx, hG⟩
     have HO1 := Lib.hid (own_call2 HO.out hbx)
     have m0 : (0 : Int) ≤ (m : Int) := by omega
     have m1 : (m : Int) < (k : Int) := by omega
     have hnx := dmIn_take (R := ocR t.w t.h) (a := s.fs) (f := f) hg
     have HV1 := Lib.hid hV1
     have Hbg := Lib.hid hbg
     obtain ⟨a0, a1, a2, a3⟩ := HP1.out.x.a.cells4
     have f0 := HP1.out.f.cell 0 rfl
     rw [hV1] at a0 a1 a2 a3 f0
     have HS1 := HST.out V1 f.id g.id (Rep.call HU.out HP1.out.x.bw)
     by_cases hup : dmUp s.fs f g
     ·rw [sb_yes hup] at HS1
      rw [if_pos hup] at hnx
      have HS1 := Lib.hid HS1
      obtain ⟨q1, hq1⟩ : ∃ q, q = ocR t.w t.h f := ⟨_, rfl⟩
      obtain ⟨q2, hq2⟩ : ∃ q, q = ocR t.w t.h g := ⟨_, rfl⟩
      rw [← hq1, ← hq2] at hnx
      obtain ⟨q3, hq3⟩ : ∃ q, q = isect q1 q2 := ⟨_, rfl⟩
      rw [← hq3] at hnx
      have Hnm := Lib.hid hnx
      have HR1 := fun V h => rosI t (.slice (some ⟨gs, 0, none⟩) N c) ⟨_, _, _, rfl⟩ f (.slice Ad f.data.length cd) V h
      have HR2 := fun V h => rosI t (.slice (some ⟨gs, 0, none⟩) N c) ⟨_, _, _, rfl⟩ g (.slice Ag g.data.length cg) V h
      unfold RcAns at HR1 HR2
      rw [← hq1] at HR1
      rw [← hq2] at HR2
      have HQ := fun V => isectI_any q1 q2 V
      rw [← hq3] at HQ
      have HR1 := Lib.hid HR1
      have HR2 := Lib.hid HR2
      have HQ := Lib.hid HQ
      have hln : (dmJ (fun _ => []) (ocR t.w t.h) s.fs t.fs k ++ dmIn (ocR t.w t.h) s.fs f (t.fs.take m)).length ≤ 48 := by
       rw [List.length_append]
       have h1 := HJl.out k
       have h2 := dmIn_len (ocR t.w t.h) s.fs f (t.fs.take m)
       rw [List.length_take] at h2
       omega
      have Hln := Lib.hid hln
      clear hg hC hd hbd hV1 hbg hbx hG hnx hup hq1 hq2 hq3 hln HX HF HO egs
      go_wp2_with fail
      rw [← HV1.out, ← Hbg.out]
      refine HS1.out.mono ?_
      rintro e w2 ⟨rfl, hb⟩
      have HP2 := Lib.hid (HP1.out.call hb)
      have hO2 := own_call2 HO1.out hb
      clear hb a0 a1 a2 a3 f0 c0 c1 c2 c3 c4 c5 c6 c7 c8 c9 c10 HP1 HO1 HS1
      go_upto_region 9 with fail
      refine wp_region_held_drew (S := fun V => DmP w s t (.slice Au nu cu) (.slice (some ⟨gs, 0, none⟩) N c) bf f (.slice Ad f.data.length cd) bg g (.slice Ag g.data.length cg) V) (by kernel_rfl) (HP2.out.call (belI_drew _)) (fun hS => ?_)
      replace hO2 := own_call2 hO2 (belI_drew _)
      refine tkH (i := 0) (v := u5) rfl ?_
      refine tcH (i := 1) (v := .agg #[.int .i64 t.w, .int .i64 t.h, .int .i64 t.back, .slice (some ⟨gs, 0, none⟩) N c]) rfl (by intro w' hSw; (try dsimp only at hSw); (obtain ⟨b0, b1, b2, b3⟩ := hSw.x.b.cells4); go_simp) ?_
      refine tcH (i := 2) (v := .agg #[.int .i64 f.id, .int .i64 f.x, .int .i64 f.y, .int .i64 f.w, .int .i64 f.h, .int .i64 f.alpha, .int .i64 f.orient, .bool f.vis, .int .i64 f.bw, .int .i64 f.bh, .slice Ad f.data.length cd]) rfl (by intro w' hSw; (try dsimp only at hSw); (have e0 := hSw.f.cell 0 rfl); (have e1 := hSw.f.cell 1 rfl); (have e2 := hSw.f.cell 2 rfl); (have e3 := hSw.f.cell 3 rfl); (have e4 := hSw.f.cell 4 rfl); (have e5 := hSw.f.cell 5 rfl); (have e6 := hSw.f.cell 6 rfl); (have e7 := hSw.f.cell 7 rfl); (have e8 := hSw.f.cell 8 rfl); (have e9 := hSw.f.cell 9 rfl); (have e10 := hSw.f.cell 10 rfl); go_simp) ?_
      refine tcH (i := 4) (v := .agg #[.int .i64 t.w, .int .i64 t.h, .int .i64 t.back, .slice (some ⟨gs, 0, none⟩) N c]) rfl (by intro w' hSw; (try dsimp only at hSw); (obtain ⟨b0, b1, b2, b3⟩ := hSw.x.b.cells4); go_simp) ?_
      refine tcH (i := 5) (v := .agg #[.int .i64 g.id, .int .i64 g.x, .int .i64 g.y, .int .i64 g.w, .int .i64 g.h, .int .i64 g.alpha, .int .i64 g.orient, .bool g.vis, .int .i64 g.bw, .int .i64 g.bh, .slice Ag g.data.length cg]) rfl (by intro w' hSw; (try dsimp only at hSw); (have e0 := hSw.g.cell 0 rfl); (have e1 := hSw.g.cell 1 rfl); (have e2 := hSw.g.cell 2 rfl); (have e3 := hSw.g.cell 3 rfl); (have e4 := hSw.g.cell 4 rfl); (have e5 := hSw.g.cell 5 rfl); (have e6 := hSw.g.cell 6 rfl); (have e7 := hSw.g.cell 7 rfl); (have e8 := hSw.g.cell 8 rfl); (have e9 := hSw.g.cell 9 rfl); (have e10 := hSw.g.cell 10 rfl); go_simp) ?_
      (try simp only [Act.put]); (try simp only [zPa]); (try simp only [zPb, zPc])
      refine wpAnyH_ready (rs := [3]) (by kernel_rfl) (by simp) ?_
      refine (AllReadyH.cons rfl (fun K hK => ?_) AllReadyH.nil)
      ·rw [if_pos (by kernel_rfl)]
       (try simp only [zGa]); (try simp only [zGb]); (try simp only [zGc])
       go_simp
       with_reducible refine (HR1.out _ (HF0.out _ hS.x.bw)).mono ?_
       rintro e W' ⟨rfl, hb⟩
       dsimp only
       have hO2 := own_call2 hO2 hb
       refine hK.out _ _ (hS.call hb) (fun hS => ?_)
       clear hK
       (try simp only [Act.put]); (try simp only [zPa]); (try simp only [zPb, zPc])
       refine wpAnyH_ready (rs := [6]) (by kernel_rfl) (by simp) ?_
       refine (AllReadyH.cons rfl (fun K hK => ?_) AllReadyH.nil)
       ·rw [if_pos (by kernel_rfl)]
        (try simp only [zGa]); (try simp only [zGb]); (try simp only [zGc])
        go_simp
        with_reducible refine (HR2.out _ (HG0.out _ hS.x.bw)).mono ?_
        rintro e W' ⟨rfl, hb⟩
        dsimp only
        have hO2 := own_call2 hO2 hb
        refine hK.out _ _ (hS.call hb) (fun hS => ?_)
        clear hK
        (try simp only [Act.put]); (try simp only [zPa]); (try simp only [zPb, zPc])
        refine wpAnyH_ready (rs := [7]) (by kernel_rfl) (by simp) ?_
        refine (AllReadyH.cons rfl (fun K hK => ?_) AllReadyH.nil)
        ·rw [if_pos (by kernel_rfl)]
         (try simp only [zGa]); (try simp only [zGb]); (try simp only [zGc])
         go_simp
         with_reducible refine (HQ.out _).mono ?_
         rintro e W' ⟨rfl, hb⟩
         dsimp only
         have hO2 := own_call2 hO2 hb
         refine hK.out _ _ (hS.call hb) (fun hS => ?_)
         clear hK
         (try simp only [Act.put]); (try simp only [zPa]); (try simp only [zPb, zPc])
         refine wpAnyH_ready (rs := [8]) (by kernel_rfl) (by simp) ?_
         refine (AllReadyH.cons rfl (fun K hK => ?_) AllReadyH.nil)
         ·rw [if_pos (by kernel_rfl)]
          (try simp only [zGa]); (try simp only [zGb]); (try simp only [zGc])
          refine wp_build1o 41 (.tmp 40) q3 rfl (by first | with_reducible rfl | (go_simp; done) | rfl) rfl ?_
          intro g1 W' hb hN1
          have hO2 := own_call2 hO2 hb
          refine hK.out _ _ (hS.call hb) (fun hS => ?_)
          clear hK
          (try simp only [Act.put]); (try simp only [zPa]); (try simp only [zPb, zPc])
          refine wpAnyH_ready (rs := [9]) (by kernel_rfl) (by simp) ?_
          refine (AllReadyH.cons rfl (fun K hK => ?_) AllReadyH.nil)
          ·rw [if_pos (by kernel_rfl)]
           (try simp only [zGa]); (try simp only [zGb]); (try simp only [zGc])
           refine wp_append_row (.tmp 33) (.tmp 41) 28 rfl (w.heap.size + 2) _ 111 i0 (.agg #[.int .i64 0, .int .i64 0, .int .i64 0, .int .i64 0]) 4 32 Tryz.underlying28 hi hz0 hz1 hz2 rfl (by decide) u5 _ _ (by first | with_reducible rfl | (go_simp; done) | rfl) hO2 _ 1 _ (by first | with_reducible rfl | (go_simp; done) | rfl) hN1 (rcs_one _) (by have := Hln.out; unfold maxLen; omega) (by have := Hln.out; omega) (by have := hS.x.sz; omega) ?_
           intro v9 W' h9 hgr _
           have hO9 := h9
           skip
           refine hK.out _ _ (hS.grown hO2 hgr) (fun hS => ?_)
           clear hK
           (try simp only [Act.put]); (try simp only [zPa]); (try simp only [zPb, zPc])
           refine tkH (i := 10) (v := v9) rfl ?_
           refine wpAnyH_done (by kernel_rfl) ?_ _
           have HX9 := Lib.hid hS.x
           have HF9 := Lib.hid hS.f
           have HO9 : Hid (W'.ownsRow (w.heap.size + 2) 111 4 v9 (dmJ (fun _ => []) (ocR t.w t.h) s.fs t.fs k ++ dmIn (ocR t.w t.h) s.fs f (t.fs.take (m + 1))).length (rcsCells (dmJ (fun _ => []) (ocR t.w t.h) s.fs t.fs k ++ dmIn (ocR t.w t.h) s.fs f (t.fs.take (m + 1))))) := Lib.hid (by rw [Hnm.out, ← List.append_assoc, rcsCells_append, List.length_append]; exact hO9)
           clear hO9
           go_wp2_with fail
           go_roundg (k - (m + 1))
           case measure => omega
           case rel => exact ⟨m + 1, _, _, rfl, by omega, rfl, rfl, by go_num, HX9, HF9, HO9⟩
     ·rw [sb_no hup] at HS1
      rw [if_neg hup, List.append_nil] at hnx
      have HS1 := Lib.hid HS1
      have Hnm := Lib.hid hnx
      clear hg hC hd hbd hV1 hbg hbx hG hnx hup HX HF HO egs
      go_wp2_with fail
      rw [← HV1.out, ← Hbg.out]
      refine HS1.out.mono ?_
      rintro e w2 ⟨rfl, hb⟩
      have HX2 := Lib.hid (HP1.out.x.call hb)
      have HF2 := Lib.hid (HP1.out.f.call hb)
      have HO2 : Hid (w2.ownsRow (w.heap.size + 2) 111 4 u5 (dmJ (fun _ => []) (ocR t.w t.h) s.fs t.fs k ++ dmIn (ocR t.w t.h) s.fs f (t.fs.take (m + 1))).length (rcsCells (dmJ (fun _ => []) (ocR t.w t.h) s.fs t.fs k ++ dmIn (ocR t.w t.h) s.fs f (t.fs.take (m + 1))))) := Lib.hid (by rw [Hnm.out]; exact own_call2 HO1.out hb)
      clear hb a0 a1 a2 a3 f0 c0 c1 c2 c3 c4 c5 c6 c7 c8 c9 c10 HP1 HO1 HS1
      go_wp2_with fail
      go_roundg (k - (m + 1))
      case measure => omega
      case rel => exact ⟨m + 1, _, _, rfl, by omega, rfl, rfl, by go_num, HX2, HF2, HO2⟩
    ·obtain rfl : m = k := by omega
     have HO2 : Hid (V.ownsRow (w.heap.size + 2) 111 4 u5 (dmJ (fun _ => []) (ocR t.w t.h) s.fs t.fs (m + 1)).length (rcsCells (dmJ (fun _ => []) (ocR t.w t.h) s.fs t.fs (m + 1)))) := Lib.hid (by rw [Hnx.out]; exact HO.out)
     have hni : ¬ (m : Int) < (m : Int) := by omega
     clear HO
     go_wp2_with fail
     go_roundg (N - (m + 1))
     case measure => omega
     case rel => exact ⟨m + 1, _, _, rfl, by omega, rfl, rfl, by go_num, HX, HO2⟩
  ·obtain rfl : k = N := by omega
   have HO2 := HO
   have hni : ¬ (k : Int) < (k : Int) := by omega
   have HK := Lib.hid HN.out
   go_wp2_with fail
   go_ret
   exact ⟨_, rfl, HO2.out.mono (by omega), HX.out.bw⟩
structure DmR (w : World) (s t : Sn) (u v : Value) (V : World) : Prop where
 x : DmB w s t u v V
 sz : w.heap.size + 3 ≤ V.heap.size
theorem DmR.call {w : World} {s t : Sn} {u v : Value} {V V' : World} (h : DmR w s t u v V) (hb : Below V.heap.size V V') : DmR w s t u v V' := ⟨h.x.call hb, Nat.le_trans h.sz hb.size⟩
theorem DmR.grown {w : World} {s t : Sn} {u v : Value} {V V' : World} (h : DmR w s t u v V) {row : Option Nat} (hlo : ∀ k, row = some k → w.heap.size + 2 ≤ k) (hg : V.grownBy V' row) : DmR w s t u v V' := ⟨h.x.grown hlo hg, Nat.le_trans h.sz hg.size⟩
theorem bk_res {V : World} {b : Nat} {t : TypeId} {z : Value} (h : BkAt V b t #[z]) : V.cell? ⟨b, 0, none⟩ = some z ∧ V.frozen? ⟨b, 0, none⟩ = false := ⟨h.cell 0 rfl, h.frozen 0⟩
theorem rg_zero3 {w V : World} (h : Below w.heap.size w V) : RgQ [] w (.returned (.agg #[.slice none 0 0])) (V.setCell ⟨w.heap.size + 1 + 1, 0, none⟩ (.slice none 0 0)) :=
 ⟨_, rfl, ⟨rfl, .inl ⟨rfl, rfl⟩⟩, h.setCell (by simp; omega) _⟩
set_option maxHeartbeats 4000000 in
set_option maxRecDepth 10000 in
theorem dmgI (s t : Sn) (u v : Value) (bu bv : List Nat) (w : World) (hu : repSfs.R w s.fs [u] bu) (hv : repSfs.R w t.fs [v] bv) :
  Calls Tryz.prog 25 #[.agg #[.int .i64 s.w, .int .i64 s.h, .int .i64 s.back, u], .agg #[.int .i64 t.w, .int .i64 t.h, .int .i64 t.back, v]] w (RgQ (dmgM s t) w) := by
 obtain ⟨⟨Au, cu, rfl⟩, _⟩ := repSfs_form hu
 obtain ⟨⟨A, c, rfl⟩, _⟩ := repSfs_form hv
 obtain ⟨sx, sy, sb, sf⟩ := s
 obtain ⟨tx, ty, tb, tf⟩ := t
 dsimp only at hu hv ⊢
 obtain ⟨N, hN⟩ : ∃ N, N = tf.length := ⟨_, rfl⟩
 obtain ⟨nu, hnu⟩ : ∃ N, N = sf.length := ⟨_, rfl⟩
 rw [← hN] at hv ⊢
 rw [← hnu] at hu ⊢
 clear hN hnu
 obtain ⟨i0, hi, hz0, hz1, hz2⟩ := info2_rc
 obtain ⟨wA, hwA⟩ : ∃ V, V = ((w.alloc (.cells #[.int .i64 sx, .int .i64 sy, .int .i64 sb, .slice Au nu cu] 34)).alloc (.cells #[.int .i64 tx, .int .i64 ty, .int .i64 tb, .slice A N c] 34)).alloc (.cells #[.slice none 0 0] 30) := ⟨_, rfl⟩
 have hX : DmR w ⟨sx, sy, sb, sf⟩ ⟨tx, ty, tb, tf⟩ (.slice Au nu cu) (.slice A N c) wA := by rw [hwA]; exact ⟨(DmB.born w ⟨sx, sy, sb, sf⟩ ⟨tx, ty, tb, tf⟩ _ _).call (belI_box _ _), by simp⟩
 have hr : BkAt wA (w.heap.size + 1 + 1) 30 #[.slice none 0 0] := by rw [hwA]; exact BkAt.newAt (by simp) _ _
 have HSs := fun V h => snI ⟨sx, sy, sb, sf⟩ (.slice Au nu cu) bu V h
 have HSt := fun V h => snI ⟨tx, ty, tb, tf⟩ (.slice A N c) bv V h
 unfold SnOkAns at HSs HSt
 dsimp only at HSs HSt
 obtain ⟨Q, hQ⟩ : ∃ Q, Q = dmgM ⟨sx, sy, sb, sf⟩ ⟨tx, ty, tb, tf⟩ := ⟨_, rfl⟩
 rw [← hQ]
 have HU := Lib.hid hu
 have HW := Lib.hid hv
 obtain ⟨a0, a1, a2, a3⟩ := hX.x.a.cells4
 dsimp only at a0 a1 a2 a3
 rw [hwA] at a0 a1 a2 a3
 have HWA := Lib.hid hwA
 have HX := Lib.hid hX
 have Hr := Lib.hid hr
 clear hu hv hX hr hwA
 by_cases hs : snOk ⟨sx, sy, sb, sf⟩
 ·rw [snB_yes hs] at HSs
  by_cases ht : snOk ⟨tx, ty, tb, tf⟩
  ·rw [snB_yes ht] at HSt
   have Hss := Lib.hid hs
   have Htt := Lib.hid ht
   have HSs := Lib.hid HSs
   have HSt := Lib.hid HSt
   clear hs
   by_cases e1 : sx = tx
   ·subst e1
    by_cases e2 : sy = ty
    ·subst e2
     by_cases e3 : sb = tb
     ·subst e3
      obtain ⟨JJ, hJJ⟩ : ∃ J, J = dmJ (fun _ => []) (ocR sx sy) sf tf tf.length := ⟨_, rfl⟩
      have HDM : Hid (∀ L, DmC sx sy sf tf L → canon (gridOf (L ++ JJ)) = Q) := Lib.hid fun L hL => by rw [hJJ, hQ]; exact dm_same (s := ⟨sx, sy, sb, sf⟩) (t := ⟨sx, sy, sb, tf⟩) ⟨Hss.out, ht⟩ ⟨rfl, rfl, rfl⟩ hL
      have HJl : Hid (JJ.length ≤ 42) := Lib.hid (by rw [hJJ]; have h1 := dmJ_len (X := fun _ => []) (fun _ => Nat.zero_le _) (ocR sx sy) sf (L := tf) ht.2.2.1 tf.length; have h2 : tf.length ≤ 6 := ht.2.2.1; omega)
      have HCH := fun V h1 h2 => chgI ⟨sx, sy, sb, sf⟩ ⟨sx, sy, sb, tf⟩ (.slice Au nu cu) (.slice A N c) bu bv V Hss.out ht ⟨rfl, rfl⟩ h1 h2
      have HRE := fun V h1 h2 => reoI ⟨sx, sy, sb, sf⟩ ⟨sx, sy, sb, tf⟩ (.slice Au nu cu) (.slice A N c) bu bv V ht h1 h2
      unfold ChgAns at HCH
      unfold ReoAns at HRE
      dsimp only at HCH HRE
      rw [← hJJ] at HRE
      have HCH := Lib.hid HCH
      have HRE := Lib.hid HRE
      clear ht hQ hJJ
      go_enter Tryz.func25, Tryz.ntmps25
      go_wp2_with fail
      rw [← HWA.out]
      clear a0 a1 a2 a3
      refine (HSs.out _ (Rep.call HU.out HX.out.x.bw)).mono ?_
      rintro e w1 ⟨rfl, hb⟩
      have HX1 := Lib.hid (HX.out.call hb)
      have Hr1 := Lib.hid (Hr.out.call hb)
      clear hb
      obtain ⟨b0, b1, b2, b3⟩ := HX1.out.x.b.cells4
      dsimp only at b0 b1 b2 b3
      go_wp2_with fail
      refine (HSt.out _ (Rep.call HW.out HX1.out.x.bw)).mono ?_
      rintro e w2 ⟨rfl, hb⟩
      have HX2 := Lib.hid (HX1.out.call hb)
      have Hr2 := Lib.hid (Hr1.out.call hb)
      clear hb b0 b1 b2 b3 HX1 Hr1
      obtain ⟨a0, a1, a2, a3⟩ := HX2.out.x.a.cells4
      obtain ⟨b0, b1, b2, b3⟩ := HX2.out.x.b.cells4
      dsimp only at a0 a1 a2 a3 b0 b1 b2 b3
      go_upto_region 5 with fail
      clear a0 a1 a2 a3 b0 b1 b2 b3
      have hr := Hr2.out.call (belI_drew _)
      refine wp_region_held_drew (S := fun V => DmR w ⟨sx, sy, sb, sf⟩ ⟨sx, sy, sb, tf⟩ (.slice Au nu cu) (.slice A N c) V) (by kernel_rfl) (HX2.out.call (belI_drew _)) (fun hS => ?_)
      refine tcH (i := 0) (v := .agg #[.int .i64 sx, .int .i64 sy, .int .i64 sb, .slice Au nu cu]) rfl (by intro w' hSw; (try dsimp only at hSw); (obtain ⟨e0, e1, e2, e3⟩ := hSw.x.a.cells4); ((try dsimp only at e0 e1 e2 e3)); go_simp) ?_
      refine tcH (i := 1) (v := .agg #[.int .i64 sx, .int .i64 sy, .int .i64 sb, .slice A N c]) rfl (by intro w' hSw; (try dsimp only at hSw); (obtain ⟨e0, e1, e2, e3⟩ := hSw.x.b.cells4); ((try dsimp only at e0 e1 e2 e3)); go_simp) ?_
      refine tcH (i := 3) (v := .agg #[.int .i64 sx, .int .i64 sy, .int .i64 sb, .slice Au nu cu]) rfl (by intro w' hSw; (try dsimp only at hSw); (obtain ⟨e0, e1, e2, e3⟩ := hSw.x.a.cells4); ((try dsimp only at e0 e1 e2 e3)); go_simp) ?_
      refine tcH (i := 4) (v := .agg #[.int .i64 sx, .int .i64 sy, .int .i64 sb, .slice A N c]) rfl (by intro w' hSw; (try dsimp only at hSw); (obtain ⟨e0, e1, e2, e3⟩ := hSw.x.b.cells4); ((try dsimp only at e0 e1 e2 e3)); go_simp) ?_
      (try simp only [Act.put]); (try simp only [zPa]); (try simp only [zPb, zPc])
      refine wpAnyH_ready (rs := [2]) (by kernel_rfl) (by simp) ?_
      refine (AllReadyH.cons rfl (fun K hK => ?_) AllReadyH.nil)
      ·rw [if_pos (by kernel_rfl)]
       (try simp only [zGa]); (try simp only [zGb]); (try simp only [zGc])
       go_simp
       with_reducible refine (HCH.out _ (Rep.call HU.out hS.x.bw) (Rep.call HW.out hS.x.bw)).mono ?_
       rintro e W' ⟨z1, L, rfl, hO1, hDC, hL12, hb⟩
       obtain ⟨A1, c1, hz⟩ := own_shape hO1
       subst hz
       replace hO1 := hO1.mono hS.sz
       dsimp only
       have hr := hr.call hb
       refine hK.out _ _ (hS.call hb) (fun hS => ?_)
       clear hK
       (try simp only [Act.put]); (try simp only [zPa]); (try simp only [zPb, zPc])
       refine wpAnyH_ready (rs := [5]) (by kernel_rfl) (by simp) ?_
       refine (AllReadyH.cons rfl (fun K hK => ?_) AllReadyH.nil)
       ·rw [if_pos (by kernel_rfl)]
        (try simp only [zGa]); (try simp only [zGb]); (try simp only [zGc])
        go_simp
        with_reducible refine (HRE.out _ (Rep.call HU.out hS.x.bw) (Rep.call HW.out hS.x.bw)).mono ?_
        rintro e W' ⟨z2, rfl, hO2, hb⟩
        obtain ⟨A2, c2, hz⟩ := own_shape hO2
        subst hz
        dsimp only
        have hr := hr.call hb
        have hO1 := own_call2 hO1 hb
        refine hK.out _ _ (hS.call hb) (fun hS => ?_)
        clear hK
        (try simp only [Act.put]); (try simp only [zPa]); (try simp only [zPb, zPc])
        refine wpAnyH_ready (rs := [6]) (by kernel_rfl) (by simp) ?_
        refine (AllReadyH.cons rfl (fun K hK => ?_) AllReadyH.nil)
        ·rw [if_pos (by kernel_rfl)]
         (try simp only [zGa]); (try simp only [zGb]); (try simp only [zGc])
         refine wp_append_row (.tmp 42) (.tmp 45) 28 rfl (w.heap.size + 3) _ 111 i0 (.agg #[.int .i64 0, .int .i64 0, .int .i64 0, .int .i64 0]) 4 32 Tryz.underlying28 hi hz0 hz1 hz2 rfl (by decide) (.slice A1 L.length c1) _ _ (by first | with_reducible rfl | (go_simp; done) | rfl) hO1 (.slice A2 _ c2) _ _ (by first | with_reducible rfl | (go_simp; done) | rfl) hO2 (rcs_one _) (by have := HJl.out; unfold maxLen; omega) (by have := HJl.out; omega) (by have := hS.sz; omega) ?_
         intro v9 W' h9 hgr _
         rw [← List.length_append, ← rcsCells_append] at h9
         have hr := hr.grown hgr (fun e => by have := (own_ltB hO1 (w.heap.size + 1 + 1) (by rw [← e]; simp)).1; omega)
         skip
         skip
         refine hK.out _ _ (hS.grown (fun k hk => by have := (own_ltB hO1 k (by rw [hk]; simp)).1; omega) hgr) (fun hS => ?_)
         clear hK
         (try simp only [Act.put]); (try simp only [zPa]); (try simp only [zPb, zPc])
         refine wpAnyH_ready (rs := [7]) (by kernel_rfl) (by simp) ?_
         refine (AllReadyH.cons rfl (fun K hK => ?_) AllReadyH.nil)
         ·rw [if_pos (by kernel_rfl)]
          (try simp only [zGa]); (try simp only [zGb]); (try simp only [zGc])
          go_simp
          with_reducible refine (rofI v9 (L ++ JJ) _ (RdR.of_own h9)).mono ?_
          rintro e W' ⟨z3, rfl, h3, hb⟩
          rw [HDM.out L hDC] at h3
          obtain ⟨A3, c3, hz⟩ := own_shape h3
          subst hz
          replace h3 := h3.mono hS.sz
          dsimp only
          have hr := hr.call hb
          skip
          skip
          skip
          refine hK.out _ _ (hS.call hb) (fun hS => ?_)
          clear hK
          (try simp only [Act.put]); (try simp only [zPa]); (try simp only [zPb, zPc])
          refine wpAnyH_ready (rs := [8]) (by kernel_rfl) (by simp) ?_
          refine (AllReadyH.cons rfl (fun K hK => ?_) AllReadyH.nil)
          ·rw [if_pos (by kernel_rfl)]
           (try simp only [zGa]); (try simp only [zGb]); (try simp only [zGc])
           refine wp_store_bk 30 (.tmp 4) (.tmp 47) rfl (w.heap.size + 1 + 1) _ #[.slice none 0 0] #[.slice A3 Q.length c3] (by kernel_rfl) rfl (by simp [Value.oneCell']) rfl (by first | with_reducible rfl | (go_simp; done) | rfl) hr ?_
           intro W9 IB hgB
           skip
           skip
           skip
           skip
           have h4 := h3.kept hgB (by by_cases hv : (Value.slice A3 Q.length c3).ownBlock = none; exact .inl hv; exact .inr (fun e => by have := (own_ltB h3 (w.heap.size + 1 + 1) (by rw [e]; simp)).1; omega))
           refine hK.out _ _ (hS.grown (fun k hk => by have := Option.some.inj hk; omega) hgB) (fun hS => ?_)
           clear hK
           (try simp only [Act.put]); (try simp only [zPa]); (try simp only [zPb, zPc])
           refine wpAnyH_done (by kernel_rfl) ?_ _
           have z0 := IB.cell 0 rfl
           go_wp2_with fail
           exact bodyPost_ret (v := .agg #[.slice A3 Q.length c3]) (by simp [results, Tryz.results25, go_sem, z0]) rfl ⟨_, rfl, h4.mono (by omega), hS.x.bw⟩
     ·have hQ1 : Q = canon (gridOf [⟨0, 0, sx, sy⟩]) := by rw [hQ]; exact dmgM_all ⟨Hss.out, ht⟩ fun h => e3 h.2.2
      have eb : (sb == tb) = false := by rw [beq_eq_false_iff_ne]; exact e3
      have HF := fun (V : World) u h => rofI u [⟨0, 0, sx, sy⟩] V h
      unfold RofAns at HF
      rw [← hQ1] at HF
      have HF := Lib.hid HF
      clear ht hQ hQ1
      go_enter Tryz.func25, Tryz.ntmps25
      go_wp2_with fail
      rw [← HWA.out]
      clear a0 a1 a2 a3
      refine (HSs.out _ (Rep.call HU.out HX.out.x.bw)).mono ?_
      rintro e w1 ⟨rfl, hb⟩
      have HX1 := Lib.hid (HX.out.call hb)
      have Hr1 := Lib.hid (Hr.out.call hb)
      clear hb
      obtain ⟨b0, b1, b2, b3⟩ := HX1.out.x.b.cells4
      dsimp only at b0 b1 b2 b3
      go_wp2_with fail
      refine (HSt.out _ (Rep.call HW.out HX1.out.x.bw)).mono ?_
      rintro e w2 ⟨rfl, hb⟩
      have HX2 := Lib.hid (HX1.out.call hb)
      have Hr2 := Lib.hid (Hr1.out.call hb)
      clear hb b0 b1 b2 b3 HX1 Hr1
      obtain ⟨a0, a1, a2, a3⟩ := HX2.out.x.a.cells4
      obtain ⟨b0, b1, b2, b3⟩ := HX2.out.x.b.cells4
      dsimp only at a0 a1 a2 a3 b0 b1 b2 b3
      obtain ⟨r0, r1⟩ := bk_res Hr2.out
      go_wp2_with fail
      refine (HF.out _ _ (RdR.one (RcAt.new w2 ⟨0, 0, sx, sy⟩))).mono ?_
      rintro e w3 ⟨z, rfl, hown, hb⟩
      have hb := belI_call (belI_box w2 (.cells #[.int .i64 0, .int .i64 0, .int .i64 sx, .int .i64 sy] 111)) hb
      obtain ⟨Az, cz, rfl⟩ := own_shape hown
      have HX3 := Lib.hid (HX2.out.call hb)
      have hq := HX2.out.sz
      have Hown := Lib.hid hown
      obtain ⟨r0, r1⟩ := bk_res (Hr2.out.call hb)
      clear hown hb a0 a1 a2 a3 b0 b1 b2 b3
      go_wp2_with fail
      refine bodyPost_ret (v := .agg #[.slice Az Q.length cz]) (by simp [results, Tryz.results25, go_sem, r0]) rfl ?_
      exact ⟨_, rfl, own_set Hown.out (by simp; omega) (by simp; omega) _, HX3.out.x.bw.setCell (by simp; omega) _⟩
    ·have hQ1 : Q = canon (gridOf [⟨0, 0, sx, ty⟩]) := by rw [hQ]; exact dmgM_all ⟨Hss.out, ht⟩ fun h => e2 h.2.1
     have eb : (sy == ty) = false := by rw [beq_eq_false_iff_ne]; exact e2
     have HF := fun (V : World) u h => rofI u [⟨0, 0, sx, ty⟩] V h
     unfold RofAns at HF
     rw [← hQ1] at HF
     have HF := Lib.hid HF
     clear ht hQ hQ1
     go_enter Tryz.func25, Tryz.ntmps25
     go_wp2_with fail
     rw [← HWA.out]
     clear a0 a1 a2 a3
     refine (HSs.out _ (Rep.call HU.out HX.out.x.bw)).mono ?_
     rintro e w1 ⟨rfl, hb⟩
     have HX1 := Lib.hid (HX.out.call hb)
     have Hr1 := Lib.hid (Hr.out.call hb)
     clear hb
     obtain ⟨b0, b1, b2, b3⟩ := HX1.out.x.b.cells4
     dsimp only at b0 b1 b2 b3
     go_wp2_with fail
     refine (HSt.out _ (Rep.call HW.out HX1.out.x.bw)).mono ?_
     rintro e w2 ⟨rfl, hb⟩
     have HX2 := Lib.hid (HX1.out.call hb)
     have Hr2 := Lib.hid (Hr1.out.call hb)
     clear hb b0 b1 b2 b3 HX1 Hr1
     obtain ⟨a0, a1, a2, a3⟩ := HX2.out.x.a.cells4
     obtain ⟨b0, b1, b2, b3⟩ := HX2.out.x.b.cells4
     dsimp only at a0 a1 a2 a3 b0 b1 b2 b3
     obtain ⟨r0, r1⟩ := bk_res Hr2.out
     go_wp2_with fail
     refine (HF.out _ _ (RdR.one (RcAt.new w2 ⟨0, 0, sx, ty⟩))).mono ?_
     rintro e w3 ⟨z, rfl, hown, hb⟩
     have hb := belI_call (belI_box w2 (.cells #[.int .i64 0, .int .i64 0, .int .i64 sx, .int .i64 ty] 111)) hb
     obtain ⟨Az, cz, rfl⟩ := own_shape hown
     have HX3 := Lib.hid (HX2.out.call hb)
     have hq := HX2.out.sz
     have Hown := Lib.hid hown
     obtain ⟨r0, r1⟩ := bk_res (Hr2.out.call hb)
     clear hown hb a0 a1 a2 a3 b0 b1 b2 b3
     go_wp2_with fail
     refine bodyPost_ret (v := .agg #[.slice Az Q.length cz]) (by simp [results, Tryz.results25, go_sem, r0]) rfl ?_
     exact ⟨_, rfl, own_set Hown.out (by simp; omega) (by simp; omega) _, HX3.out.x.bw.setCell (by simp; omega) _⟩
   ·have hQ1 : Q = canon (gridOf [⟨0, 0, tx, ty⟩]) := by rw [hQ]; exact dmgM_all ⟨Hss.out, ht⟩ fun h => e1 h.1
    have eb : (sx == tx) = false := by rw [beq_eq_false_iff_ne]; exact e1
    have HF := fun (V : World) u h => rofI u [⟨0, 0, tx, ty⟩] V h
    unfold RofAns at HF
    rw [← hQ1] at HF
    have HF := Lib.hid HF
    clear ht hQ hQ1
    go_enter Tryz.func25, Tryz.ntmps25
    go_wp2_with fail
    rw [← HWA.out]
    clear a0 a1 a2 a3
    refine (HSs.out _ (Rep.call HU.out HX.out.x.bw)).mono ?_
    rintro e w1 ⟨rfl, hb⟩
    have HX1 := Lib.hid (HX.out.call hb)
    have Hr1 := Lib.hid (Hr.out.call hb)
    clear hb
    obtain ⟨b0, b1, b2, b3⟩ := HX1.out.x.b.cells4
    dsimp only at b0 b1 b2 b3
    go_wp2_with fail
    refine (HSt.out _ (Rep.call HW.out HX1.out.x.bw)).mono ?_
    rintro e w2 ⟨rfl, hb⟩
    have HX2 := Lib.hid (HX1.out.call hb)
    have Hr2 := Lib.hid (Hr1.out.call hb)
    clear hb b0 b1 b2 b3 HX1 Hr1
    obtain ⟨a0, a1, a2, a3⟩ := HX2.out.x.a.cells4
    obtain ⟨b0, b1, b2, b3⟩ := HX2.out.x.b.cells4
    dsimp only at a0 a1 a2 a3 b0 b1 b2 b3
    obtain ⟨r0, r1⟩ := bk_res Hr2.out
    go_wp2_with fail
    refine (HF.out _ _ (RdR.one (RcAt.new w2 ⟨0, 0, tx, ty⟩))).mono ?_
    rintro e w3 ⟨z, rfl, hown, hb⟩
    have hb := belI_call (belI_box w2 (.cells #[.int .i64 0, .int .i64 0, .int .i64 tx, .int .i64 ty] 111)) hb
    obtain ⟨Az, cz, rfl⟩ := own_shape hown
    have HX3 := Lib.hid (HX2.out.call hb)
    have hq := HX2.out.sz
    have Hown := Lib.hid hown
    obtain ⟨r0, r1⟩ := bk_res (Hr2.out.call hb)
    clear hown hb a0 a1 a2 a3 b0 b1 b2 b3
    go_wp2_with fail
    refine bodyPost_ret (v := .agg #[.slice Az Q.length cz]) (by simp [results, Tryz.results25, go_sem, r0]) rfl ?_
    exact ⟨_, rfl, own_set Hown.out (by simp; omega) (by simp; omega) _, HX3.out.x.bw.setCell (by simp; omega) _⟩
  ·rw [snB_no ht] at HSt
   have HSs := Lib.hid HSs
   have HSt := Lib.hid HSt
   have HQ := Lib.hid (hQ.trans (dmgM_no fun h => ht h.2))
   clear hs ht hQ
   go_enter Tryz.func25, Tryz.ntmps25
   go_wp2_with fail
   rw [← HWA.out]
   clear a0 a1 a2 a3
   refine (HSs.out _ (Rep.call HU.out HX.out.x.bw)).mono ?_
   rintro e w1 ⟨rfl, hb⟩
   have HX1 := Lib.hid (HX.out.call hb)
   have Hr1 := Lib.hid (Hr.out.call hb)
   clear hb
   obtain ⟨b0, b1, b2, b3⟩ := HX1.out.x.b.cells4
   dsimp only at b0 b1 b2 b3
   go_wp2_with fail
   refine (HSt.out _ (Rep.call HW.out HX1.out.x.bw)).mono ?_
   rintro e w2 ⟨rfl, hb⟩
   have HX2 := Lib.hid (HX1.out.call hb)
   obtain ⟨r0, r1⟩ := bk_res (Hr1.out.call hb)
   clear hb b0 b1 b2 b3 HX1 Hr1
   go_wp2_with fail
   refine bodyPost_ret (v := .agg #[.slice none 0 0]) (by simp [results, Tryz.results25, go_sem, r0]) rfl ?_
   rw [HQ.out]
   exact rg_zero3 HX2.out.x.bw
 ·rw [snB_no hs] at HSs
  have HSs := Lib.hid HSs
  have HQ := Lib.hid (hQ.trans (dmgM_no fun h => hs h.1))
  clear hs hQ HSt
  go_enter Tryz.func25, Tryz.ntmps25
  go_wp2_with fail
  rw [← HWA.out]
  clear a0 a1 a2 a3
  refine (HSs.out _ (Rep.call HU.out HX.out.x.bw)).mono ?_
  rintro e w1 ⟨rfl, hb⟩
  have HX1 := Lib.hid (HX.out.call hb)
  obtain ⟨r0, r1⟩ := bk_res (Hr.out.call hb)
  clear hb
  go_wp2_with fail
  refine bodyPost_ret (v := .agg #[.slice none 0 0]) (by simp [results, Tryz.results25, go_sem, r0]) rfl ?_
  rw [HQ.out]
  exact rg_zero3 HX1.out.x.bw
end Go.Proofs.YtokniebejilcbaaGreat
