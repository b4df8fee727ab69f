/- The laws' helpers over chains: sizes, comparisons, marks. No statement is proved here. -/
import Derived.Test.YtnndifemkichmaaMA
import Derived.Test.YtnndifemkichmaaLk
import Derived.Test.YtnndifemkichmaaMB
import Derived.Test.YtnndifemkichmaaChM
import Derived.Test.YtnndifemkichmaaIsE
import Derived.Test.YtnndifemkichmaaIsM
import Derived.Test.YtnndifemkichmaaSlE
import Derived.Test.YtnndifemkichmaaSlM
import Derived.Test.YtnndifemkichmaaProg
import Derived.WalkKit
import Derived.ProofKit
import Derived.OpenShut
import Derived.WalkLawsBesides
import Derived.WalkSpells
import Derived.ShutString
import Derived.ChangeOld
import Derived.Below
import Derived.Lib.Hide
import Derived.BigQuiet
import Derived.Deep.QuietTactic
import Derived.Maps.AppendAt
import Derived.Deep.OwnRows
import Derived.Handy
import Derived.Deep.Draws
import Derived.OwnWalk
import Derived.Deep.AppendLies
import Derived.Deep.LoopGhost
import Derived.Deep.Onto
import Derived.Deep.MidRow
import Derived.Deep.WholeRow
import Derived.Laws.BitsAllLaws
import Derived.Lib.QuoteBits
import Derived.Deep.RegionHeld3
import Derived.Deep.DeepCutAuto
import Derived.Test.YtnndifemkichmaaShelf
import Derived.Laws.CopyOwn
import Derived.Deep.RegionLaw
import Derived.Great.BuildSlice
import Derived.Laws.AppendOwn
namespace Go.Proofs.Ytnndifemkichmaa
open Go.RowKit
theorem form_cn {w : World} {f : Ch} {a b e d : Value} {bs : List Nat} (h : repCh.R w f [a, b, e, .int .i64 f.s.w, .int .i64 f.s.h, .int .i64 f.s.back, d] bs) : ∃ A0 c0 A1 c1 A2 c2 A3 c3, a = .slice A0 f.ims.length c0 ∧ b = .slice A1 f.ages.length c1 ∧ e = .slice A2 f.rgs.length c2 ∧ d = .slice A3 f.s.fs.length c3 := by
 obtain ⟨b1, b2, b3, b4, h1, h2, h3, h4, _⟩ := r_cn h
 obtain ⟨A0, c0, e0⟩ := (form_lIs h1).1
 obtain ⟨A1, c1, e1⟩ := (ints_form h2).1
 obtain ⟨A2, c2, e2⟩ := (form_lGs h3).1
 obtain ⟨A3, c3, e3⟩ := (repSfs_form h4).1
 exact ⟨A0, c0, A1, c1, A2, c2, A3, c3, e0, e1, e2, e3⟩
structure CnOwn (B : Nat) (w : World) (f : Ch) (a b e d : Value) (b1 b2 b3 b4 : List Nat) : Prop where
 i : repIms.Own B w f.ims [a] b1
 g : repInts.Own B w f.ages [b] b2
 r : repRgs.Own B w f.rgs [e] b3
 s : repSfs.Own B w f.s.fs [d] b4
 n12 : ∀ k ∈ b1, k ∉ b2
 n13 : ∀ k ∈ b1, k ∉ b3
 n14 : ∀ k ∈ b1, k ∉ b4
 n23 : ∀ k ∈ b2, k ∉ b3
 n24 : ∀ k ∈ b2, k ∉ b4
 n34 : ∀ k ∈ b3, k ∉ b4
theorem own_cn {B : Nat} {w : World} {f : Ch} {a b e d : Value} {bs : List Nat} (h : repCh.Own B w f [a, b, e, .int .i64 f.s.w, .int .i64 f.s.h, .int .i64 f.s.back, d] bs) : ∃ b1 b2 b3 b4, CnOwn B w f a b e d b1 b2 b3 b4 ∧ bs = b1 ++ (b2 ++ (b3 ++ b4)) := by
 obtain ⟨b1, b2, b3, b4, h1, h2, h3, h4, rfl⟩ := r_cn h.r
 obtain ⟨n1, m1, q1⟩ := List.nodup_append.1 h.nd
 obtain ⟨n2, m2, q2⟩ := List.nodup_append.1 m1
 obtain ⟨n3, n4, q3⟩ := List.nodup_append.1 m2
 exact ⟨b1, b2, b3, b4, ⟨⟨h1, n1, fun k hk => h.lo k (by simp [hk])⟩, ⟨h2, n2, fun k hk => h.lo k (by simp [hk])⟩, ⟨h3, n3, fun k hk => h.lo k (by simp [hk])⟩, ⟨h4, n4, fun k hk => h.lo k (by simp [hk])⟩,
  fun k hk hk' => q1 k hk k (by simp [hk']) rfl, fun k hk hk' => q1 k hk k (by simp [hk']) rfl, fun k hk hk' => q1 k hk k (by simp [hk']) rfl, fun k hk hk' => q2 k hk k (by simp [hk']) rfl, fun k hk hk' => q2 k hk k (by simp [hk']) rfl, fun k hk hk' => q3 k hk k hk' rfl⟩, rfl⟩
theorem CnOwn.rep {B : Nat} {w : World} {f : Ch} {a b e d : Value} {b1 b2 b3 b4 : List Nat} (h : CnOwn B w f a b e d b1 b2 b3 b4) : repCh.Own B w f [a, b, e, .int .i64 f.s.w, .int .i64 f.s.h, .int .i64 f.s.back, d] (b1 ++ (b2 ++ (b3 ++ b4))) := by
 refine ⟨⟨a, b, e, d, b1, b2, b3, b4, rfl, h.i.r, h.g.r, h.r.r, h.s.r, rfl⟩, ?_, fun k hk => ?_⟩
 ·refine List.nodup_append.2 ⟨h.i.nd, List.nodup_append.2 ⟨h.g.nd, List.nodup_append.2 ⟨h.r.nd, h.s.nd, fun x hx y hy e => h.n34 x hx (e ▸ hy)⟩, fun x hx y hy e => ?_⟩, fun x hx y hy e => ?_⟩
  ·subst e
   rcases List.mem_append.1 hy with hy | hy
   ·exact h.n23 x hx hy
   ·exact h.n24 x hx hy
  ·subst e
   rcases List.mem_append.1 hy with hy | hy
   ·exact h.n12 x hx hy
   rcases List.mem_append.1 hy with hy | hy
   ·exact h.n13 x hx hy
   ·exact h.n14 x hx hy
 ·rcases List.mem_append.1 hk with hk | hk
  ·exact h.i.lo k hk
  rcases List.mem_append.1 hk with hk | hk
  ·exact h.g.lo k hk
  rcases List.mem_append.1 hk with hk | hk
  ·exact h.r.lo k hk
  ·exact h.s.lo k hk
theorem CnOwn.call {B : Nat} {w w' : World} {f : Ch} {a b e d : Value} {b1 b2 b3 b4 : List Nat} (h : CnOwn B w f a b e d b1 b2 b3 b4) (hb : Below w.heap.size w w') : CnOwn B w' f a b e d b1 b2 b3 b4 :=
 ⟨h.i.call hb, h.g.call hb, h.r.call hb, h.s.call hb, h.n12, h.n13, h.n14, h.n23, h.n24, h.n34⟩
set_option maxHeartbeats 2000000 in
set_option maxRecDepth 10000 in
theorem eq_cn (f : Ch) (a b e d a' b' e' d' : Value) (bs cs : List Nat) (w : World) (h1 : repCh.R w f [a, b, e, .int .i64 f.s.w, .int .i64 f.s.h, .int .i64 f.s.back, d] bs) (h2 : repCh.R w f [a', b', e', .int .i64 f.s.w, .int .i64 f.s.h, .int .i64 f.s.back, d'] cs) : Calls Try.prog 13 #[.agg #[a, b, e, .int .i64 f.s.w, .int .i64 f.s.h, .int .i64 f.s.back, d], .agg #[a', b', e', .int .i64 f.s.w, .int .i64 f.s.h, .int .i64 f.s.back, d']] w fun e w' => e = .returned (.bool true) ∧ Below w.heap.size w w' := by
 have HB := Lib.hid (belI_call (belI_box w (.cells #[a, b, e, .int .i64 f.s.w, .int .i64 f.s.h, .int .i64 f.s.back, d] 38)) (belI_box _ (.cells #[a', b', e', .int .i64 f.s.w, .int .i64 f.s.h, .int .i64 f.s.back, d'] 38)))
 have hA : BkAt ((w.alloc (.cells #[a, b, e, .int .i64 f.s.w, .int .i64 f.s.h, .int .i64 f.s.back, d] 38)).alloc (.cells #[a', b', e', .int .i64 f.s.w, .int .i64 f.s.h, .int .i64 f.s.back, d'] 38)) w.heap.size 38 #[a, b, e, .int .i64 f.s.w, .int .i64 f.s.h, .int .i64 f.s.back, d] := (BkAt.new _ _ _).alloc _
 have hX : BkAt ((w.alloc (.cells #[a, b, e, .int .i64 f.s.w, .int .i64 f.s.h, .int .i64 f.s.back, d] 38)).alloc (.cells #[a', b', e', .int .i64 f.s.w, .int .i64 f.s.h, .int .i64 f.s.back, d'] 38)) (w.heap.size + 1) 38 #[a', b', e', .int .i64 f.s.w, .int .i64 f.s.h, .int .i64 f.s.back, d'] := BkAt.newAt (by simp) _ _
 obtain ⟨A0, c0, A1, c1, A2, c2, A3, c3, e0, e1, e2, e3⟩ := form_cn h1
 obtain ⟨X0, y0, X1, y1, X2, y2, X3, y3, f0, f1, f2, f3⟩ := form_cn h2
 obtain ⟨b1, b2, b3, b4, i1, g1, r1, s1, _⟩ := r_cn (Rep.call h1 HB.out)
 obtain ⟨k1, k2, k3, k4, i2, g2, r2, s2, _⟩ := r_cn (Rep.call h2 HB.out)
 have I1 := Lib.hid i1
 have I2 := Lib.hid i2
 have G1 := Lib.hid g1
 have G2 := Lib.hid g2
 have R1 := Lib.hid r1
 have R2 := Lib.hid r2
 have S1 := Lib.hid s1
 have S2 := Lib.hid s2
 clear h1 h2 i1 i2 g1 g2 r1 r2 s1 s2
 subst e0 e1 e2 e3 f0 f1 f2 f3
 go_enter Try.func13, Try.ntmps13
 go_wp2_with fail
 refine (eqIs_same f.ims _ _ _ _ _ I1.out I2.out).mono ?_
 rintro e w1 ⟨rfl, hb1⟩
 replace hA := hA.call hb1
 replace hX := hX.call hb1
 have HB1 := Lib.hid (belI_call HB.out hb1)
 replace G1 := Lib.hid (Rep.call G1.out hb1)
 replace G2 := Lib.hid (Rep.call G2.out hb1)
 replace R1 := Lib.hid (Rep.call R1.out hb1)
 replace R2 := Lib.hid (Rep.call R2.out hb1)
 replace S1 := Lib.hid (Rep.call S1.out hb1)
 replace S2 := Lib.hid (Rep.call S2.out hb1)
 clear hb1
 have p0 := hA.cell 0 rfl
 have p1 := hA.cell 1 rfl
 have p2 := hA.cell 2 rfl
 have p3 := hA.cell 3 rfl
 have p4 := hA.cell 4 rfl
 have p5 := hA.cell 5 rfl
 have p6 := hA.cell 6 rfl
 have o0 := hX.cell 0 rfl
 have o1 := hX.cell 1 rfl
 have o2 := hX.cell 2 rfl
 have o3 := hX.cell 3 rfl
 have o4 := hX.cell 4 rfl
 have o5 := hX.cell 5 rfl
 have o6 := hX.cell 6 rfl
 go_wp2_with fail
 clear p0 p1 p2 p3 p4 p5 p6 o0 o1 o2 o3 o4 o5 o6
 refine (eqIS_own _ _ f.ages _ (repInts_rd G1.out) (repInts_rd G2.out)).mono ?_
 rintro e w2 ⟨rfl, hb1⟩
 replace hA := hA.call hb1
 replace hX := hX.call hb1
 have HB2 := Lib.hid (belI_call HB1.out hb1)
 replace R1 := Lib.hid (Rep.call R1.out hb1)
 replace R2 := Lib.hid (Rep.call R2.out hb1)
 replace S1 := Lib.hid (Rep.call S1.out hb1)
 replace S2 := Lib.hid (Rep.call S2.out hb1)
 clear hb1
 have p0 := hA.cell 0 rfl
 have p1 := hA.cell 1 rfl
 have p2 := hA.cell 2 rfl
 have p3 := hA.cell 3 rfl
 have p4 := hA.cell 4 rfl
 have p5 := hA.cell 5 rfl
 have p6 := hA.cell 6 rfl
 have o0 := hX.cell 0 rfl
 have o1 := hX.cell 1 rfl
 have o2 := hX.cell 2 rfl
 have o3 := hX.cell 3 rfl
 have o4 := hX.cell 4 rfl
 have o5 := hX.cell 5 rfl
 have o6 := hX.cell 6 rfl
 go_wp2_with fail
 clear p0 p1 p2 p3 p4 p5 p6 o0 o1 o2 o3 o4 o5 o6
 refine (eqGs_same f.rgs _ _ _ _ _ R1.out R2.out).mono ?_
 rintro e w3 ⟨rfl, hb1⟩
 replace hA := hA.call hb1
 replace hX := hX.call hb1
 have HB3 := Lib.hid (belI_call HB2.out hb1)
 replace S1 := Lib.hid (Rep.call S1.out hb1)
 replace S2 := Lib.hid (Rep.call S2.out hb1)
 clear hb1
 have p0 := hA.cell 0 rfl
 have p1 := hA.cell 1 rfl
 have p2 := hA.cell 2 rfl
 have p3 := hA.cell 3 rfl
 have p4 := hA.cell 4 rfl
 have p5 := hA.cell 5 rfl
 have p6 := hA.cell 6 rfl
 have o0 := hX.cell 0 rfl
 have o1 := hX.cell 1 rfl
 have o2 := hX.cell 2 rfl
 have o3 := hX.cell 3 rfl
 have o4 := hX.cell 4 rfl
 have o5 := hX.cell 5 rfl
 have o6 := hX.cell 6 rfl
 go_wp2_with fail
 clear p0 p1 p2 p3 p4 p5 p6 o0 o1 o2 o3 o4 o5 o6
 refine (eq_sn f.s _ _ _ _ _ ⟨_, rfl, S1.out⟩ ⟨_, rfl, S2.out⟩).mono ?_
 rintro e w4 ⟨rfl, hb1⟩
 have HB4 := Lib.hid (belI_call HB3.out hb1)
 clear hb1
 go_wp2_with fail
 go_ret
 exact ⟨rfl, HB4.out⟩
set_option maxHeartbeats 2000000 in
set_option maxRecDepth 10000 in
theorem mark_cn (B : Nat) (f : Ch) (a b e d : Value) (bs : List Nat) (k0 : Nat) (w : World) (hm : k0 + (cntCh f) ≤ 1000000000) (ho : repCh.Own B w f [a, b, e, .int .i64 f.s.w, .int .i64 f.s.h, .int .i64 f.s.back, d] bs) : Calls Try.prog 20 #[.agg #[a, b, e, .int .i64 f.s.w, .int .i64 f.s.h, .int .i64 f.s.back, d], .int .i64 k0] w fun en w' => en = .returned (.int .i64 ((k0 + (cntCh f) : Nat) : Int)) ∧ repCh.R w' (mkCh k0 f) [a, b, e, .int .i64 f.s.w, .int .i64 f.s.h, .int .i64 f.s.back, d] bs ∧ Chg w w' bs := by
 have hb := belI_box w (.cells #[a, b, e, .int .i64 f.s.w, .int .i64 f.s.h, .int .i64 f.s.back, d] 38)
 obtain ⟨A0, c0, A1, c1, A2, c2, A3, c3, e0, e1, e2, e3⟩ := form_cn ho.r
 obtain ⟨b1, b2, b3, b4, hO, hbs⟩ := own_cn (ho.call hb)
 have hA : BkAt (w.alloc (.cells #[a, b, e, .int .i64 f.s.w, .int .i64 f.s.h, .int .i64 f.s.back, d] 38)) w.heap.size 38 #[a, b, e, .int .i64 f.s.w, .int .i64 f.s.h, .int .i64 f.s.back, d] := BkAt.new _ _ _
 have hlt : ∀ k ∈ b1 ++ (b2 ++ (b3 ++ b4)), k < w.heap.size := fun k hk => repCh.ex ho.r k (by rw [hbs]; exact hk)
 have HLT := Lib.hid hlt
 have HO := Lib.hid hO
 have HC := Lib.hid (Chg.of_below bs hb)
 have Hbs := Lib.hid hbs
 subst e0 e1 e2 e3
 obtain ⟨n1, hn1⟩ : ∃ n, n = cntIs f.ims := ⟨_, rfl⟩
 obtain ⟨n3, hn3⟩ : ∃ n, n = cntGs f.rgs := ⟨_, rfl⟩
 obtain ⟨n4, hn4⟩ : ∃ n, n = cntFs f.s.fs := ⟨_, rfl⟩
 have hz : cntCh f = n1 + (f.ages.length + (n3 + n4)) := by unfold cntCh; rw [← hn1, ← hn3, ← hn4]
 have hk : mkCh k0 f = ⟨mkIs k0 f.ims, marksI (k0 + n1) f.ages.length, mkGs (k0 + n1 + f.ages.length) f.rgs, mkSn (k0 + n1 + f.ages.length + n3) f.s⟩ := by unfold mkCh; rw [← hn1, ← hn3]
 rw [hz] at hm
 have HZ := Lib.hid hz
 have HK := Lib.hid hk
 have M1 := fun W bs h => markIs B f.ims (.slice A0 f.ims.length c0) bs k0 W (by omega) h
 have M2 := fun W h => markIS B 3 (.slice A1 f.ages.length c1) f.ages (k0 + n1) W (by omega) h
 have M3 := fun W bs h => markGs B f.rgs (.slice A2 f.rgs.length c2) bs (k0 + n1 + f.ages.length) W (by omega) h
 have M4 := fun W bs h => mark_sn B f.s (.slice A3 f.s.fs.length c3) bs (k0 + n1 + f.ages.length + n3) W (by omega) h
 rw [← hn1] at M1
 rw [← hn3] at M3
 rw [← hn4] at M4
 have HM1 := Lib.hid M1
 have HM2 := Lib.hid M2
 have HM3 := Lib.hid M3
 have HM4 := Lib.hid M4
 clear hlt ho hb hO hbs hz hk M1 M2 M3 M4 hn1 hn3 hn4
 go_enter Try.func20, Try.ntmps20
 go_wp2_with fail
 refine (HM1.out _ b1 HO.out.i).mono ?_
 rintro e w1 ⟨rfl, q1, t1⟩
 have HQ1 := Lib.hid q1
 have HT1 := Lib.hid t1
 have G1 := Lib.hid (HO.out.g.chg t1 fun k hk hk' => HO.out.n12 k hk' hk)
 have R1 := Lib.hid (HO.out.r.chg t1 fun k hk hk' => HO.out.n13 k hk' hk)
 have S1 := Lib.hid (HO.out.s.chg t1 fun k hk hk' => HO.out.n14 k hk' hk)
 replace hA : BkAt w1 w.heap.size 38 _ := (t1.block _ hA.lt fun hk => Nat.lt_irrefl _ (HLT.out _ (by simp [hk]))).trans hA
 clear q1 t1
 have p0 := hA.cell 0 rfl
 have p1 := hA.cell 1 rfl
 have p2 := hA.cell 2 rfl
 have p3 := hA.cell 3 rfl
 have p4 := hA.cell 4 rfl
 have p5 := hA.cell 5 rfl
 have p6 := hA.cell 6 rfl
 go_wp2_with fail
 clear p0 p1 p2 p3 p4 p5 p6
 obtain ⟨ow2, hb2⟩ := rep_ints_own G1.out
 refine (HM2.out _ ow2).mono ?_
 rintro e w2 ⟨rfl, q2, t2⟩
 have t2 := Chg.of_grown t2
 rw [← hb2] at t2
 have HQ1' := Lib.hid (Rep.chg HQ1.out t2 fun k hk hk' => HO.out.n12 k hk hk')
 have HQ2 : Hid (repInts.R w2 (marksI (k0 + n1) f.ages.length) [.slice A1 f.ages.length c1] b2) := Lib.hid ⟨_, rfl, by rw [marksI_length]; exact own_rebase q2 fun _ _ => Nat.zero_le _, hb2⟩
 have HT2 := Lib.hid (t2.mono (cs := b1 ++ (b2 ++ (b3 ++ b4))) fun k hk => by simp [hk])
 have R2 := Lib.hid (R1.out.chg t2 fun k hk hk' => HO.out.n23 k hk' hk)
 have S2 := Lib.hid (S1.out.chg t2 fun k hk hk' => HO.out.n24 k hk' hk)
 replace hA : BkAt w2 w.heap.size 38 _ := (t2.block _ hA.lt fun hk => Nat.lt_irrefl _ (HLT.out _ (by simp [hk]))).trans hA
 clear q2 t2 ow2 hb2 HQ1
 have p0 := hA.cell 0 rfl
 have p1 := hA.cell 1 rfl
 have p2 := hA.cell 2 rfl
 have p3 := hA.cell 3 rfl
 have p4 := hA.cell 4 rfl
 have p5 := hA.cell 5 rfl
 have p6 := hA.cell 6 rfl
 go_wp2_with fail
 clear p0 p1 p2 p3 p4 p5 p6
 refine (HM3.out _ b3 R2.out).mono ?_
 rintro e w3 ⟨rfl, q3, t3⟩
 have P1 := Lib.hid (Rep.chg HQ1'.out t3 fun k hk hk' => HO.out.n13 k hk hk')
 have P2 := Lib.hid (Rep.chg HQ2.out t3 fun k hk hk' => HO.out.n23 k hk hk')
 have P3 := Lib.hid q3
 have HT3 := Lib.hid (t3.mono (cs := b1 ++ (b2 ++ (b3 ++ b4))) fun k hk => by simp [hk])
 have S3 := Lib.hid (S2.out.chg t3 fun k hk hk' => HO.out.n34 k hk' hk)
 replace hA : BkAt w3 w.heap.size 38 _ := (t3.block _ hA.lt fun hk => Nat.lt_irrefl _ (HLT.out _ (by simp [hk]))).trans hA
 clear q3 t3 HQ1' HQ2
 have p0 := hA.cell 0 rfl
 have p1 := hA.cell 1 rfl
 have p2 := hA.cell 2 rfl
 have p3 := hA.cell 3 rfl
 have p4 := hA.cell 4 rfl
 have p5 := hA.cell 5 rfl
 have p6 := hA.cell 6 rfl
 go_wp2_with fail
 clear p0 p1 p2 p3 p4 p5 p6
 refine (HM4.out _ b4 (own_sn' S3.out)).mono ?_
 rintro e w4 ⟨rfl, q4, t4⟩
 have V1 := Rep.chg P1.out t4 fun k hk hk' => HO.out.n14 k hk hk'
 have V2 := Rep.chg P2.out t4 fun k hk hk' => HO.out.n24 k hk hk'
 have V3 := Rep.chg P3.out t4 fun k hk hk' => HO.out.n34 k hk hk'
 have T4 := t4.mono (cs := b1 ++ (b2 ++ (b3 ++ b4))) fun k hk => by simp [hk]
 have T1 := HT1.out.mono (cs := b1 ++ (b2 ++ (b3 ++ b4))) fun k hk => by simp [hk]
 have TT := HC.out.trans (by rw [Hbs.out]; exact ((T1.trans HT2.out).trans HT3.out).trans T4)
 have V4 := r_sn (s := mkSn (k0 + n1 + f.ages.length + n3) f.s) q4
 have HV : Hid (repCh.R w4 (mkCh k0 f) [.slice A0 f.ims.length c0, .slice A1 f.ages.length c1, .slice A2 f.rgs.length c2, .int .i64 f.s.w, .int .i64 f.s.h, .int .i64 f.s.back, .slice A3 f.s.fs.length c3] bs) := Lib.hid (by rw [HK.out, Hbs.out]; exact ⟨_, _, _, _, b1, b2, b3, b4, rfl, V1, V2, V3, V4, rfl⟩)
 have HTT := Lib.hid TT
 clear V1 V2 V3 V4 TT T1 T4 q4 t4 P1 P2 P3
 go_wp2_with fail
 go_ret
 exact ⟨ret_int (by rw [HZ.out]; push_cast; omega), HV.out, HTT.out⟩
set_option maxHeartbeats 2000000 in
set_option maxRecDepth 10000 in
theorem held_cn (f : Ch) (a b e d : Value) (bs : List Nat) (k0 : Nat) (w : World) (hm : k0 + (cntCh f) ≤ 1000000000) (hr : repCh.R w (mkCh k0 f) [a, b, e, .int .i64 f.s.w, .int .i64 f.s.h, .int .i64 f.s.back, d] bs) : Calls Try.prog 21 #[.agg #[a, b, e, .int .i64 f.s.w, .int .i64 f.s.h, .int .i64 f.s.back, d], .int .i64 k0] w fun e w' => e = .returned (.int .i64 ((k0 + (cntCh f) : Nat) : Int)) ∧ Below w.heap.size w w' := by
 have hb := belI_box w (.cells #[a, b, e, .int .i64 f.s.w, .int .i64 f.s.h, .int .i64 f.s.back, d] 38)
 obtain ⟨A0, c0, A1, c1, A2, c2, A3, c3, e0, e1, e2, e3⟩ := form_cn (f := mkCh k0 f) hr
 obtain ⟨b1, b2, b3, b4, i1, g1, r1, s1, _⟩ := r_cn (c := mkCh k0 f) (Rep.call hr hb)
 obtain ⟨n1, hn1⟩ : ∃ n, n = cntIs f.ims := ⟨_, rfl⟩
 obtain ⟨n2, hn2⟩ : ∃ n, n = f.ages.length := ⟨_, rfl⟩
 obtain ⟨n3, hn3⟩ : ∃ n, n = cntGs f.rgs := ⟨_, rfl⟩
 obtain ⟨n4, hn4⟩ : ∃ n, n = cntFs f.s.fs := ⟨_, rfl⟩
 have hz : cntCh f = n1 + (n2 + (n3 + n4)) := by unfold cntCh; rw [← hn1, ← hn2, ← hn3, ← hn4]
 have hk : mkCh k0 f = ⟨mkIs k0 f.ims, marksI (k0 + n1) n2, mkGs (k0 + n1 + n2) f.rgs, mkSn (k0 + n1 + n2 + n3) f.s⟩ := by unfold mkCh; rw [← hn1, ← hn2, ← hn3]
 rw [hk] at i1 g1 r1 s1 e0 e1 e2 e3
 rw [hz] at hm
 have HZ := Lib.hid hz
 have M1 := fun W h => heldIs f.ims a b1 k0 W (by omega) h
 have M2 := fun W h => heldIS b (k0 + n1) n2 W (by omega) h
 have M3 := fun W h => heldGs f.rgs e b3 (k0 + n1 + n2) W (by omega) h
 have M4 := fun W h => held_sn f.s d b4 (k0 + n1 + n2 + n3) W (by omega) h
 rw [← hn1] at M1
 rw [← hn3] at M3
 rw [← hn4] at M4
 subst e0 e1 e2 e3
 have HM1 := Lib.hid M1
 have HM2 := Lib.hid M2
 have HM3 := Lib.hid M3
 have HM4 := Lib.hid M4
 have I1 := Lib.hid i1
 have G1 := Lib.hid (repInts_rd g1)
 have R1 := Lib.hid r1
 have S1 := Lib.hid (show repSn.R _ (mkSn (k0 + n1 + n2 + n3) f.s) _ b4 from ⟨_, rfl, s1⟩)
 have HB := Lib.hid hb
 have q1 : ¬ ((k0 + n1 : Nat) : Int) < 0 := by omega
 have q2 : ¬ ((k0 + n1 + n2 : Nat) : Int) < 0 := by omega
 have q3 : ¬ ((k0 + n1 + n2 + n3 : Nat) : Int) < 0 := by omega
 have q4 : ¬ ((k0 + n1 + n2 + n3 + n4 : Nat) : Int) < 0 := by omega
 clear hr hb i1 g1 r1 s1 hz hk M1 M2 M3 M4 hn1 hn2 hn3 hn4
 go_enter Try.func21, Try.ntmps21
 go_wp2_with fail
 refine (HM1.out _ I1.out).mono ?_
 rintro e w1 ⟨rfl, rfl⟩
 go_wp2_with fail
 refine (HM2.out _ G1.out).mono ?_
 rintro e w1 ⟨rfl, rfl⟩
 go_wp2_with fail
 refine (HM3.out _ R1.out).mono ?_
 rintro e w1 ⟨rfl, rfl⟩
 go_wp2_with fail
 refine (HM4.out _ S1.out).mono ?_
 rintro e w1 ⟨rfl, hb⟩
 have HB2 := Lib.hid (belI_call HB.out hb)
 clear hb
 go_wp2_with fail
 go_ret
 exact ⟨ret_int (by rw [HZ.out]; push_cast; omega), HB2.out⟩
end Go.Proofs.Ytnndifemkichmaa
