/- The laws' copy of a chain. No statement is proved here. -/
import Derived.Test.YtnndifemkichmaaMA
import Derived.Test.YtnndifemkichmaaLk
import Derived.Test.YtnndifemkichmaaMB
import Derived.Test.YtnndifemkichmaaMC
import Derived.Test.YtnndifemkichmaaChM
import Derived.Test.YtnndifemkichmaaIsE
import Derived.Test.YtnndifemkichmaaSlE
import Derived.Test.YtnndifemkichmaaChL
import Derived.Test.YtnndifemkichmaaSlT
import Derived.Test.YtnndifemkichmaaIsT
import Derived.Test.YtnndifemkichmaaProg
import Derived.WalkKit
import Derived.ProofKit
import Derived.OpenShut
import Derived.WalkLawsBesides
import Derived.WalkSpells
import Derived.ShutString
import Derived.ChangeOld
import Derived.Below
import Derived.Lib.Hide
import Derived.BigQuiet
import Derived.Deep.QuietTactic
import Derived.Maps.AppendAt
import Derived.Deep.OwnRows
import Derived.Handy
import Derived.Deep.Draws
import Derived.OwnWalk
import Derived.Deep.AppendLies
import Derived.Deep.LoopGhost
import Derived.Deep.Onto
import Derived.Deep.MidRow
import Derived.Deep.WholeRow
import Derived.Laws.BitsAllLaws
import Derived.Lib.QuoteBits
import Derived.Deep.RegionHeld3
import Derived.Deep.DeepCutAuto
import Derived.Test.YtnndifemkichmaaShelf
import Derived.Laws.CopyOwn
import Derived.Deep.RegionLaw
import Derived.Great.BuildSlice
import Derived.Laws.AppendOwn
namespace Go.Proofs.Ytnndifemkichmaa
open Go.RowKit
structure ToB (w : World) (b : Nat) (cs zs xs : Array Value) (V : World) : Prop where
 a : BkAt V b 29 cs
 z : BkAt V (b + 1) 38 zs
 i : BkAt V (b + 1 + 1) 38 xs
 bw : Below w.heap.size w V
 le : w.heap.size ≤ b
theorem ToB.call {w : World} {b : Nat} {cs zs xs : Array Value} {V V' : World} (h : ToB w b cs zs xs V) (hb : Below V.heap.size V V') : ToB w b cs zs xs V' := ⟨h.a.call hb, h.z.call hb, h.i.call hb, belI_call h.bw hb, h.le⟩
theorem ToB.put {w : World} {b : Nat} {cs zs xs ys : Array Value} {V : World} (h : ToB w b cs zs xs V) (j : Nat) (v : Value) (hy : xs.setIfInBounds j v = ys) : ToB w b cs zs ys (V.setCell ⟨b + 1 + 1, j, none⟩ v) :=
 ⟨h.a.far (by dsimp only; omega) v, h.z.far (by dsimp only; omega) v, h.i.put j v hy, (Chg.setB V (b + 1 + 1) j v [b + 1 + 1] (by simp)).below h.bw h.bw.size (fun k hk => by have := h.le; rw [List.mem_singleton.1 hk]; omega), h.le⟩
theorem ToB.out {w : World} {b : Nat} {cs zs xs ys : Array Value} {V : World} (h : ToB w b cs zs xs V) (j : Nat) (v : Value) (hy : zs.setIfInBounds j v = ys) : ToB w b cs ys xs (V.setCell ⟨b + 1, j, none⟩ v) :=
 ⟨h.a.far (by dsimp only; omega) v, h.z.put j v hy, h.i.far (by dsimp only; omega) v, (Chg.setB V (b + 1) j v [b + 1] (by simp)).below h.bw h.bw.size (fun k hk => by have := h.le; rw [List.mem_singleton.1 hk]; omega), h.le⟩
theorem ToB.keep {α : Type} {E : Rep α} {w : World} {b g B : Nat} {cs zs xs : Array Value} {V : World} (_ : ToB w b cs zs xs V) {a : α} {vs : List Value} {bs : List Nat} (ho : E.Own B V a vs bs) (hB : b + 1 + 1 < B) (hg : g ≤ b + 1 + 1) (j : Nat) (v : Value) : E.Own B (V.setCell ⟨g, j, none⟩ v) a vs bs :=
 ho.chg (Chg.setB V g j v [g] (by simp)) fun k hk e => by have h1 := ho.lo k hk; have h2 := List.mem_singleton.1 e; omega
set_option maxHeartbeats 2000000 in
set_option maxRecDepth 10000 in
theorem to_cn (f : Ch) (a b e d : Value) (w : World) (hr : wkCh.R w f [a, b, e, .int .i64 f.s.w, .int .i64 f.s.h, .int .i64 f.s.back, d]) (hm : sizCh f ≤ 1048576) : Calls Try.prog 11 #[.agg #[a, b, e, .int .i64 f.s.w, .int .i64 f.s.h, .int .i64 f.s.back, d]] w fun en w' => ∃ u0 u1 u2 u3 bs, en = .returned (.agg #[u0, u1, u2, .int .i64 f.s.w, .int .i64 f.s.h, .int .i64 f.s.back, u3]) ∧ repCh.Own w.heap.size w' f [u0, u1, u2, .int .i64 f.s.w, .int .i64 f.s.h, .int .i64 f.s.back, u3] bs ∧ Below w.heap.size w w' := by
 have hb0 : Below w.heap.size w (((w.alloc (.cells #[a, b, e, .int .i64 f.s.w, .int .i64 f.s.h, .int .i64 f.s.back, d] 29)).alloc (.cells #[.slice none 0 0, .slice none 0 0, .slice none 0 0, .int .i64 0, .int .i64 0, .int .i64 0, .slice none 0 0] 38)).alloc (.cells #[.slice none 0 0, .slice none 0 0, .slice none 0 0, .int .i64 0, .int .i64 0, .int .i64 0, .slice none 0 0] 38)) := belI_call (belI_call (belI_box _ _) (belI_box _ _)) (belI_box _ _)
 have hS : ToB w w.heap.size #[a, b, e, .int .i64 f.s.w, .int .i64 f.s.h, .int .i64 f.s.back, d] #[.slice none 0 0, .slice none 0 0, .slice none 0 0, .int .i64 0, .int .i64 0, .int .i64 0, .slice none 0 0] #[.slice none 0 0, .slice none 0 0, .slice none 0 0, .int .i64 0, .int .i64 0, .int .i64 0, .slice none 0 0] (((w.alloc (.cells #[a, b, e, .int .i64 f.s.w, .int .i64 f.s.h, .int .i64 f.s.back, d] 29)).alloc (.cells #[.slice none 0 0, .slice none 0 0, .slice none 0 0, .int .i64 0, .int .i64 0, .int .i64 0, .slice none 0 0] 38)).alloc (.cells #[.slice none 0 0, .slice none 0 0, .slice none 0 0, .int .i64 0, .int .i64 0, .int .i64 0, .slice none 0 0] 38)) := ⟨((BkAt.new _ _ _).alloc _).alloc _, (BkAt.newAt (by simp) _ _).alloc _, BkAt.newAt (by simp) _ _, hb0, Nat.le_refl _⟩
 have hsz : w.heap.size + 1 + 1 + 1 ≤ (((w.alloc (.cells #[a, b, e, .int .i64 f.s.w, .int .i64 f.s.h, .int .i64 f.s.back, d] 29)).alloc (.cells #[.slice none 0 0, .slice none 0 0, .slice none 0 0, .int .i64 0, .int .i64 0, .int .i64 0, .slice none 0 0] 38)).alloc (.cells #[.slice none 0 0, .slice none 0 0, .slice none 0 0, .int .i64 0, .int .i64 0, .int .i64 0, .slice none 0 0] 38)).heap.size := by simp
 obtain ⟨V0, hV0⟩ : ∃ W, W = (((w.alloc (.cells #[a, b, e, .int .i64 f.s.w, .int .i64 f.s.h, .int .i64 f.s.back, d] 29)).alloc (.cells #[.slice none 0 0, .slice none 0 0, .slice none 0 0, .int .i64 0, .int .i64 0, .int .i64 0, .slice none 0 0] 38)).alloc (.cells #[.slice none 0 0, .slice none 0 0, .slice none 0 0, .int .i64 0, .int .i64 0, .int .i64 0, .slice none 0 0] 38)) := ⟨_, rfl⟩
 rw [← hV0] at hS hsz
 have HV0 := Lib.hid hV0
 obtain ⟨h1, h2, h3, h4⟩ := wr_cn hr
 have H1 := Lib.hid h1
 have H2 := Lib.hid h2
 have H3 := Lib.hid h3
 have H4 := Lib.hid h4
 obtain ⟨X0, x0, X1, x1, X2, x2, X3, x3, rfl, rfl, rfl, rfl⟩ := wform_cn hr
 unfold sizCh at hm
 have Hm := Lib.hid hm
 have HS := Lib.hid hS
 have Hsz := Lib.hid hsz
 obtain ⟨g, hg⟩ : ∃ g, g = w.heap.size := ⟨_, rfl⟩
 rw [← hg] at HS Hsz
 have Hg := Lib.hid hg
 clear hr h1 h2 h3 h4 hV0 hb0 hS hm hsz hg
 go_enter Try.func11, Try.ntmps11
 go_wp2_with fail
 rw [← HV0.out, ← Hg.out]
 refine (toIs f.ims _ _ (by have := Hm.out; omega) (wkIms.call H1.out HS.out.bw)).mono ?_
 rintro en w1 ⟨u0, bs0, rfl, o0, hb⟩
 obtain ⟨A0, c0, hu0⟩ := (form_lIs o0.r).1
 subst hu0
 have hS := HS.out.call hb
 have hsz0 := Nat.le_trans Hsz.out hb.size
 have hsb := hb.size
 clear hb HS
 have a0 := hS.a.cell 0 rfl
 have a1 := hS.a.cell 1 rfl
 have a2 := hS.a.cell 2 rfl
 have a3 := hS.a.cell 3 rfl
 have a4 := hS.a.cell 4 rfl
 have a5 := hS.a.cell 5 rfl
 have a6 := hS.a.cell 6 rfl
 have i0 := hS.i.cell 0 rfl
 have fi0 := hS.i.frozen 0
 have i1 := hS.i.cell 1 rfl
 have fi1 := hS.i.frozen 1
 have i2 := hS.i.cell 2 rfl
 have fi2 := hS.i.frozen 2
 have i3 := hS.i.cell 3 rfl
 have fi3 := hS.i.frozen 3
 have i4 := hS.i.cell 4 rfl
 have fi4 := hS.i.frozen 4
 have i5 := hS.i.cell 5 rfl
 have fi5 := hS.i.frozen 5
 have i6 := hS.i.cell 6 rfl
 have fi6 := hS.i.frozen 6
 go_wp2_with fail
 clear a0 i0 fi0 a1 i1 fi1 a2 i2 fi2 a3 i3 fi3 a4 i4 fi4 a5 i5 fi5 a6 i6 fi6
 obtain ⟨V1, hV⟩ : ∃ W, W = w1.setCell ⟨g + 1 + 1, 0, none⟩ (Value.slice A0 f.ims.length c0) := ⟨_, rfl⟩
 rw [← hV]
 have hT := hS.put (ys := #[Value.slice A0 f.ims.length c0, .slice none 0 0, .slice none 0 0, .int .i64 0, .int .i64 0, .int .i64 0, .slice none 0 0]) 0 (Value.slice A0 f.ims.length c0) rfl
 replace o0 := hS.keep o0 (by have := Hsz.out; omega) (Nat.le_refl _) 0 (Value.slice A0 f.ims.length c0)
 replace hsz0 : g + 1 + 1 + 1 ≤ V1.heap.size := by rw [hV]; simpa using hsz0
 rw [← hV] at hT o0
 have mo0 : Hid (V0.heap.size ≤ V1.heap.size) := Lib.hid (by rw [hV]; simpa using hsb)
 have lt0 := Lib.hid (repIms.ex o0.r)
 have HS := Lib.hid hT
 clear hT hS hV hsb
 refine (toIO _ f.ages _ (by have := Hm.out; omega) (wints_rd (wkInts.call H2.out HS.out.bw))).mono ?_
 rintro en w2 ⟨u1, rfl, o1, hb⟩
 have o1 := repInts_own o1
 obtain ⟨bs1, hbs1⟩ : ∃ b, b = u1.ownBlock.toList := ⟨_, rfl⟩
 rw [← hbs1] at o1
 clear hbs1
 obtain ⟨A1, c1, hu1⟩ := (ints_form o1.r).1
 subst hu1
 have hS := HS.out.call hb
 have hsz1 := Nat.le_trans hsz0 hb.size
 replace o0 := o0.call hb
 have hsb := hb.size
 clear hb HS
 have a0 := hS.a.cell 0 rfl
 have a1 := hS.a.cell 1 rfl
 have a2 := hS.a.cell 2 rfl
 have a3 := hS.a.cell 3 rfl
 have a4 := hS.a.cell 4 rfl
 have a5 := hS.a.cell 5 rfl
 have a6 := hS.a.cell 6 rfl
 have i0 := hS.i.cell 0 rfl
 have fi0 := hS.i.frozen 0
 have i1 := hS.i.cell 1 rfl
 have fi1 := hS.i.frozen 1
 have i2 := hS.i.cell 2 rfl
 have fi2 := hS.i.frozen 2
 have i3 := hS.i.cell 3 rfl
 have fi3 := hS.i.frozen 3
 have i4 := hS.i.cell 4 rfl
 have fi4 := hS.i.frozen 4
 have i5 := hS.i.cell 5 rfl
 have fi5 := hS.i.frozen 5
 have i6 := hS.i.cell 6 rfl
 have fi6 := hS.i.frozen 6
 go_wp2_with fail
 clear a0 i0 fi0 a1 i1 fi1 a2 i2 fi2 a3 i3 fi3 a4 i4 fi4 a5 i5 fi5 a6 i6 fi6
 obtain ⟨V2, hV⟩ : ∃ W, W = w2.setCell ⟨g + 1 + 1, 1, none⟩ (Value.slice A1 f.ages.length c1) := ⟨_, rfl⟩
 rw [← hV]
 have hT := hS.put (ys := #[Value.slice A0 f.ims.length c0, Value.slice A1 f.ages.length c1, .slice none 0 0, .int .i64 0, .int .i64 0, .int .i64 0, .slice none 0 0]) 1 (Value.slice A1 f.ages.length c1) rfl
 replace o0 := hS.keep o0 (by have := Hsz.out; omega) (Nat.le_refl _) 1 (Value.slice A1 f.ages.length c1)
 replace o1 := hS.keep o1 (by omega) (Nat.le_refl _) 1 (Value.slice A1 f.ages.length c1)
 replace hsz1 : g + 1 + 1 + 1 ≤ V2.heap.size := by rw [hV]; simpa using hsz1
 rw [← hV] at hT o0 o1
 have mo1 : Hid (V1.heap.size ≤ V2.heap.size) := Lib.hid (by rw [hV]; simpa using hsb)
 have lt1 := Lib.hid (repInts.ex o1.r)
 have HS := Lib.hid hT
 clear hT hS hV hsb
 refine (toGs f.rgs _ _ (by have := Hm.out; omega) (wkRgs.call H3.out HS.out.bw)).mono ?_
 rintro en w3 ⟨u2, bs2, rfl, o2, hb⟩
 obtain ⟨A2, c2, hu2⟩ := (form_lGs o2.r).1
 subst hu2
 have hS := HS.out.call hb
 have hsz2 := Nat.le_trans hsz1 hb.size
 replace o0 := o0.call hb
 replace o1 := o1.call hb
 have hsb := hb.size
 clear hb HS
 have a0 := hS.a.cell 0 rfl
 have a1 := hS.a.cell 1 rfl
 have a2 := hS.a.cell 2 rfl
 have a3 := hS.a.cell 3 rfl
 have a4 := hS.a.cell 4 rfl
 have a5 := hS.a.cell 5 rfl
 have a6 := hS.a.cell 6 rfl
 have i0 := hS.i.cell 0 rfl
 have fi0 := hS.i.frozen 0
 have i1 := hS.i.cell 1 rfl
 have fi1 := hS.i.frozen 1
 have i2 := hS.i.cell 2 rfl
 have fi2 := hS.i.frozen 2
 have i3 := hS.i.cell 3 rfl
 have fi3 := hS.i.frozen 3
 have i4 := hS.i.cell 4 rfl
 have fi4 := hS.i.frozen 4
 have i5 := hS.i.cell 5 rfl
 have fi5 := hS.i.frozen 5
 have i6 := hS.i.cell 6 rfl
 have fi6 := hS.i.frozen 6
 go_wp2_with fail
 clear a0 i0 fi0 a1 i1 fi1 a2 i2 fi2 a3 i3 fi3 a4 i4 fi4 a5 i5 fi5 a6 i6 fi6
 obtain ⟨V3, hV⟩ : ∃ W, W = w3.setCell ⟨g + 1 + 1, 2, none⟩ (Value.slice A2 f.rgs.length c2) := ⟨_, rfl⟩
 rw [← hV]
 have hT := hS.put (ys := #[Value.slice A0 f.ims.length c0, Value.slice A1 f.ages.length c1, Value.slice A2 f.rgs.length c2, .int .i64 0, .int .i64 0, .int .i64 0, .slice none 0 0]) 2 (Value.slice A2 f.rgs.length c2) rfl
 replace o0 := hS.keep o0 (by have := Hsz.out; omega) (Nat.le_refl _) 2 (Value.slice A2 f.rgs.length c2)
 replace o1 := hS.keep o1 (by omega) (Nat.le_refl _) 2 (Value.slice A2 f.rgs.length c2)
 replace o2 := hS.keep o2 (by omega) (Nat.le_refl _) 2 (Value.slice A2 f.rgs.length c2)
 replace hsz2 : g + 1 + 1 + 1 ≤ V3.heap.size := by rw [hV]; simpa using hsz2
 rw [← hV] at hT o0 o1 o2
 have mo2 : Hid (V2.heap.size ≤ V3.heap.size) := Lib.hid (by rw [hV]; simpa using hsb)
 have lt2 := Lib.hid (repRgs.ex o2.r)
 have HS := Lib.hid hT
 clear hT hS hV hsb
 refine (to_sn f.s _ _ ⟨_, rfl, wkSfs.call H4.out HS.out.bw⟩ (by have := Hm.out; omega)).mono ?_
 rintro en w4 ⟨u3, bs3, rfl, o3, hb⟩
 obtain ⟨A3, c3, hu3⟩ := form_sn o3.r
 subst hu3
 have o3 := own_sn o3
 have hS := HS.out.call hb
 have hsz3 := Nat.le_trans hsz2 hb.size
 replace o0 := o0.call hb
 replace o1 := o1.call hb
 replace o2 := o2.call hb
 have hsb := hb.size
 clear hb HS
 have a0 := hS.a.cell 0 rfl
 have a1 := hS.a.cell 1 rfl
 have a2 := hS.a.cell 2 rfl
 have a3 := hS.a.cell 3 rfl
 have a4 := hS.a.cell 4 rfl
 have a5 := hS.a.cell 5 rfl
 have a6 := hS.a.cell 6 rfl
 have i0 := hS.i.cell 0 rfl
 have fi0 := hS.i.frozen 0
 have z0 := hS.z.cell 0 rfl
 have fz0 := hS.z.frozen 0
 have i1 := hS.i.cell 1 rfl
 have fi1 := hS.i.frozen 1
 have z1 := hS.z.cell 1 rfl
 have fz1 := hS.z.frozen 1
 have i2 := hS.i.cell 2 rfl
 have fi2 := hS.i.frozen 2
 have z2 := hS.z.cell 2 rfl
 have fz2 := hS.z.frozen 2
 have i3 := hS.i.cell 3 rfl
 have fi3 := hS.i.frozen 3
 have z3 := hS.z.cell 3 rfl
 have fz3 := hS.z.frozen 3
 have i4 := hS.i.cell 4 rfl
 have fi4 := hS.i.frozen 4
 have z4 := hS.z.cell 4 rfl
 have fz4 := hS.z.frozen 4
 have i5 := hS.i.cell 5 rfl
 have fi5 := hS.i.frozen 5
 have z5 := hS.z.cell 5 rfl
 have fz5 := hS.z.frozen 5
 have i6 := hS.i.cell 6 rfl
 have fi6 := hS.i.frozen 6
 have z6 := hS.z.cell 6 rfl
 have fz6 := hS.z.frozen 6
 have HS := Lib.hid hS
 have HO := Lib.hid (And.intro o0 (And.intro o1 (And.intro o2 o3)))
 have Hz := Lib.hid (And.intro hsz0 (And.intro hsz1 hsz2))
 clear hS o0 o1 o2 o3 hsz0 hsz1 hsz2 hsz3
 go_wp2_with fail
 have t0 := HS.out
 have t1 := t0.put (ys := #[Value.slice A0 f.ims.length c0, Value.slice A1 f.ages.length c1, Value.slice A2 f.rgs.length c2, Value.int .i64 f.s.w, .int .i64 0, .int .i64 0, .slice none 0 0]) 3 (Value.int .i64 f.s.w) rfl
 have t2 := t1.put (ys := #[Value.slice A0 f.ims.length c0, Value.slice A1 f.ages.length c1, Value.slice A2 f.rgs.length c2, Value.int .i64 f.s.w, Value.int .i64 f.s.h, .int .i64 0, .slice none 0 0]) 4 (Value.int .i64 f.s.h) rfl
 have t3 := t2.put (ys := #[Value.slice A0 f.ims.length c0, Value.slice A1 f.ages.length c1, Value.slice A2 f.rgs.length c2, Value.int .i64 f.s.w, Value.int .i64 f.s.h, Value.int .i64 f.s.back, .slice none 0 0]) 5 (Value.int .i64 f.s.back) rfl
 have t4 := t3.put (ys := #[Value.slice A0 f.ims.length c0, Value.slice A1 f.ages.length c1, Value.slice A2 f.rgs.length c2, Value.int .i64 f.s.w, Value.int .i64 f.s.h, Value.int .i64 f.s.back, Value.slice A3 f.s.fs.length c3]) 6 (Value.slice A3 f.s.fs.length c3) rfl
 have t5 := t4.out (ys := #[Value.slice A0 f.ims.length c0, .slice none 0 0, .slice none 0 0, .int .i64 0, .int .i64 0, .int .i64 0, .slice none 0 0]) 0 (Value.slice A0 f.ims.length c0) rfl
 have t6 := t5.out (ys := #[Value.slice A0 f.ims.length c0, Value.slice A1 f.ages.length c1, .slice none 0 0, .int .i64 0, .int .i64 0, .int .i64 0, .slice none 0 0]) 1 (Value.slice A1 f.ages.length c1) rfl
 have t7 := t6.out (ys := #[Value.slice A0 f.ims.length c0, Value.slice A1 f.ages.length c1, Value.slice A2 f.rgs.length c2, .int .i64 0, .int .i64 0, .int .i64 0, .slice none 0 0]) 2 (Value.slice A2 f.rgs.length c2) rfl
 have t8 := t7.out (ys := #[Value.slice A0 f.ims.length c0, Value.slice A1 f.ages.length c1, Value.slice A2 f.rgs.length c2, Value.int .i64 f.s.w, .int .i64 0, .int .i64 0, .slice none 0 0]) 3 (Value.int .i64 f.s.w) rfl
 have t9 := t8.out (ys := #[Value.slice A0 f.ims.length c0, Value.slice A1 f.ages.length c1, Value.slice A2 f.rgs.length c2, Value.int .i64 f.s.w, Value.int .i64 f.s.h, .int .i64 0, .slice none 0 0]) 4 (Value.int .i64 f.s.h) rfl
 have t10 := t9.out (ys := #[Value.slice A0 f.ims.length c0, Value.slice A1 f.ages.length c1, Value.slice A2 f.rgs.length c2, Value.int .i64 f.s.w, Value.int .i64 f.s.h, Value.int .i64 f.s.back, .slice none 0 0]) 5 (Value.int .i64 f.s.back) rfl
 have t11 := t10.out (ys := #[Value.slice A0 f.ims.length c0, Value.slice A1 f.ages.length c1, Value.slice A2 f.rgs.length c2, Value.int .i64 f.s.w, Value.int .i64 f.s.h, Value.int .i64 f.s.back, Value.slice A3 f.s.fs.length c3]) 6 (Value.slice A3 f.s.fs.length c3) rfl
 have hC := (((((((((((Chg.setB w4 (g + 1 + 1) 3 (Value.int .i64 f.s.w) [g + 1, g + 1 + 1] (by simp)).trans (Chg.setB _ (g + 1 + 1) 4 (Value.int .i64 f.s.h) [g + 1, g + 1 + 1] (by simp))).trans (Chg.setB _ (g + 1 + 1) 5 (Value.int .i64 f.s.back) [g + 1, g + 1 + 1] (by simp))).trans (Chg.setB _ (g + 1 + 1) 6 (Value.slice A3 f.s.fs.length c3) [g + 1, g + 1 + 1] (by simp))).trans (Chg.setB _ (g + 1) 0 (Value.slice A0 f.ims.length c0) [g + 1, g + 1 + 1] (by simp))).trans (Chg.setB _ (g + 1) 1 (Value.slice A1 f.ages.length c1) [g + 1, g + 1 + 1] (by simp))).trans (Chg.setB _ (g + 1) 2 (Value.slice A2 f.rgs.length c2) [g + 1, g + 1 + 1] (by simp))).trans (Chg.setB _ (g + 1) 3 (Value.int .i64 f.s.w) [g + 1, g + 1 + 1] (by simp))).trans (Chg.setB _ (g + 1) 4 (Value.int .i64 f.s.h) [g + 1, g + 1 + 1] (by simp))).trans (Chg.setB _ (g + 1) 5 (Value.int .i64 f.s.back) [g + 1, g + 1 + 1] (by simp))).trans (Chg.setB _ (g + 1) 6 (Value.slice A3 f.s.fs.length c3) [g + 1, g + 1 + 1] (by simp)))
 have x0 := t11.z.cell 0 rfl
 have x1 := t11.z.cell 1 rfl
 have x2 := t11.z.cell 2 rfl
 have x3 := t11.z.cell 3 rfl
 have x4 := t11.z.cell 4 rfl
 have x5 := t11.z.cell 5 rfl
 have x6 := t11.z.cell 6 rfl
 obtain ⟨o0, o1, o2, o3⟩ := HO.out
 obtain ⟨z0, z1, z2⟩ := Hz.out
 have hl := HS.out.le
 have p0 := o0.chg hC (fun k hk e => by have h1 := o0.lo k hk; have h2 := Hsz.out; rcases mem2 e with h3 | h3 <;> omega)
 have p1 := o1.chg hC (fun k hk e => by have h1 := o1.lo k hk; rcases mem2 e with h3 | h3 <;> omega)
 have p2 := o2.chg hC (fun k hk e => by have h1 := o2.lo k hk; rcases mem2 e with h3 | h3 <;> omega)
 have p3 := o3.chg hC (fun k hk e => by have h1 := o3.lo k hk; rcases mem2 e with h3 | h3 <;> omega)
 have ll0 := lt0.out
 have ll1 := lt1.out
 have ll2 := lt2.out
 have m1 := mo1.out
 have m2 := mo2.out
 have hown : CnOwn w.heap.size _ f _ _ _ _ bs0 bs1 bs2 bs3 := ⟨p0.mono (by have := Hsz.out; omega), p1.mono (by omega), p2.mono (by omega), p3.mono (by omega),
  fun k h h' => by have := ll0 k h; have := o1.lo k h'; omega, fun k h h' => by have := ll0 k h; have := o2.lo k h'; omega, fun k h h' => by have := ll0 k h; have := o3.lo k h'; omega,
  fun k h h' => by have := ll1 k h; have := o2.lo k h'; omega, fun k h h' => by have := ll1 k h; have := o3.lo k h'; omega, fun k h h' => by have := ll2 k h; have := o3.lo k h'; omega⟩
 exact bodyPost_ret (v := .agg #[Value.slice A0 f.ims.length c0, Value.slice A1 f.ages.length c1, Value.slice A2 f.rgs.length c2, Value.int .i64 f.s.w, Value.int .i64 f.s.h, Value.int .i64 f.s.back, Value.slice A3 f.s.fs.length c3]) (by simp [results, Try.results11, go_sem, x0, x1, x2, x3, x4, x5, x6]) rfl ⟨_, _, _, _, _, rfl, hown.rep, t11.bw⟩
end Go.Proofs.Ytnndifemkichmaa
