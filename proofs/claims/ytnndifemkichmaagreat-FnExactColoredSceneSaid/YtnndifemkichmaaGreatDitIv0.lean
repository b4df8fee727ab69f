/- The contracts of DitherImage, of the program and of its model. No statement is proved here. -/
import Derived.Test.YtnndifemkichmaaGreatMA
import Derived.Test.YtnndifemkichmaaGreatMAv0
import Derived.Test.YtnndifemkichmaaGreatMB
import Derived.Test.YtnndifemkichmaaGreatMBv0
import Derived.Test.YtnndifemkichmaaGreatB1sav0
import Derived.Test.YtnndifemkichmaaGreatProg
import Derived.WalkKit
import Derived.ProofKit
import Derived.OpenShut
import Derived.WalkLawsBesides
import Derived.WalkSpells
import Derived.ShutString
import Derived.ChangeOld
import Derived.Below
import Derived.Lib.Hide
import Derived.Laws.BitsAllLaws
import Derived.Lib.QuoteBits
import Derived.BigQuiet
import Derived.Deep.QuietTactic
import Derived.Maps.AppendAt
import Derived.Deep.OwnRows
import Derived.Handy
import Derived.Deep.Draws
import Derived.OwnWalk
import Derived.Deep.AppendLies
import Derived.Deep.LoopGhost
import Derived.Deep.Onto
import Derived.Deep.RegionHeld3
import Derived.Deep.DeepCutAuto
import Derived.Test.YtnndifemkichmaaGreatShelf
import Derived.Laws.CopyOwn
import Derived.Deep.RegionLaw
import Derived.Great.BuildSlice
import Derived.Deep.MidRow
import Derived.Deep.WholeRow
import Derived.Laws.AppendOwn
import Derived.Carry
import Derived.Maps.Own
namespace Go.Proofs.YtnndifemkichmaaGreat
open Go.RowKit
def AnsIs (M : List Int) (w : World) (e : Ending) (w' : World) : Prop := ∃ u, e = .returned u ∧ w'.ownsRow w.heap.size 3 1 u M.length (intCells M) ∧ Below w.heap.size w w'
structure DtA (w : World) (X Y : Int) (v : Value) (L : List Int) (V : World) : Prop where
 a : ImAt V w.heap.size 70 X Y v
 rd : RdI V v L
 bw : Below w.heap.size w V
theorem DtA.call {w : World} {X Y : Int} {v : Value} {L : List Int} {V V' : World} (h : DtA w X Y v L V) (k : Below V.heap.size V V') : DtA w X Y v L V' := ⟨h.a.call k, h.rd.call k, belI_call h.bw k⟩
theorem DtA.born (w : World) (X Y : Int) {v : Value} {L : List Int} (hv : RdI w v L) : DtA w X Y v L (w.alloc (.cells #[.int .i64 X, .int .i64 Y, v] 70)) := ⟨ImAt.new _ _ _ _ _, hv.alloc _, belI_box _ _⟩
theorem DtA.own {w : World} {X Y : Int} {v : Value} {L : List Int} {V V' : World} {row : Option Nat} (h : DtA w X Y v L V) (hv : ∀ g, v.ownBlock = some g → g < w.heap.size) (hg : V.grownBy V' row) (hk : ∀ k, row = some k → w.heap.size + 1 ≤ k) : DtA w X Y v L V' :=
 ⟨h.a.grown hg (fun e => by have := hk _ e.symm; omega), h.rd.grown hg (fun g hg2 e => by have := hk _ e.symm; have := hv _ hg2; omega), h.bw.grown hg h.bw.size (fun k e => by have := hk _ e; omega)⟩
structure DtI (w : World) (X Y : Int) (v : Value) (L : List Int) (u : Value) (q : Nat) (M : List Int) (V : World) : Prop where
 o : DtA w X Y v L V
 own : V.ownsRow (w.heap.size + 1) 3 1 u q (intCells M)
def ditF (W : Nat) (L : List Int) (k : Nat) : Int := dotV (L.getD k 0) ((k : Int) % (W : Int)) ((k : Int) / (W : Int))
theorem ditA_nat {W H : Nat} {L : List Int} (h : imOk W H L) : ditA W H L = tabI (W * H) (ditF W L) := by
 rw [ditA_yes h]; unfold ditL
 rw [show ((W : Int) * (H : Int)).toNat = W * H by exact_mod_cast Int.toNat_natCast (W * H)]; rfl
theorem ditF_at {W x : Nat} (L : List Int) (y : Nat) {z : Int} (hx : x < W) (hz : L[y * W + x]? = some z) : ditF W L (y * W + x) = dotV z x y := by
 unfold ditF
 rw [List.getD_eq_getElem?_getD, hz]
 obtain ⟨e1, e2⟩ := idx_div (y := y) hx
 rw [show (((y * W + x : Nat) : Int) % (W : Int)) = (x : Int) by rw [← Int.natCast_emod, e2], show (((y * W + x : Nat) : Int) / (W : Int)) = (y : Int) by rw [← Int.natCast_ediv, e1]]; rfl
theorem ownI_zero (w : World) : (w.alloc (.cells #[] 3)).ownsRow w.heap.size 3 1 (.slice (some ⟨w.heap.size, 0, none⟩) 0 0) 0 (intCells []) :=
 ⟨rfl, .inr ⟨w.heap.size, 0, #[], rfl, Nat.le_refl _, heap_alloc_new w _, Nat.le_refl _, by unfold maxLen; omega, rfl, rfl⟩⟩
set_option maxHeartbeats 2000000 in
set_option maxRecDepth 10000 in
theorem dimI_ok (W H : Nat) (v : Value) (L : List Int) (w : World) (h1 : imOk W H L) (hv : RdI w v L) :
  Calls Tryz.prog 129 #[.agg #[.int .i64 W, .int .i64 H, v]] w (AnsIs (ditA W H L) w) := by
 obtain ⟨i0, hi, hz0, hz1, hz2⟩ := info_parts infoInt
 have HA := Lib.hid (ditA_nat h1)
 obtain ⟨W2, H2, e1, e2, wl, wh, hl, hh, hL⟩ := im_nat h1
 obtain rfl : W = W2 := by exact_mod_cast e1
 obtain rfl : H = H2 := by exact_mod_cast e2
 clear e1 e2
 obtain ⟨gi, c, rfl, hgi, hcu⟩ := rd_block hv (by rw [hL]; exact Nat.mul_pos wl hl)
 have hgu2 : ∀ g, (Value.slice (some ⟨gi, 0, none⟩) L.length c).ownBlock = some g → g < w.heap.size := fun g hg => (Option.some.inj hg) ▸ hgi
 have hS := DtA.born w W H hv
 have HL := Lib.hid hL
 have Hi := Lib.hid h1
 have hL256 : L.length ≤ 256 := by rw [hL]; exact mul_256 wh hh
 obtain ⟨n, hn⟩ : ∃ n, n = L.length := ⟨_, rfl⟩
 rw [← hn] at hgu2 hS hcu hL256 ⊢
 have Hn := Lib.hid hn
 have HIm := fun (V : World) (h : RdI V (.slice (some ⟨gi, 0, none⟩) n c) L) => imI W H _ L V h
 unfold ImOkAns at HIm
 rw [imB_yes h1] at HIm
 have HIm := Lib.hid HIm
 obtain ⟨F, hF⟩ : ∃ F, F = ditF W L := ⟨_, rfl⟩
 have HF := Lib.hid hF
 rw [← hF] at HA
 have Hgu := Lib.hid hgu2
 clear hL h1 hv hF hn hgu2
 obtain ⟨a0, a1, a2⟩ := hS.a.cells
 go_enter Tryz.func129, Tryz.ntmps129
 go_wp2_with fail
 refine (HIm.out _ hS.rd).mono ?_
 rintro e w2 ⟨rfl, hb⟩
 replace hS := hS.call hb
 clear hb a0 a1 a2
 obtain ⟨a0, a1, a2⟩ := hS.a.cells
 have hsz := hS.a.lt
 go_wp2_with (at_make; refine wpList_make_own _ rfl _ _ 31 rfl (w.heap.size + 1) 3 i0 (.int .i64 0) 1 Tryz.underlying31 hi hz0 hz1 .i64 .i64 _ n rfl rfl (by first | rfl | simp) (by rw [hz2]; omega) (by unfold maxLen; omega) (by omega) ?_; intro w1 hown1 hgr1; have HS := Lib.hid (show DtI w W H (.slice (some ⟨gi, 0, none⟩) n c) L _ 0 [] w1 from ⟨hS.own Hgu.out hgr1 (fun k hk => by cases hk), hown1⟩); clear hown1 hgr1 hS hsz a0 a1 a2; obtain ⟨a0, a1, a2⟩ := HS.out.o.a.cells)
 go_loopg [3, 15] H (fun gk s3 s15 wr => ∃ (y q cv : Nat) (Av : Option Addr) (V : World), V = wr ∧ y ≤ H ∧ gk = H - y ∧ s3 = .slice Av q cv ∧ s15 = .int .i64 y ∧ Hid (q = y * W + 0) ∧ q ≤ 256 ∧ Hid (DtI w W H (.slice (some ⟨gi, 0, none⟩) n c) L (.slice Av q cv) q (tabI q F) V))
 case atStart => exact ⟨0, 0, _, _, _, rfl, by omega, by omega, rfl, rfl, Lib.hid (by simp), by omega, HS⟩
 case round =>
  clear HS a0 a1 a2
  obtain ⟨y, q, cv, Av, wy, hV, hy2, rfl, rfl, rfl, Hq, hq, HS⟩ := hrel
  subst hV
  obtain ⟨a0, a1, a2⟩ := HS.out.o.a.cells
  by_cases hyl : y < H
  ·have hyi : (y : Int) < (H : Int) := by omega
   go_wp2_with fail
   go_loopg [3, 20] W (fun g3 s3 s20 wz => ∃ (x q cv : Nat) (Av : Option Addr) (V : World), V = wz ∧ x ≤ W ∧ g3 = W - x ∧ s3 = .slice Av q cv ∧ s20 = .int .i64 x ∧ Hid (q = y * W + x) ∧ q ≤ 256 ∧ Hid (DtI w W H (.slice (some ⟨gi, 0, none⟩) n c) L (.slice Av q cv) q (tabI q F) V))
   case atStart => exact ⟨0, q, cv, Av, _, rfl, by omega, by omega, rfl, rfl, Hq, hq, HS⟩
   case round =>
    clear HS Hq hq a0 a1 a2
    obtain ⟨x, q, cv, Av, wx, hV, hx2, rfl, rfl, rfl, Hq, hq, HS⟩ := hrel
    subst hV
    by_cases hxl : x < W
    ·have hxi : (x : Int) < (W : Int) := by omega
     have hpl := plc_lt hxl hyl
     rw [← HL.out] at hpl
     obtain ⟨z, hz⟩ : ∃ z, L[y * W + x]? = some z := ⟨_, List.getElem?_eq_getElem hpl⟩
     have HX : Hid (∀ (V : World), RdI V (.slice (some ⟨gi, 0, none⟩) n c) L → Calls Tryz.prog 121 #[.agg #[.int .i64 (W : Int), .int .i64 (H : Int), .slice (some ⟨gi, 0, none⟩) n c], .int .i64 (x : Int), .int .i64 (y : Int)] V fun e w' => e = .returned (.int .i64 z) ∧ Below V.heap.size V w') := Lib.hid (fun V h => by
      have h2 := pixelI W H x y _ L V Hi.out (by omega) (by omega) h
      rw [show ((y : Int) * (W : Int) + (x : Int)).toNat = y * W + x by exact_mod_cast Int.toNat_natCast (y * W + x), List.getD_eq_getElem?_getD, hz] at h2
      exact h2)
     obtain ⟨d, hd⟩ : ∃ d, d = dotV z x y := ⟨_, rfl⟩
     have HD := fun V => dpxI z x y V
     rw [← hd] at HD
     have HD := Lib.hid HD
     have HM : Hid (F (y * W + x) = d) := Lib.hid (by rw [HF.out, hd]; exact ditF_at L y hxl hz)
     have hq1 : q + 1 ≤ 256 := by have h5 := Hq.out; have h6 := Hn.out; omega
     clear hz hd hpl
     obtain ⟨a0, a1, a2⟩ := HS.out.o.a.cells
     go_wp2_with fail
     refine (HX.out _ HS.out.o.rd).mono ?_
     rintro e w3 ⟨rfl, hb⟩
     have HS2 := Lib.hid (show DtI w W H (.slice (some ⟨gi, 0, none⟩) n c) L (.slice Av q cv) q (tabI q F) w3 from ⟨HS.out.o.call hb, ownI_call HS.out.own hb⟩)
     clear hb a0 a1 a2 HS
     go_wp2_with fail
     refine (HD.out _).mono ?_
     rintro e w4 ⟨rfl, hb⟩
     have HS := Lib.hid (show DtI w W H (.slice (some ⟨gi, 0, none⟩) n c) L (.slice Av q cv) q (tabI q F) w4 from ⟨HS2.out.o.call hb, ownI_call HS2.out.own hb⟩)
     have hsz := HS.out.o.a.lt
     clear hb HS2
     go_wp2_with (at_builtin; refine wpList_append_own _ rfl _ _ 31 rfl (w.heap.size + 1) 3 i0 (.int .i64 0) 1 8 Tryz.underlying31 hi hz0 hz1 hz2 rfl (by decide) _ _ _ rfl (HS.out.own.alloc _) ⟨_, 0, none⟩ 1 1 _ rfl rfl (World.news_of_block (cs := #[.int .i64 d]) (fr := (0, 0)) (heap_alloc_new _ _)) (by intro u hu; simp at hu; subst hu; rfl) (by unfold maxLen; omega) (by omega) (by simp; omega) ?_)
     intro v2 w5 hown2 hgrow _
     obtain ⟨gq, cq, hvq, _, _⟩ := hown2.form (by omega)
     subst hvq
     have hlt := fun g hg => (HS.out.own.lt g hg).1
     have HS2 := Lib.hid (show DtI w W H (.slice (some ⟨gi, 0, none⟩) n c) L (.slice (some ⟨gq, 0, none⟩) (q + 1) cq) (q + 1) (tabI (q + 1) F) w5 from ⟨(HS.out.o.call (belI_box _ _)).own Hgu.out hgrow (fun k e => by have := hlt _ e; omega), by
      rw [tabI_succ, show F q = d by rw [Hq.out]; exact HM.out, intCells_append]; exact hown2⟩)
     clear hown2 hgrow HS hlt hsz
     go_wp2_with fail
     go_roundg (W - (x + 1))
     case measure => omega
     case rel => exact ⟨x + 1, q + 1, cq, some ⟨gq, 0, none⟩, _, rfl, by omega, by omega, rfl, by go_num, Lib.hid (by rw [Hq.out]; omega), hq1, HS2⟩
    ·obtain rfl : x = W := by omega
     go_wp2_with fail
     go_roundg (H - (y + 1))
     case measure => omega
     case rel => exact ⟨y + 1, q, cv, Av, _, rfl, by omega, by omega, rfl, by go_num, Lib.hid (by rw [Hq.out, Nat.add_mul, Nat.one_mul]; rfl), hq, HS⟩
  ·obtain rfl : y = H := by omega
   go_wp2_with fail
   go_ret
   refine ⟨_, rfl, ?_, HS.out.o.bw⟩
   rw [HA.out, tabI_length, show W * y = q by rw [Hq.out, Nat.mul_comm]; rfl]
   exact HS.out.own.mono (Nat.le_succ _)
set_option maxHeartbeats 600000 in
theorem dimI_bad (X Y : Int) (v : Value) (L : List Int) (w : World) (h1 : ¬ imOk X Y L) (hv : RdI w v L) :
  Calls Tryz.prog 129 #[.agg #[.int .i64 X, .int .i64 Y, v]] w (AnsIs (ditA X Y L) w) := by
 have HA := Lib.hid (ditA_no h1)
 have hS := DtA.born w X Y hv
 have H1 := Lib.hid h1
 obtain ⟨A, c, rfl⟩ := hv.form
 clear hv h1
 obtain ⟨a0, a1, a2⟩ := hS.a.cells
 go_enter Tryz.func129, Tryz.ntmps129
 go_wp2_with fail
 refine (imI X Y _ L _ hS.rd).mono ?_
 rintro e w2 ⟨rfl, hb⟩
 replace hS := hS.call hb
 clear hb a0 a1 a2
 rw [imB_no H1.out]
 go_wp2_with fail
 go_ret
 exact ⟨_, rfl, by rw [HA.out]; exact World.ownsRow_nil _ _ _ _, hS.bw⟩
theorem dimI (X Y : Int) (v : Value) (L : List Int) (w : World) (hv : RdI w v L) :
  Calls Tryz.prog 129 #[.agg #[.int .i64 X, .int .i64 Y, v]] w (AnsIs (ditA X Y L) w) := by
 by_cases h1 : imOk X Y L
 ·obtain ⟨W, H, rfl, rfl, _⟩ := im_nat h1
  exact dimI_ok W H v L w h1 hv
 ·exact dimI_bad X Y v L w h1 hv
set_option maxHeartbeats 2000000 in
set_option maxRecDepth 10000 in
theorem dimS_ok (W H : Nat) (v : Value) (L : List Int) (w : World) (h1 : imOk W H L) (hv : RdI w v L) :
  Calls Tryz.prog 127 #[.agg #[.int .i64 W, .int .i64 H, v]] w (AnsIs (ditA W H L) w) := by
 have HA := Lib.hid (ditA_nat h1)
 obtain ⟨W2, H2, e1, e2, wl, wh, hl, hh, hL⟩ := im_nat h1
 obtain rfl : W = W2 := by exact_mod_cast e1
 obtain rfl : H = H2 := by exact_mod_cast e2
 clear e1 e2
 obtain ⟨gi, c, rfl, hgi, hcu⟩ := rd_block hv (by rw [hL]; exact Nat.mul_pos wl hl)
 have hgu2 : ∀ g, (Value.slice (some ⟨gi, 0, none⟩) L.length c).ownBlock = some g → g < w.heap.size := fun g hg => (Option.some.inj hg) ▸ hgi
 have hS := DtA.born w W H hv
 have HL := Lib.hid hL
 have hL256 : L.length ≤ 256 := by rw [hL]; exact mul_256 wh hh
 obtain ⟨n, hn⟩ : ∃ n, n = L.length := ⟨_, rfl⟩
 rw [← hn] at hgu2 hS hcu hL256 ⊢
 have Hn := Lib.hid hn
 have HIm := fun (V : World) (h : RdI V (.slice (some ⟨gi, 0, none⟩) n c) L) => imS W H _ L V h
 unfold ImOkAns at HIm
 rw [imB_yes h1] at HIm
 have HIm := Lib.hid HIm
 obtain ⟨F, hF⟩ : ∃ F, F = ditF W L := ⟨_, rfl⟩
 have HF := Lib.hid hF
 rw [← hF] at HA
 have Hgu := Lib.hid hgu2
 clear hL h1 hv hF hn hgu2
 have hsz := hS.a.lt
 have HS := Lib.hid (show DtI w W H (.slice (some ⟨gi, 0, none⟩) n c) L _ 0 (tabI 0 F) _ from ⟨hS.call (belI_box _ _), (ownI_zero _).mono hsz⟩)
 clear hS
 obtain ⟨a0, a1, a2⟩ := HS.out.o.a.cells
 go_enter Tryz.func127, Tryz.ntmps127
 go_wp2_with fail
 go_loopg [3, 4] n (fun gk s3 s4 wr => ∃ (k cv : Nat) (Av : Option Addr) (V : World), V = wr ∧ k ≤ n ∧ gk = n - k ∧ s3 = .slice Av k cv ∧ s4 = .int .i64 k ∧ Hid (DtI w W H (.slice (some ⟨gi, 0, none⟩) n c) L (.slice Av k cv) k (tabI k F) V))
 case atStart => exact ⟨0, 0, _, _, by first | rfl | simp, by omega, by omega, by first | rfl | simp, rfl, HS⟩
 case round =>
  clear HS a0 a1 a2 hsz
  obtain ⟨k, cv, Av, wx, hV, hk2, rfl, rfl, rfl, HS⟩ := hrel
  subst hV
  obtain ⟨a0, a1, a2⟩ := HS.out.o.a.cells
  by_cases hkl : k < n
  ·have hki : (k : Int) < (n : Int) := by omega
   have k0 : (0 : Int) ≤ (k : Int) := by omega
   obtain ⟨z, hz⟩ : ∃ z, L[k]? = some z := ⟨_, List.getElem?_eq_getElem (by rw [← Hn.out]; exact hkl)⟩
   obtain ⟨x, hx⟩ : ∃ x, x = k % W := ⟨_, rfl⟩
   obtain ⟨y, hy⟩ : ∃ y, y = k / W := ⟨_, rfl⟩
   have hW0 : ¬ W = 0 := by omega
   have tx1 : (k : Int) % (W : Int) = (x : Int) := by rw [hx]; simp
   have ty1 : (k : Int) / (W : Int) = (y : Int) := by rw [hy]; simp
   have tx : Int.tmod (k : Int) (W : Int) = (x : Int) := by rw [Int.tmod_eq_emod_of_nonneg (by omega), tx1]
   have ty : Int.tdiv (k : Int) (W : Int) = (y : Int) := by rw [Int.tdiv_eq_ediv_of_nonneg (by omega), ty1]
   have hyk : y ≤ k := by rw [hy]; exact Nat.div_le_self _ _
   have hxk : x < W := by rw [hx]; exact Nat.mod_lt _ (by omega)
   have wyy : IntKind.i64.wrap (y : Int) = (y : Int) := IntWalk.i64_in _ (by omega)
   obtain ⟨d, hd⟩ : ∃ d, d = dotV z x y := ⟨_, rfl⟩
   have HM : Hid (F k = d) := Lib.hid (by rw [HF.out, hd]; unfold ditF; rw [tx1, ty1, List.getD_eq_getElem?_getD, hz]; rfl)
   have HD := fun V => dpxS z x y V
   rw [← hd] at HD
   have HD := Lib.hid HD
   have HZ := Lib.hid hz
   clear hz hx hy hd
   go_wp2_with fail
   refine (HIm.out _ HS.out.o.rd).mono ?_
   rintro e w3 ⟨rfl, hb⟩
   have hA2 := HS.out.o.call hb
   have hO2 := ownI_call HS.out.own hb
   clear hb a0 a1 a2 HS
   go_upto_region 5 with fail
   refine wp_region_held_drew (S := fun V => DtA w W H (.slice (some ⟨gi, 0, none⟩) n c) L V) (by kernel_rfl) (hA2.call (Below.refl _ _).drew) (fun hS => ?_)
   have hOw := show World.ownsRow w3.drew _ _ _ _ _ _ from hO2
   clear hA2 hO2
   refine tcH (i := 0) (v := .slice Av k cv) rfl (by intro w' hSw; (try dsimp only at hSw); (obtain ⟨a0, a1, a2⟩ := hSw.a.cells); (have zc := hSw.rd.cell HZ.out); go_simp) ?_
   refine tcH (i := 1) (v := .pointer (some ⟨w.heap.size, 2, none⟩)) rfl (by intro w' hSw; (try dsimp only at hSw); (obtain ⟨a0, a1, a2⟩ := hSw.a.cells); (have zc := hSw.rd.cell HZ.out); go_simp) ?_
   refine tcH (i := 2) (v := .slice (some ⟨gi, 0, none⟩) n c) rfl (by intro w' hSw; (try dsimp only at hSw); (obtain ⟨a0, a1, a2⟩ := hSw.a.cells); (have zc := hSw.rd.cell HZ.out); go_simp) ?_
   refine tcH (i := 3) (v := .int .i64 (k : Int)) rfl (by intro w' hSw; (try dsimp only at hSw); (obtain ⟨a0, a1, a2⟩ := hSw.a.cells); (have zc := hSw.rd.cell HZ.out); go_simp) ?_
   refine tcH (i := 4) (v := .pointer (some ⟨gi, k, none⟩)) rfl (by intro w' hSw; (try dsimp only at hSw); (obtain ⟨a0, a1, a2⟩ := hSw.a.cells); (have zc := hSw.rd.cell HZ.out); go_simp) ?_
   refine tcH (i := 5) (v := .int .i64 z) rfl (by intro w' hSw; (try dsimp only at hSw); (obtain ⟨a0, a1, a2⟩ := hSw.a.cells); (have zc := hSw.rd.cell HZ.out); go_simp) ?_
   refine tcH (i := 6) (v := .int .i64 (k : Int)) rfl (by intro w' hSw; (try dsimp only at hSw); (obtain ⟨a0, a1, a2⟩ := hSw.a.cells); (have zc := hSw.rd.cell HZ.out); go_simp) ?_
   refine tcH (i := 7) (v := .pointer (some ⟨w.heap.size, 0, none⟩)) rfl (by intro w' hSw; (try dsimp only at hSw); (obtain ⟨a0, a1, a2⟩ := hSw.a.cells); (have zc := hSw.rd.cell HZ.out); go_simp) ?_
   refine tcH (i := 8) (v := .int .i64 (W : Int)) rfl (by intro w' hSw; (try dsimp only at hSw); (obtain ⟨a0, a1, a2⟩ := hSw.a.cells); (have zc := hSw.rd.cell HZ.out); go_simp) ?_
   refine tcH (i := 9) (v := .int .i64 (x : Int)) rfl (by intro w' hSw; (try dsimp only at hSw); (obtain ⟨a0, a1, a2⟩ := hSw.a.cells); (have zc := hSw.rd.cell HZ.out); go_simp) ?_
   refine tcH (i := 10) (v := .int .i64 (k : Int)) rfl (by intro w' hSw; (try dsimp only at hSw); (obtain ⟨a0, a1, a2⟩ := hSw.a.cells); (have zc := hSw.rd.cell HZ.out); go_simp) ?_
   refine tcH (i := 11) (v := .pointer (some ⟨w.heap.size, 0, none⟩)) rfl (by intro w' hSw; (try dsimp only at hSw); (obtain ⟨a0, a1, a2⟩ := hSw.a.cells); (have zc := hSw.rd.cell HZ.out); go_simp) ?_
   refine tcH (i := 12) (v := .int .i64 (W : Int)) rfl (by intro w' hSw; (try dsimp only at hSw); (obtain ⟨a0, a1, a2⟩ := hSw.a.cells); (have zc := hSw.rd.cell HZ.out); go_simp) ?_
   refine tcH (i := 13) (v := .int .i64 (y : Int)) rfl (by intro w' hSw; (try dsimp only at hSw); (obtain ⟨a0, a1, a2⟩ := hSw.a.cells); (have zc := hSw.rd.cell HZ.out); go_simp) ?_
   (try simp only [Act.put]); (try simp only [zPa]); (try simp only [zPb, zPc])
   refine wpAnyH_ready (rs := [14]) (by kernel_rfl) (by simp) ?_
   refine (AllReadyH.cons rfl (fun K hK => ?_) AllReadyH.nil)
   ·rw [if_pos (by kernel_rfl)]
    (try simp only [zGa]); (try simp only [zGb]); (try simp only [zGc])
    go_simp
    with_reducible refine (HD.out _).mono ?_
    rintro e W' ⟨rfl, rfl⟩
    dsimp only
    refine hK.out _ _ (hS) (fun hS => ?_)
    clear hK
    (try simp only [Act.put]); (try simp only [zPa]); (try simp only [zPb, zPc])
    refine wpAnyH_ready (rs := [15]) (by kernel_rfl) (by simp) ?_
    refine (AllReadyH.cons rfl (fun K hK => ?_) AllReadyH.nil)
    ·rw [if_pos (by kernel_rfl)]
     (try simp only [zGa]); (try simp only [zGb]); (try simp only [zGc])
     refine wp_build1I 32 (.tmp 31) d rfl (by first | with_reducible rfl | (go_simp; done) | rfl) rfl ?_
     intro g5 W' hb hR5
     have hOw := ownI_call hOw hb
     refine hK.out _ _ (hS.call hb) (fun hS => ?_)
     clear hK
     (try simp only [Act.put]); (try simp only [zPa]); (try simp only [zPb, zPc])
     refine wpAnyH_ready (rs := [16]) (by kernel_rfl) (by simp) ?_
     refine (AllReadyH.cons rfl (fun K hK => ?_) AllReadyH.nil)
     ·rw [if_pos (by kernel_rfl)]
      (try simp only [zGa]); (try simp only [zGb]); (try simp only [zGc])
      have hlt := fun g hg => (hOw.lt g hg).1
      have hsz := hS.a.lt
      refine wp_append1I (.tmp 17) (.tmp 32) rfl (w.heap.size + 1) (.slice Av k cv) k (tabI k F) (by first | with_reducible rfl | (go_simp; done) | rfl) hOw g5 d (by first | with_reducible rfl | (go_simp; done) | rfl) hR5 (by omega) (by omega) ?_
      intro g7 c7 W7 hown7 hg7
      refine hK.out _ _ (hS.own Hgu.out hg7 (fun k e => by have := hlt _ e; omega)) (fun hS => ?_)
      clear hK
      (try simp only [Act.put]); (try simp only [zPa]); (try simp only [zPb, zPc])
      refine tcH (i := 17) (v := .slice (some ⟨g7, 0, none⟩) (k + 1) c7) rfl (by intro w' hSw; (try dsimp only at hSw); (obtain ⟨a0, a1, a2⟩ := hSw.a.cells); (have zc := hSw.rd.cell HZ.out); go_simp) ?_
      refine wpAnyH_done (by kernel_rfl) ?_ _
      go_wp2_with fail
      go_roundg (n - (k + 1))
      case measure => omega
      case rel =>
       refine ⟨k + 1, c7, some ⟨g7, 0, none⟩, _, rfl, by omega, by omega, rfl, by go_num, Lib.hid ⟨hS, ?_⟩⟩
       rw [tabI_succ, HM.out]
       exact hown7
  ·obtain rfl : k = n := by omega
   go_wp2_with fail
   go_ret
   refine ⟨_, rfl, ?_, HS.out.o.bw⟩
   rw [HA.out, tabI_length, ← HL.out, ← Hn.out]
   exact HS.out.own.mono (Nat.le_succ _)
set_option maxHeartbeats 600000 in
theorem dimS_bad (X Y : Int) (v : Value) (L : List Int) (w : World) (h1 : ¬ imOk X Y L) (hv : RdI w v L) :
  Calls Tryz.prog 127 #[.agg #[.int .i64 X, .int .i64 Y, v]] w (AnsIs (ditA X Y L) w) := by
 have HA := Lib.hid (ditA_no h1)
 have hS0 := DtA.born w X Y hv
 have H1 := Lib.hid h1
 have hnm := hv.len
 unfold maxLen at hnm
 obtain ⟨A, c, rfl⟩ := hv.form
 obtain ⟨n, hn⟩ : ∃ n, n = L.length := ⟨_, rfl⟩
 have HIm := fun (V : World) (h : RdI V (.slice A L.length c) L) => imS X Y _ L V h
 unfold ImOkAns at HIm
 rw [imB_no h1] at HIm
 have hS := hS0.call (belI_box _ (.cells #[] 3))
 have hO := (ownI_zero (w.alloc (.cells #[.int .i64 X, .int .i64 Y, .slice A L.length c] 70))).mono (show w.heap.size ≤ _ by simp)
 rw [← hn] at HIm hS hO hnm ⊢
 have HIm := Lib.hid HIm
 clear hv h1 hS0 hn
 obtain ⟨wy, hwy⟩ : ∃ wy, wy = (w.alloc (.cells #[.int .i64 X, .int .i64 Y, .slice A n c] 70)).alloc (.cells #[] 3) := ⟨_, rfl⟩
 have Hwy := Lib.hid hwy
 rw [← hwy] at hS hO
 have HS := Lib.hid hS
 have HO := Lib.hid hO
 clear hwy hS hO
 go_enter Tryz.func127, Tryz.ntmps127
 go_wp2_with fail
 go_loopw [3, 4] (fun s3 s wr => s3 = .slice (some ⟨w.heap.size + 1, 0, none⟩) 0 0 ∧ s = .int .i64 0 ∧ wr = wy) (fun _ _ _ => 0)
 case atStart => exact ⟨by simp, rfl, Hwy.out.symm⟩
 case round =>
  obtain ⟨rfl, rfl, rfl⟩ := hrel
  obtain ⟨a0, a1, a2⟩ := HS.out.a.cells
  by_cases hn : n = 0
  ·subst hn
   go_wp2_with fail
   go_ret
   exact ⟨_, rfl, by rw [HA.out]; simpa using HO.out, HS.out.bw⟩
  ·have hn1 : (0 : Int) < (n : Int) := by omega
   go_wp2_with fail
   refine (HIm.out _ HS.out.rd).mono ?_
   rintro e w3 ⟨rfl, hb⟩
   have HO2 := Lib.hid (ownI_call HO.out hb)
   have HB := Lib.hid (HS.out.call hb).bw
   clear hb a0 a1 a2
   go_wp2_with fail
   go_ret
   exact ⟨_, rfl, by rw [HA.out]; simpa using HO2.out, HB.out⟩
theorem dimS (X Y : Int) (v : Value) (L : List Int) (w : World) (hv : RdI w v L) :
  Calls Tryz.prog 127 #[.agg #[.int .i64 X, .int .i64 Y, v]] w (AnsIs (ditA X Y L) w) := by
 by_cases h1 : imOk X Y L
 ·obtain ⟨W, H, rfl, rfl, _⟩ := im_nat h1
  exact dimS_ok W H v L w h1 hv
 ·exact dimS_bad X Y v L w h1 hv
end Go.Proofs.YtnndifemkichmaaGreat
