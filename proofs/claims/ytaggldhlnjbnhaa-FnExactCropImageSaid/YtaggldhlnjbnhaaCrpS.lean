/- The contract of the model's CropImage. No statement is proved here. -/
import Derived.Test.YtaggldhlnjbnhaaRd
import Derived.Test.YtaggldhlnjbnhaaIntR
import Derived.Test.YtaggldhlnjbnhaaImR
import Derived.Test.YtaggldhlnjbnhaaRectC
import Derived.Test.YtaggldhlnjbnhaaPixM
import Derived.Test.YtaggldhlnjbnhaaImO
import Derived.Test.YtaggldhlnjbnhaaImL
import Derived.Test.YtaggldhlnjbnhaaImV
import Derived.Test.YtaggldhlnjbnhaaImC
import Derived.Test.YtaggldhlnjbnhaaImN
import Derived.Test.YtaggldhlnjbnhaaBlk4
import Derived.Test.YtaggldhlnjbnhaaRectEq
import Derived.Test.YtaggldhlnjbnhaaCoverC
import Derived.Test.YtaggldhlnjbnhaaHasC
import Derived.Test.YtaggldhlnjbnhaaRegM
import Derived.Test.YtaggldhlnjbnhaaBndP
import Derived.Test.YtaggldhlnjbnhaaRds
import Derived.Test.YtaggldhlnjbnhaaImM
import Derived.Test.YtaggldhlnjbnhaaCpyB
import Derived.Test.YtaggldhlnjbnhaaCpyJ
import Derived.Test.YtaggldhlnjbnhaaFilB
import Derived.Test.YtaggldhlnjbnhaaCoverT
import Derived.Test.YtaggldhlnjbnhaaCrpB
import Derived.Test.YtaggldhlnjbnhaaProg
import Derived.WalkKit
import Derived.ProofKit
import Derived.OpenShut
import Derived.WalkLawsBesides
import Derived.WalkSpells
import Derived.ShutString
import Derived.ChangeOld
import Derived.Below
import Derived.Lib.Hide
import Derived.BigQuiet
import Derived.Deep.QuietTactic
import Derived.Maps.AppendAt
import Derived.Deep.OwnRows
import Derived.Handy
import Derived.Deep.Draws
import Derived.OwnWalk
import Derived.Deep.AppendLies
import Derived.Deep.LoopGhost
import Derived.Deep.Onto
import Derived.Laws.BitsAllLaws
import Derived.Lib.QuoteBits
import Derived.Test.YtaggldhlnjbnhaaShelf
import Derived.Laws.CopyOwn
import Derived.Deep.RegionLaw
import Derived.Deep.RegionHeld3
import Derived.Deep.DeepCutAuto
import Derived.Great.BuildSlice
import Derived.Deep.MidRow
import Derived.Deep.WholeRow
import Derived.Laws.AppendOwn
namespace Go.Proofs.Ytaggldhlnjbnhaa
open Go.RowKit
theorem wp_append_atI {o : Oper} {a : Act} {w : World} {K : Act → World → Prop} {Q : Exit → Act → World → Prop} (s x : Operand)
    (ho : o.op = .call { callee := .builtin .append, args := #[s, x], argTypes := #[26, 26] })
    (base : Nat) (v : Value) (n : Nat) (xs : List Value) (hs : a.eval s = v) (hown : w.ownsRow base 3 1 v n xs)
    (ad : Addr) (m c : Nat) (news : List Value) (hx : a.eval x = .slice (some ad) m c) (hl : news.length = m) (hnews : ∀ j u, news[j]? = some u → w.cell? (ad.add j) = some u) (h1 : ∀ u ∈ news, u.oneCell' = true)
    (h63 : n + m ≤ 17592186044416) (hbase : base ≤ w.heap.size)
    (h : ∀ v' w', w'.ownsRow base 3 1 v' (n + m) (xs ++ news) → w.grownBy w' v.ownBlock → K (a.put o.dst v') w') : o.wp Try.prog a w K Q := by
  obtain ⟨i0, hi, hz0, hz1, hz2⟩ := info_parts infoInt
  obtain ⟨v', w', hr, h2, h3, h4, h5⟩ := run_append_own_at (P := Try.prog) w base 26 o.type 3 i0 (.int .i64 0) 1 8 Try.underlying26 hi hz0 hz1 hz2 rfl (by decide) v n xs hown ad m c news (by omega) hnews h1 (by unfold maxLen; omega) (by omega) hbase
  unfold Oper.wp execOp
  simp only [ho, resolve, invoke, builtin, Sem.run_bind, Sem.run_pure, Result.andThen_ok, List.map_toArray, List.map_cons, List.map_nil, hs, hx, hr]
  exact h v' w' h2 h3
theorem FlA.own {w : World} {X Y : Int} {v : Value} {r : Rc} {W W' : World} {row : Option Nat} (h : FlA w X Y v r W) (hg : W.grownBy W' row) (hk : ∀ k, row = some k → w.heap.size + 2 ≤ k) : FlA w X Y v r W' :=
  ⟨h.a.grown hg (fun e => by have := hk _ e.symm; omega), (hg.block _ h.b.lt (fun e => by have := hk _ e.symm; omega)).trans h.b, h.bw.grown hg h.bw.size (fun k e => by have := hk _ e; omega)⟩
set_option maxHeartbeats 1000000 in
set_option maxRecDepth 10000 in
theorem cropS_bad1 (X Y : Int) (v : Value) (L : List Int) (r : Rc) (w : World) (hv : RdI w v L) (h1 : ¬ imOk X Y L) :
    Calls Try.prog 50 #[.agg #[.int .i64 X, .int .i64 Y, v], .agg #[.int .i64 r.x, .int .i64 r.y, .int .i64 r.w, .int .i64 r.h]] w (AnsCr (cropIm X Y L r) w) := by
  have HA : Hid (cropIm X Y L r = (zeroIm, false)) := Lib.hid (crop_no fun h => h1 h.1)
  have Ho := Lib.hid h1
  clear h1
  obtain ⟨A, c, rfl⟩ := hv.form
  have hS := FlA.born w X Y (.slice A L.length c) r
  have hd := fl_res w X Y (.slice A L.length c) r
  have hrv := ((hv.alloc (.cells #[.int .i64 X, .int .i64 Y, .slice A L.length c] 28)).alloc (.cells #[.int .i64 r.x, .int .i64 r.y, .int .i64 r.w, .int .i64 r.h] 60)).alloc (.cells #[.int .i64 0, .int .i64 0, .slice none 0 0] 28)
  clear hv
  obtain ⟨a0, a1, a2⟩ := hS.a.cells
  go_enter Try.func50, Try.ntmps50
  go_wp2_with fail
  refine (imS X Y _ L _ hrv).mono ?_
  rintro e w2 ⟨rfl, hb⟩
  replace hS := hS.call hb
  replace hd := hd.call hb
  replace hrv := hrv.call hb
  clear hb a0 a1 a2
  rw [imB_no Ho.out]
  obtain ⟨d0, d1, d2⟩ := hd.cells
  have f0 := hd.frozen 0
  have f1 := hd.frozen 1
  have f2 := hd.frozen 2
  go_wp2_with fail
  have j := hd.set3 0 0 (.slice none 0 0)
  obtain ⟨x0, x1, x2⟩ := j.cells
  refine bodyPost_ret (v := .tuple #[.agg #[.int .i64 0, .int .i64 0, .slice none 0 0], .bool false]) (by simp [results, Try.results50, go_sem, x0, x1, x2]) rfl ?_
  rw [HA.out]
  exact ansCr_no (((hS.bw.setCell (by dsimp only; omega) _).setCell (by dsimp only; omega) _).setCell (by dsimp only; omega) _)
set_option maxHeartbeats 1000000 in
set_option maxRecDepth 10000 in
theorem cropS_bad2 (X Y : Int) (v : Value) (L : List Int) (r : Rc) (w : World) (hv : RdI w v L) (h1 : imOk X Y L) (h2 : ¬ r.ok) :
    Calls Try.prog 50 #[.agg #[.int .i64 X, .int .i64 Y, v], .agg #[.int .i64 r.x, .int .i64 r.y, .int .i64 r.w, .int .i64 r.h]] w (AnsCr (cropIm X Y L r) w) := by
  have HA : Hid (cropIm X Y L r = (zeroIm, false)) := Lib.hid (crop_no fun h => by rw [cov_no (fun k => h2 k.2.1)] at h; cases h.2.1)
  have Ho := Lib.hid h1
  have Hr := Lib.hid h2
  clear h1 h2
  obtain ⟨A, c, rfl⟩ := hv.form
  have hS := FlA.born w X Y (.slice A L.length c) r
  have hd := fl_res w X Y (.slice A L.length c) r
  have hrv := ((hv.alloc (.cells #[.int .i64 X, .int .i64 Y, .slice A L.length c] 28)).alloc (.cells #[.int .i64 r.x, .int .i64 r.y, .int .i64 r.w, .int .i64 r.h] 60)).alloc (.cells #[.int .i64 0, .int .i64 0, .slice none 0 0] 28)
  clear hv
  obtain ⟨a0, a1, a2⟩ := hS.a.cells
  go_enter Try.func50, Try.ntmps50
  go_wp2_with fail
  refine (imS X Y _ L _ hrv).mono ?_
  rintro e w2 ⟨rfl, hb⟩
  replace hS := hS.call hb
  replace hd := hd.call hb
  replace hrv := hrv.call hb
  clear hb a0 a1 a2
  rw [imB_yes Ho.out]
  obtain ⟨a0, a1, a2⟩ := hS.a.cells
  obtain ⟨b0, b1, b2, b3⟩ := hS.b.cells
  go_wp2_with fail
  refine (rectOkS_no r Hr.out _).mono ?_
  rintro e w3 ⟨rfl, hb⟩
  replace hS := hS.call hb
  replace hd := hd.call hb
  replace hrv := hrv.call hb
  clear hb a0 a1 a2 b0 b1 b2 b3
  obtain ⟨d0, d1, d2⟩ := hd.cells
  have f0 := hd.frozen 0
  have f1 := hd.frozen 1
  have f2 := hd.frozen 2
  go_wp2_with fail
  have j := hd.set3 0 0 (.slice none 0 0)
  obtain ⟨x0, x1, x2⟩ := j.cells
  refine bodyPost_ret (v := .tuple #[.agg #[.int .i64 0, .int .i64 0, .slice none 0 0], .bool false]) (by simp [results, Try.results50, go_sem, x0, x1, x2]) rfl ?_
  rw [HA.out]
  exact ansCr_no (((hS.bw.setCell (by dsimp only; omega) _).setCell (by dsimp only; omega) _).setCell (by dsimp only; omega) _)
set_option maxHeartbeats 1000000 in
set_option maxRecDepth 10000 in
theorem cropS_bad3 (X Y : Int) (v : Value) (L : List Int) (r : Rc) (w : World) (hv : RdI w v L) (h1 : imOk X Y L) (h2 : r.ok) (h3 : r.emp) :
    Calls Try.prog 50 #[.agg #[.int .i64 X, .int .i64 Y, v], .agg #[.int .i64 r.x, .int .i64 r.y, .int .i64 r.w, .int .i64 r.h]] w (AnsCr (cropIm X Y L r) w) := by
  have HA : Hid (cropIm X Y L r = (zeroIm, false)) := Lib.hid (crop_no fun h => h.2.2 h3)
  have Ho := Lib.hid h1
  have Hr := Lib.hid h2
  have He := Lib.hid h3
  clear h1 h2 h3
  obtain ⟨A, c, rfl⟩ := hv.form
  have hS := FlA.born w X Y (.slice A L.length c) r
  have hd := fl_res w X Y (.slice A L.length c) r
  have hrv := ((hv.alloc (.cells #[.int .i64 X, .int .i64 Y, .slice A L.length c] 28)).alloc (.cells #[.int .i64 r.x, .int .i64 r.y, .int .i64 r.w, .int .i64 r.h] 60)).alloc (.cells #[.int .i64 0, .int .i64 0, .slice none 0 0] 28)
  clear hv
  obtain ⟨a0, a1, a2⟩ := hS.a.cells
  go_enter Try.func50, Try.ntmps50
  go_wp2_with fail
  refine (imS X Y _ L _ hrv).mono ?_
  rintro e w2 ⟨rfl, hb⟩
  replace hS := hS.call hb
  replace hd := hd.call hb
  replace hrv := hrv.call hb
  clear hb a0 a1 a2
  rw [imB_yes Ho.out]
  obtain ⟨a0, a1, a2⟩ := hS.a.cells
  obtain ⟨b0, b1, b2, b3⟩ := hS.b.cells
  go_wp2_with fail
  refine (rectOkS_yes r Hr.out _).mono ?_
  rintro e w3 ⟨rfl, hb⟩
  replace hS := hS.call hb
  replace hd := hd.call hb
  replace hrv := hrv.call hb
  clear hb a0 a1 a2 b0 b1 b2 b3
  obtain ⟨a0, a1, a2⟩ := hS.a.cells
  obtain ⟨b0, b1, b2, b3⟩ := hS.b.cells
  go_wp2_with fail
  refine (empS_yes' r He.out _).mono ?_
  rintro e w4 ⟨rfl, hb⟩
  replace hS := hS.call hb
  replace hd := hd.call hb
  replace hrv := hrv.call hb
  clear hb a0 a1 a2 b0 b1 b2 b3
  obtain ⟨d0, d1, d2⟩ := hd.cells
  have f0 := hd.frozen 0
  have f1 := hd.frozen 1
  have f2 := hd.frozen 2
  go_wp2_with fail
  have j := hd.set3 0 0 (.slice none 0 0)
  obtain ⟨x0, x1, x2⟩ := j.cells
  refine bodyPost_ret (v := .tuple #[.agg #[.int .i64 0, .int .i64 0, .slice none 0 0], .bool false]) (by simp [results, Try.results50, go_sem, x0, x1, x2]) rfl ?_
  rw [HA.out]
  exact ansCr_no (((hS.bw.setCell (by dsimp only; omega) _).setCell (by dsimp only; omega) _).setCell (by dsimp only; omega) _)
set_option maxHeartbeats 1000000 in
set_option maxRecDepth 10000 in
theorem cropS_bad4 (X Y : Int) (v : Value) (L : List Int) (r : Rc) (w : World) (hv : RdI w v L) (h1 : imOk X Y L) (hr : r.ok) (h3 : ¬ r.emp) (h2 : covB ⟨0, 0, X, Y⟩ r = false) :
    Calls Try.prog 50 #[.agg #[.int .i64 X, .int .i64 Y, v], .agg #[.int .i64 r.x, .int .i64 r.y, .int .i64 r.w, .int .i64 r.h]] w (AnsCr (cropIm X Y L r) w) := by
  have HA : Hid (cropIm X Y L r = (zeroIm, false)) := Lib.hid (crop_no fun h => by rw [h2] at h; cases h.2.1)
  have Ho := Lib.hid h1
  have Hr := Lib.hid hr
  have He := Lib.hid h3
  have HC : Hid (∀ V : World, Calls Try.prog 75 #[.agg #[.int .i64 0, .int .i64 0, .int .i64 X, .int .i64 Y], .agg #[.int .i64 r.x, .int .i64 r.y, .int .i64 r.w, .int .i64 r.h]] V fun e w' => e = .returned (.bool false) ∧ Below V.heap.size V w') := Lib.hid (fun V => by have h := coversS_any ⟨0, 0, X, Y⟩ r V; rw [h2] at h; exact h)
  clear h1 h2 h3 hr
  obtain ⟨A, c, rfl⟩ := hv.form
  have hS := FlA.born w X Y (.slice A L.length c) r
  have hd := fl_res w X Y (.slice A L.length c) r
  have hrv := ((hv.alloc (.cells #[.int .i64 X, .int .i64 Y, .slice A L.length c] 28)).alloc (.cells #[.int .i64 r.x, .int .i64 r.y, .int .i64 r.w, .int .i64 r.h] 60)).alloc (.cells #[.int .i64 0, .int .i64 0, .slice none 0 0] 28)
  clear hv
  obtain ⟨a0, a1, a2⟩ := hS.a.cells
  go_enter Try.func50, Try.ntmps50
  go_wp2_with fail
  refine (imS X Y _ L _ hrv).mono ?_
  rintro e w2 ⟨rfl, hb⟩
  replace hS := hS.call hb
  replace hd := hd.call hb
  replace hrv := hrv.call hb
  clear hb a0 a1 a2
  rw [imB_yes Ho.out]
  obtain ⟨a0, a1, a2⟩ := hS.a.cells
  obtain ⟨b0, b1, b2, b3⟩ := hS.b.cells
  go_wp2_with fail
  refine (rectOkS_yes r Hr.out _).mono ?_
  rintro e w3 ⟨rfl, hb⟩
  replace hS := hS.call hb
  replace hd := hd.call hb
  replace hrv := hrv.call hb
  clear hb a0 a1 a2 b0 b1 b2 b3
  obtain ⟨a0, a1, a2⟩ := hS.a.cells
  obtain ⟨b0, b1, b2, b3⟩ := hS.b.cells
  go_wp2_with fail
  refine (empS_no' r He.out _).mono ?_
  rintro e w4 ⟨rfl, hb⟩
  replace hS := hS.call hb
  replace hd := hd.call hb
  replace hrv := hrv.call hb
  clear hb a0 a1 a2 b0 b1 b2 b3
  obtain ⟨a0, a1, a2⟩ := hS.a.cells
  obtain ⟨b0, b1, b2, b3⟩ := hS.b.cells
  go_wp2_with fail
  refine (HC.out _).mono ?_
  rintro e w5 ⟨rfl, hb⟩
  replace hS := hS.call hb
  replace hd := hd.call hb
  replace hrv := hrv.call hb
  clear hb a0 a1 a2 b0 b1 b2 b3
  obtain ⟨d0, d1, d2⟩ := hd.cells
  have f0 := hd.frozen 0
  have f1 := hd.frozen 1
  have f2 := hd.frozen 2
  go_wp2_with fail
  have j := hd.set3 0 0 (.slice none 0 0)
  obtain ⟨x0, x1, x2⟩ := j.cells
  refine bodyPost_ret (v := .tuple #[.agg #[.int .i64 0, .int .i64 0, .slice none 0 0], .bool false]) (by simp [results, Try.results50, go_sem, x0, x1, x2]) rfl ?_
  rw [HA.out]
  exact ansCr_no (((hS.bw.setCell (by dsimp only; omega) _).setCell (by dsimp only; omega) _).setCell (by dsimp only; omega) _)
set_option maxHeartbeats 4000000 in
set_option maxRecDepth 10000 in
theorem cropS_ok (W H X Y n h : Nat) (wl : 1 ≤ W) (wh : W ≤ 16) (hl : 1 ≤ H) (hh : H ≤ 16) (hn1 : 1 ≤ n) (hh1 : 1 ≤ h) (hXn : X + n ≤ W) (hYh : Y + h ≤ H) (gu cu : Nat) (L : List Int) (w : World) (h1 : imOk W H L) (h2 : covB ⟨0, 0, W, H⟩ ⟨X, Y, n, h⟩ = true) (h3 : ¬ (⟨X, Y, n, h⟩ : Rc).emp) (hL : L.length = W * H) (hcu : L.length ≤ cu) (hgu : gu < w.heap.size) (hv : RdI w (.slice (some ⟨gu, 0, none⟩) L.length cu) L) :
    Calls Try.prog 50 #[.agg #[.int .i64 W, .int .i64 H, .slice (some ⟨gu, 0, none⟩) L.length cu], .agg #[.int .i64 X, .int .i64 Y, .int .i64 n, .int .i64 h]] w (AnsCr (cropIm W H L ⟨X, Y, n, h⟩) w) := by
  have HA : Hid (cropIm W H L ⟨X, Y, n, h⟩ = (⟨n, h, rowsL W L X Y n h⟩, true)) := Lib.hid (crop_val h1 h2 h3)
  have Ho := Lib.hid h1
  have HL := Lib.hid hL
  have He := Lib.hid h3
  have hL256 : L.length ≤ 256 := by rw [hL]; exact mul_256 wh hh
  have Hr : Hid ((⟨X, Y, n, h⟩ : Rc).ok) := Lib.hid (by unfold Rc.ok; dsimp only; omega)
  have hgu2 : ∀ g, (Value.slice (some ⟨gu, 0, none⟩) L.length cu).ownBlock = some g → g < w.heap.size := fun g hg => (Option.some.inj hg) ▸ hgu
  have HC : Hid (∀ V : World, Calls Try.prog 75 #[.agg #[.int .i64 0, .int .i64 0, .int .i64 W, .int .i64 H], .agg #[.int .i64 X, .int .i64 Y, .int .i64 n, .int .i64 h]] V fun e w' => e = .returned (.bool true) ∧ Below V.heap.size V w') := Lib.hid (fun V => by have h := coversS_any ⟨0, 0, W, H⟩ ⟨X, Y, n, h⟩ V; rw [h2] at h; exact h)
  clear h1 h2 h3 hL
  have hS := FlA.born w W H (.slice (some ⟨gu, 0, none⟩) L.length cu) ⟨X, Y, n, h⟩
  have hd := fl_res w W H (.slice (some ⟨gu, 0, none⟩) L.length cu) ⟨X, Y, n, h⟩
  have hrv := ((hv.alloc (.cells #[.int .i64 W, .int .i64 H, .slice (some ⟨gu, 0, none⟩) L.length cu] 28)).alloc (.cells #[.int .i64 X, .int .i64 Y, .int .i64 n, .int .i64 h] 60)).alloc (.cells #[.int .i64 0, .int .i64 0, .slice none 0 0] 28)
  clear hv
  obtain ⟨a0, a1, a2⟩ := hS.a.cells
  go_enter Try.func50, Try.ntmps50
  go_wp2_with fail
  refine (imS W H _ L _ hrv).mono ?_
  rintro e w2 ⟨rfl, hb⟩
  replace hS := hS.call hb
  replace hd := hd.call hb
  replace hrv := hrv.call hb
  clear hb a0 a1 a2
  rw [imB_yes Ho.out]
  obtain ⟨a0, a1, a2⟩ := hS.a.cells
  obtain ⟨b0, b1, b2, b3⟩ := hS.b.cells
  dsimp only at b0 b1 b2 b3
  go_wp2_with fail
  refine (rectOkS_yes ⟨X, Y, n, h⟩ Hr.out _).mono ?_
  rintro e w3 ⟨rfl, hb⟩
  replace hS := hS.call hb
  replace hd := hd.call hb
  replace hrv := hrv.call hb
  clear hb a0 a1 a2 b0 b1 b2 b3
  obtain ⟨a0, a1, a2⟩ := hS.a.cells
  obtain ⟨b0, b1, b2, b3⟩ := hS.b.cells
  dsimp only at b0 b1 b2 b3
  go_wp2_with fail
  refine (empS_no' ⟨X, Y, n, h⟩ He.out _).mono ?_
  rintro e w4 ⟨rfl, hb⟩
  replace hS := hS.call hb
  replace hd := hd.call hb
  replace hrv := hrv.call hb
  clear hb a0 a1 a2 b0 b1 b2 b3
  obtain ⟨a0, a1, a2⟩ := hS.a.cells
  obtain ⟨b0, b1, b2, b3⟩ := hS.b.cells
  dsimp only at b0 b1 b2 b3
  go_wp2_with fail
  refine (HC.out _).mono ?_
  rintro e w5 ⟨rfl, hb⟩
  replace hS := hS.call hb
  replace hd := hd.call hb
  replace hrv := hrv.call hb
  clear hb a0 a1 a2 b0 b1 b2 b3
  obtain ⟨b0, b1, b2, b3⟩ := hS.b.cells
  dsimp only at b0 b1 b2 b3
  obtain ⟨bt, hbt⟩ : ∃ bt, bt = w5.heap.size := ⟨_, rfl⟩
  have hlo := hd.lt
  have him := ImAt.newAt (w := w5) hbt.symm 28 n h (.slice none 0 0)
  have hS2 := hS.call (belI_box w5 (.cells #[.int .i64 n, .int .i64 h, .slice none 0 0] 28))
  have hd2 := hd.call (belI_box w5 (.cells #[.int .i64 n, .int .i64 h, .slice none 0 0] 28))
  have hrv2 := hrv.call (belI_box w5 (.cells #[.int .i64 n, .int .i64 h, .slice none 0 0] 28))
  have hown := World.ownsRow_nil (w5.alloc (.cells #[.int .i64 n, .int .i64 h, .slice none 0 0] 28)) (bt + 1) 3 1
  clear b0 b1 b2 b3
  obtain ⟨b0, b1, b2, b3⟩ := hS2.b.cells
  dsimp only at b0 b1 b2 b3
  obtain ⟨k0, k1, k2, k3⟩ := hS.b.cells
  dsimp only at k0 k1 k2 k3
  have hbt2 : w.heap.size + 2 < bt := by omega
  have HB := Lib.hid hbt
  clear hbt hlo
  go_wp2_with fail
  rw [← HB.out]
  clear b0 b1 b2 b3 k0 k1 k2 k3 hS hd hrv
  go_loopg [7] h (fun gk s7 wr => ∃ (y q cv : Nat) (Av : Option Addr) (V : World), V = wr ∧ Y ≤ y ∧ y ≤ Y + h ∧ gk = Y + h - y ∧ s7 = .int .i64 y ∧ Hid (q = (y - Y) * n) ∧ q ≤ 256 ∧ FlA w W H (.slice (some ⟨gu, 0, none⟩) L.length cu) ⟨X, Y, n, h⟩ V ∧ ImAt V (w.heap.size + 2) 28 0 0 (.slice none 0 0) ∧ RdI V (.slice (some ⟨gu, 0, none⟩) L.length cu) L ∧ ImAt V bt 28 n h (.slice Av q cv) ∧ V.ownsRow (bt + 1) 3 1 (.slice Av q cv) q (intCells (rowsL W L X Y n (y - Y))))
  case atStart => exact ⟨Y, 0, 0, none, _, rfl, Nat.le_refl _, by omega, by omega, rfl, Lib.hid (by simp), by omega, hS2, hd2, hrv2, him, by rw [Nat.sub_self]; exact hown⟩
  case round =>
    clear hS2 hd2 hrv2 him hown
    obtain ⟨y, q, cv, Av, wy, hV, hy1, hy2, rfl, rfl, Hq, hq256, hS, hd, hrv, him, hown⟩ := hrel
    subst hV
    obtain ⟨b0, b1, b2, b3⟩ := hS.b.cells
    dsimp only at b0 b1 b2 b3
    by_cases hyl : y < Y + h
    · have hyi : (y : Int) < (Y : Int) + (h : Int) := by omega
      obtain ⟨m, hm⟩ : ∃ m, m = y * W := ⟨_, rfl⟩
      have hfit : m + W ≤ L.length := by rw [hm, HL.out]; have h5 : (y + 1) * W ≤ H * W := Nat.mul_le_mul_right _ (by omega); rw [Nat.add_mul, Nat.one_mul, Nat.mul_comm H W] at h5; exact h5
      obtain ⟨s, hs⟩ : ∃ s, s = m + X := ⟨_, rfl⟩
      obtain ⟨t, ht⟩ : ∃ t, t = s + n := ⟨_, rfl⟩
      have e1 : (y : Int) * (W : Int) = (m : Int) := by rw [hm]; simp
      have e2 : (m : Int) + (X : Int) = (s : Int) := by omega
      have e3 : (s : Int) + (n : Int) = (t : Int) := by omega
      have r1 := wrap_in (m : Int) (by omega) (by omega)
      have r2 := wrap_in (s : Int) (by omega) (by omega)
      have r3 := wrap_in (t : Int) (by omega) (by omega)
      have q1 : s ≤ t := by omega
      have q2 : t ≤ cu := by omega
      have q3 : t - s = n := by omega
      have q4 : s + n ≤ L.length := by omega
      have q5 : ¬ cu = s := by omega
      have Hm := Lib.hid hm
      have Hs := Lib.hid hs
      clear hm hs ht
      go_wp2_with fail
      refine wp_region_held_drew (S := fun V => FlA w W H (.slice (some ⟨gu, 0, none⟩) L.length cu) ⟨X, Y, n, h⟩ V) (by kernel_rfl) (hS.call (Below.refl _ _).drew) (fun hS => ?_)
      replace hd := hd.call (Below.refl _ _).drew
      replace hrv := hrv.drew
      replace him := him.call (Below.refl _ _).drew
      replace hown := hown.drew
      obtain ⟨m0, m1, m2⟩ := him.cells
      refine wpAnyH_take (i := 0) (v := .pointer (some ⟨bt, 2, none⟩)) rfl (by kernel_rfl) (by kernel_rfl) (by kernel_rfl) (fun _ _ _ h => h) (Or.inl ⟨by kernel_rfl, by intro w' hSw; (try dsimp only at hSw); (obtain ⟨a0, a1, a2⟩ := hSw.a.cells); (obtain ⟨b0, b1, b2, b3⟩ := hSw.b.cells); (dsimp only at b0 b1 b2 b3); go_simp⟩) (by assumption) ?_
      refine wpAnyH_take (i := 2) (v := .pointer (some ⟨w.heap.size, 2, none⟩)) rfl (by kernel_rfl) (by kernel_rfl) (by kernel_rfl) (fun _ _ _ h => h) (Or.inl ⟨by kernel_rfl, by intro w' hSw; (try dsimp only at hSw); (obtain ⟨a0, a1, a2⟩ := hSw.a.cells); (obtain ⟨b0, b1, b2, b3⟩ := hSw.b.cells); (dsimp only at b0 b1 b2 b3); go_simp⟩) (by assumption) ?_
      refine wpAnyH_take (i := 3) (v := .slice (some ⟨gu, 0, none⟩) L.length cu) rfl (by kernel_rfl) (by kernel_rfl) (by kernel_rfl) (fun _ _ _ h => h) (Or.inl ⟨by kernel_rfl, by intro w' hSw; (try dsimp only at hSw); (obtain ⟨a0, a1, a2⟩ := hSw.a.cells); (obtain ⟨b0, b1, b2, b3⟩ := hSw.b.cells); (dsimp only at b0 b1 b2 b3); go_simp⟩) (by assumption) ?_
      refine wpAnyH_take (i := 4) (v := .int .i64 y) rfl (by kernel_rfl) (by kernel_rfl) (by kernel_rfl) (fun _ _ _ h => h) (Or.inl ⟨by kernel_rfl, by intro w' hSw; (try dsimp only at hSw); (obtain ⟨a0, a1, a2⟩ := hSw.a.cells); (obtain ⟨b0, b1, b2, b3⟩ := hSw.b.cells); (dsimp only at b0 b1 b2 b3); go_simp⟩) (by assumption) ?_
      refine wpAnyH_take (i := 5) (v := .pointer (some ⟨w.heap.size, 0, none⟩)) rfl (by kernel_rfl) (by kernel_rfl) (by kernel_rfl) (fun _ _ _ h => h) (Or.inl ⟨by kernel_rfl, by intro w' hSw; (try dsimp only at hSw); (obtain ⟨a0, a1, a2⟩ := hSw.a.cells); (obtain ⟨b0, b1, b2, b3⟩ := hSw.b.cells); (dsimp only at b0 b1 b2 b3); go_simp⟩) (by assumption) ?_
      refine wpAnyH_take (i := 6) (v := .int .i64 W) rfl (by kernel_rfl) (by kernel_rfl) (by kernel_rfl) (fun _ _ _ h => h) (Or.inl ⟨by kernel_rfl, by intro w' hSw; (try dsimp only at hSw); (obtain ⟨a0, a1, a2⟩ := hSw.a.cells); (obtain ⟨b0, b1, b2, b3⟩ := hSw.b.cells); (dsimp only at b0 b1 b2 b3); go_simp⟩) (by assumption) ?_
      refine wpAnyH_take (i := 7) (v := .int .i64 m) rfl (by kernel_rfl) (by kernel_rfl) (by kernel_rfl) (fun _ _ _ h => h) (Or.inl ⟨by kernel_rfl, by intro w' hSw; (try dsimp only at hSw); (obtain ⟨a0, a1, a2⟩ := hSw.a.cells); (obtain ⟨b0, b1, b2, b3⟩ := hSw.b.cells); (dsimp only at b0 b1 b2 b3); go_simp⟩) (by assumption) ?_
      refine wpAnyH_take (i := 8) (v := .pointer (some ⟨w.heap.size + 1, 0, none⟩)) rfl (by kernel_rfl) (by kernel_rfl) (by kernel_rfl) (fun _ _ _ h => h) (Or.inl ⟨by kernel_rfl, by intro w' hSw; (try dsimp only at hSw); (obtain ⟨a0, a1, a2⟩ := hSw.a.cells); (obtain ⟨b0, b1, b2, b3⟩ := hSw.b.cells); (dsimp only at b0 b1 b2 b3); go_simp⟩) (by assumption) ?_
      refine wpAnyH_take (i := 9) (v := .int .i64 X) rfl (by kernel_rfl) (by kernel_rfl) (by kernel_rfl) (fun _ _ _ h => h) (Or.inl ⟨by kernel_rfl, by intro w' hSw; (try dsimp only at hSw); (obtain ⟨a0, a1, a2⟩ := hSw.a.cells); (obtain ⟨b0, b1, b2, b3⟩ := hSw.b.cells); (dsimp only at b0 b1 b2 b3); go_simp⟩) (by assumption) ?_
      refine wpAnyH_take (i := 10) (v := .int .i64 s) rfl (by kernel_rfl) (by kernel_rfl) (by kernel_rfl) (fun _ _ _ h => h) (Or.inl ⟨by kernel_rfl, by intro w' hSw; (try dsimp only at hSw); (obtain ⟨a0, a1, a2⟩ := hSw.a.cells); (obtain ⟨b0, b1, b2, b3⟩ := hSw.b.cells); (dsimp only at b0 b1 b2 b3); go_simp⟩) (by assumption) ?_
      refine wpAnyH_take (i := 11) (v := .int .i64 y) rfl (by kernel_rfl) (by kernel_rfl) (by kernel_rfl) (fun _ _ _ h => h) (Or.inl ⟨by kernel_rfl, by intro w' hSw; (try dsimp only at hSw); (obtain ⟨a0, a1, a2⟩ := hSw.a.cells); (obtain ⟨b0, b1, b2, b3⟩ := hSw.b.cells); (dsimp only at b0 b1 b2 b3); go_simp⟩) (by assumption) ?_
      refine wpAnyH_take (i := 12) (v := .pointer (some ⟨w.heap.size, 0, none⟩)) rfl (by kernel_rfl) (by kernel_rfl) (by kernel_rfl) (fun _ _ _ h => h) (Or.inl ⟨by kernel_rfl, by intro w' hSw; (try dsimp only at hSw); (obtain ⟨a0, a1, a2⟩ := hSw.a.cells); (obtain ⟨b0, b1, b2, b3⟩ := hSw.b.cells); (dsimp only at b0 b1 b2 b3); go_simp⟩) (by assumption) ?_
      refine wpAnyH_take (i := 13) (v := .int .i64 W) rfl (by kernel_rfl) (by kernel_rfl) (by kernel_rfl) (fun _ _ _ h => h) (Or.inl ⟨by kernel_rfl, by intro w' hSw; (try dsimp only at hSw); (obtain ⟨a0, a1, a2⟩ := hSw.a.cells); (obtain ⟨b0, b1, b2, b3⟩ := hSw.b.cells); (dsimp only at b0 b1 b2 b3); go_simp⟩) (by assumption) ?_
      refine wpAnyH_take (i := 14) (v := .int .i64 m) rfl (by kernel_rfl) (by kernel_rfl) (by kernel_rfl) (fun _ _ _ h => h) (Or.inl ⟨by kernel_rfl, by intro w' hSw; (try dsimp only at hSw); (obtain ⟨a0, a1, a2⟩ := hSw.a.cells); (obtain ⟨b0, b1, b2, b3⟩ := hSw.b.cells); (dsimp only at b0 b1 b2 b3); go_simp⟩) (by assumption) ?_
      refine wpAnyH_take (i := 15) (v := .pointer (some ⟨w.heap.size + 1, 0, none⟩)) rfl (by kernel_rfl) (by kernel_rfl) (by kernel_rfl) (fun _ _ _ h => h) (Or.inl ⟨by kernel_rfl, by intro w' hSw; (try dsimp only at hSw); (obtain ⟨a0, a1, a2⟩ := hSw.a.cells); (obtain ⟨b0, b1, b2, b3⟩ := hSw.b.cells); (dsimp only at b0 b1 b2 b3); go_simp⟩) (by assumption) ?_
      refine wpAnyH_take (i := 16) (v := .int .i64 X) rfl (by kernel_rfl) (by kernel_rfl) (by kernel_rfl) (fun _ _ _ h => h) (Or.inl ⟨by kernel_rfl, by intro w' hSw; (try dsimp only at hSw); (obtain ⟨a0, a1, a2⟩ := hSw.a.cells); (obtain ⟨b0, b1, b2, b3⟩ := hSw.b.cells); (dsimp only at b0 b1 b2 b3); go_simp⟩) (by assumption) ?_
      refine wpAnyH_take (i := 17) (v := .int .i64 s) rfl (by kernel_rfl) (by kernel_rfl) (by kernel_rfl) (fun _ _ _ h => h) (Or.inl ⟨by kernel_rfl, by intro w' hSw; (try dsimp only at hSw); (obtain ⟨a0, a1, a2⟩ := hSw.a.cells); (obtain ⟨b0, b1, b2, b3⟩ := hSw.b.cells); (dsimp only at b0 b1 b2 b3); go_simp⟩) (by assumption) ?_
      refine wpAnyH_take (i := 18) (v := .pointer (some ⟨w.heap.size + 1, 2, none⟩)) rfl (by kernel_rfl) (by kernel_rfl) (by kernel_rfl) (fun _ _ _ h => h) (Or.inl ⟨by kernel_rfl, by intro w' hSw; (try dsimp only at hSw); (obtain ⟨a0, a1, a2⟩ := hSw.a.cells); (obtain ⟨b0, b1, b2, b3⟩ := hSw.b.cells); (dsimp only at b0 b1 b2 b3); go_simp⟩) (by assumption) ?_
      refine wpAnyH_take (i := 19) (v := .int .i64 n) rfl (by kernel_rfl) (by kernel_rfl) (by kernel_rfl) (fun _ _ _ h => h) (Or.inl ⟨by kernel_rfl, by intro w' hSw; (try dsimp only at hSw); (obtain ⟨a0, a1, a2⟩ := hSw.a.cells); (obtain ⟨b0, b1, b2, b3⟩ := hSw.b.cells); (dsimp only at b0 b1 b2 b3); go_simp⟩) (by assumption) ?_
      refine wpAnyH_take (i := 20) (v := .int .i64 t) rfl (by kernel_rfl) (by kernel_rfl) (by kernel_rfl) (fun _ _ _ h => h) (Or.inl ⟨by kernel_rfl, by intro w' hSw; (try dsimp only at hSw); (obtain ⟨a0, a1, a2⟩ := hSw.a.cells); (obtain ⟨b0, b1, b2, b3⟩ := hSw.b.cells); (dsimp only at b0 b1 b2 b3); go_simp⟩) (by assumption) ?_
      refine wpAnyH_take (i := 21) (v := .slice (some ⟨gu, s, none⟩) (t - s) (cu - s)) rfl (by kernel_rfl) (by kernel_rfl) (by kernel_rfl) (fun _ _ _ h => h) (Or.inl ⟨by kernel_rfl, by intro w' hSw; (try dsimp only at hSw); (obtain ⟨a0, a1, a2⟩ := hSw.a.cells); (obtain ⟨b0, b1, b2, b3⟩ := hSw.b.cells); (dsimp only at b0 b1 b2 b3); go_simp⟩) (by assumption) ?_
      (try simp only [Act.put]); (try simp only [List.setIfInBounds_toArray]); (try simp only [List.set_cons_zero, List.set_cons_succ])
      refine wpAnyH_ready (rs := [1]) (by kernel_rfl) (by simp) ?_
      refine (AllReadyH.cons rfl (fun K hK => ?_) AllReadyH.nil)
      · rw [if_pos (by kernel_rfl)]
        (try simp only [List.getElem_toArray]); (try simp only [List.getElem_cons_succ]); (try simp only [List.getElem_cons_zero])
        go_simp
        skip
        skip
        skip
        skip
        refine hK.out _ _ (hS) (fun hS => ?_)
        clear hK
        (try simp only [Act.put]); (try simp only [List.setIfInBounds_toArray]); (try simp only [List.set_cons_zero, List.set_cons_succ])
        refine wpAnyH_ready (rs := [22]) (by kernel_rfl) (by simp) ?_
        refine (AllReadyH.cons rfl (fun K hK => ?_) AllReadyH.nil)
        · rw [if_pos (by kernel_rfl)]
          (try simp only [List.getElem_toArray]); (try simp only [List.getElem_cons_succ]); (try simp only [List.getElem_cons_zero])
          have hlt := fun g hg => (hown.lt g hg).1
          refine wp_append_atI (.tmp 48) (.tmp 68) rfl (bt + 1) (.slice Av q cv) q (intCells (rowsL W L X Y n (y - Y))) (by first | with_reducible rfl | (go_simp; done) | rfl) hown ⟨gu, s, none⟩ (t - s) (cu - s) (intCells (tabI n (fun i => L.getD (s + i) 0))) (by first | with_reducible rfl | (go_simp; done) | rfl) (by rw [intCells_length, tabI_length]; omega) (span_cells (row := none) hrv (World.grownBy.refl _ _) (by simp) (by omega)) (intCells_one _) (by omega) (by have := him.lt; omega) ?_
          intro v7 w7 hown7 hgr7
          obtain ⟨g7, c7, hv7, _, _⟩ := hown7.form (by omega)
          subst hv7
          replace him := him.grown hgr7 (fun e => by have := hlt _ e.symm; omega)
          replace hd := hd.grown hgr7 (fun e => by have := hlt _ e.symm; omega)
          replace hrv := hrv.grown hgr7 (fun g hg e => by have := hlt _ e.symm; have := hgu2 _ hg; omega)
          skip
          refine hK.out _ _ (hS.own hgr7 (fun k e => by have := hlt _ e; omega)) (fun hS => ?_)
          clear hK
          (try simp only [Act.put]); (try simp only [List.setIfInBounds_toArray]); (try simp only [List.set_cons_zero, List.set_cons_succ])
          refine wpAnyH_take (i := 23) (v := .pointer (some ⟨bt, 2, none⟩)) rfl (by kernel_rfl) (by kernel_rfl) (by kernel_rfl) (fun _ _ _ h => h) (Or.inl ⟨by kernel_rfl, by intro w' hSw; (try dsimp only at hSw); (obtain ⟨a0, a1, a2⟩ := hSw.a.cells); (obtain ⟨b0, b1, b2, b3⟩ := hSw.b.cells); (dsimp only at b0 b1 b2 b3); go_simp⟩) (by assumption) ?_
          (try simp only [Act.put]); (try simp only [List.setIfInBounds_toArray]); (try simp only [List.set_cons_zero, List.set_cons_succ])
          refine wpAnyH_ready (rs := [24]) (by kernel_rfl) (by simp) ?_
          refine (AllReadyH.cons rfl (fun K hK => ?_) AllReadyH.nil)
          · rw [if_pos (by kernel_rfl)]
            (try simp only [List.getElem_toArray]); (try simp only [List.getElem_cons_succ]); (try simp only [List.getElem_cons_zero])
            obtain ⟨m0, m1, m2⟩ := him.cells
            have f2 := him.frozen 2
            go_simp
            skip
            skip
            skip
            skip
            refine hK.out _ _ (hS.own (grown_setI _ bt 2 _) (fun k e => by injection e with e; omega)) (fun hS => ?_)
            clear hK
            (try simp only [Act.put]); (try simp only [List.setIfInBounds_toArray]); (try simp only [List.set_cons_zero, List.set_cons_succ])
            refine wpAnyH_done (by kernel_rfl) ?_ _
            go_wp2_with fail
            go_roundg (Y + h - (y + 1))
            case measure => omega
            case rel =>
              refine ⟨y + 1, q + n, c7, some ⟨g7, 0, none⟩, _, rfl, by omega, by omega, rfl, by go_num, Lib.hid (by rw [show y + 1 - Y = y - Y + 1 by omega, Nat.add_mul, Nat.one_mul, ← Hq.out]), ?_, hS, hd.grown (grown_setI _ bt 2 _) (by simp; omega), hrv.grown (grown_setI _ bt 2 _) (fun g hg e => by injection e with e; have := hgu2 _ hg; omega), him.set2 _, ?_⟩
              · have h6 : (y - Y) * n ≤ 15 * n := Nat.mul_le_mul_right _ (by omega)
                have := Hq.out
                omega
              · have h7 := ownI_far hown7 (p := ⟨bt, 2, none⟩) (fun g hg => by have := (hown7.lt g hg).1; dsimp only; omega) (.slice (some ⟨g7, 0, none⟩) (q + n) c7)
                rw [q3] at h7
                rw [show y + 1 - Y = y - Y + 1 by omega]
                unfold rowsL
                rw [intCells_append, show Y + (y - Y) = y by omega, ← Hm.out, ← Hs.out]
                exact h7
    · obtain rfl : y = Y + h := by omega
      have hyi : ¬ ((Y + h : Nat) : Int) < (Y : Int) + (h : Int) := by omega
      obtain ⟨d0, d1, d2⟩ := hd.cells
      obtain ⟨m0, m1, m2⟩ := him.cells
      have f0 := hd.frozen 0
      have f1 := hd.frozen 1
      have f2 := hd.frozen 2
      go_wp2_with fail
      have j := hd.set3 n h (.slice Av q cv)
      obtain ⟨x0, x1, x2⟩ := j.cells
      refine bodyPost_ret (v := .tuple #[.agg #[.int .i64 n, .int .i64 h, .slice Av q cv], .bool true]) (by simp [results, Try.results50, go_sem, x0, x1, x2]) rfl ?_
      rw [HA.out]
      refine ansCr_set (lo := bt + 1) (b := w.heap.size + 2) (n := q) ?_ ?_ (by omega) (by omega) hS.bw
      · rw [show Y + h - Y = h by omega] at hown
        exact hown
      · rw [rowsL_length, Hq.out, show Y + h - Y = h by omega]
theorem cropS_any (X Y : Int) (v : Value) (L : List Int) (r : Rc) (w : World) (hv : RdI w v L) :
    Calls Try.prog 50 #[.agg #[.int .i64 X, .int .i64 Y, v], .agg #[.int .i64 r.x, .int .i64 r.y, .int .i64 r.w, .int .i64 r.h]] w (AnsCr (cropIm X Y L r) w) := by
  by_cases h1 : imOk X Y L
  · by_cases hr : r.ok
    · by_cases h3 : r.emp
      · exact cropS_bad3 X Y v L r w hv h1 hr h3
      · rcases h2 : covB ⟨0, 0, X, Y⟩ r with _ | _
        · exact cropS_bad4 X Y v L r w hv h1 hr h3 h2
        · obtain ⟨W, H, rfl, rfl, wl, wh, hl, hh, hL⟩ := im_nat h1
          obtain ⟨X, Y, n, h, rfl, k1, k2, k3, k4⟩ := crop_nat h2 h3
          obtain ⟨gu, cu, rfl, hgu, hcu⟩ := rd_block hv (by rw [hL]; exact Nat.mul_pos wl hl)
          exact cropS_ok W H X Y n h wl wh hl hh k1 k2 k3 k4 gu cu L w h1 h2 h3 hL hcu hgu hv
    · exact cropS_bad2 X Y v L r w hv h1 hr
  · exact cropS_bad1 X Y v L r w hv h1
end Go.Proofs.Ytaggldhlnjbnhaa
