/- How arguments that are chains are opened. No statement is proved here. -/
import Derived.Test.YtnndifemkichmaaGreatMA
import Derived.Test.YtnndifemkichmaaGreatMB
import Derived.Test.YtnndifemkichmaaGreatB1sav1
import Derived.Test.YtnndifemkichmaaGreatOpenS
import Derived.Test.YtnndifemkichmaaGreatOpenR
import Derived.Test.YtnndifemkichmaaGreatProg
import Derived.WalkKit
import Derived.ProofKit
import Derived.OpenShut
import Derived.WalkLawsBesides
import Derived.WalkSpells
import Derived.ShutString
import Derived.ChangeOld
import Derived.Below
import Derived.Lib.Hide
import Derived.BigQuiet
import Derived.Deep.QuietTactic
import Derived.Maps.AppendAt
import Derived.Deep.OwnRows
import Derived.Handy
import Derived.Deep.Draws
import Derived.OwnWalk
import Derived.Deep.AppendLies
import Derived.Deep.LoopGhost
import Derived.Deep.Onto
import Derived.Deep.MidRow
import Derived.Deep.WholeRow
import Derived.Laws.BitsAllLaws
import Derived.Lib.QuoteBits
import Derived.Deep.RegionHeld3
import Derived.Deep.DeepCutAuto
import Derived.Test.YtnndifemkichmaaGreatShelf
import Derived.Laws.CopyOwn
import Derived.Deep.RegionLaw
import Derived.Great.BuildSlice
import Derived.Deep.Slices
import Derived.Deep.Fields
import Derived.Lib.SmallJoins
import Derived.Laws.AppendOwn
namespace Go.Proofs.YtnndifemkichmaaGreat
open Go.ChangeShapes Go.WideShapes Go.Deep
set_option maxRecDepth 100000
variable {H : Type} {enc : TypeId × Value → H} {w : World} {base : Nat} {held : Bool}
theorem imk_trod {fuel : Nat} {cs : List Value} {x : DataW H × List MemPlace} (h : DataW.trod enc Tryz.prog w base (fun _ => true) held fuel 142 cs = some x) : ∃ f : Im, wkIm.R w f cs := by
 obtain ⟨xs, n, _, _, hlen, hxl, hg⟩ := DataW.trod_struct Tryz.underlying142 h
 have hN : cs.length = 3 := hlen.trans (by kernel_rfl)
 obtain ⟨c0, c1, c2, rfl⟩ : ∃ c0 c1 c2, cs = [c0, c1, c2] := by
  match cs, hN with
  | [c0, c1, c2], _ => exact ⟨c0, c1, c2, rfl⟩
 have hone : Tryz.prog.cellsOf 3 = 1 := by kernel_rfl
 have htwo : Tryz.prog.cellsOf 31 = 1 := by kernel_rfl
 have e0 : DataW.trod enc Tryz.prog w base (fun _ => true) held n 3 (([c0, c1, c2].drop 0).take (Tryz.prog.cellsOf 3)) = xs[0]? := hg 0 _ rfl
 have e1 : DataW.trod enc Tryz.prog w base (fun _ => true) held n 3 (([c0, c1, c2].drop 1).take (Tryz.prog.cellsOf 3)) = xs[1]? := hg 1 _ rfl
 have e2 : DataW.trod enc Tryz.prog w base (fun _ => true) held n 31 (([c0, c1, c2].drop 2).take (Tryz.prog.cellsOf 31)) = xs[2]? := hg 2 _ rfl
 rw [hone] at e0 e1
 rw [htwo] at e2
 have x0 : xs[0]? = some (xs[0]'(by rw [hxl]; decide)) := List.getElem?_eq_getElem _
 have x1 : xs[1]? = some (xs[1]'(by rw [hxl]; decide)) := List.getElem?_eq_getElem _
 have x2 : xs[2]? = some (xs[2]'(by rw [hxl]; decide)) := List.getElem?_eq_getElem _
 obtain ⟨X, hX, _⟩ := DataW.trod_int Tryz.underlying3 (e0.trans x0)
 obtain ⟨Y, hY, _⟩ := DataW.trod_int Tryz.underlying3 (e1.trans x1)
 have hX2 : c0 = .int .i64 X := (List.cons.inj (show [c0] = [Value.int .i64 X] from hX)).1
 have hY2 : c1 = .int .i64 Y := (List.cons.inj (show [c1] = [Value.int .i64 Y] from hY)).1
 subst hX2
 subst hY2
 obtain ⟨L, hL⟩ := ints_trod (show DataW.trod enc Tryz.prog w base (fun _ => true) held n 31 [c2] = _ from e2.trans x2)
 exact ⟨⟨X, Y, L⟩, _, rfl, hL⟩
theorem rgk_trod {fuel : Nat} {cs : List Value} {x : DataW H × List MemPlace} (h : DataW.trod enc Tryz.prog w base (fun _ => true) held fuel 186 cs = some x) : ∃ L : List Rc, wkRg.R w L cs := by
 obtain ⟨xs, n, _, _, hlen, hxl, hg⟩ := DataW.trod_struct Tryz.underlying186 h
 have hN : cs.length = 1 := hlen.trans (by kernel_rfl)
 obtain ⟨u, rfl⟩ : ∃ u, cs = [u] := by
  match cs, hN with
  | [u], _ => exact ⟨u, rfl⟩
 have e0 : DataW.trod enc Tryz.prog w base (fun _ => true) held n 184 (([u].drop 0).take (Tryz.prog.cellsOf 184)) = xs[0]? := hg 0 _ rfl
 have hone : Tryz.prog.cellsOf 184 = 1 := by kernel_rfl
 rw [hone] at e0
 have hx : xs[0]? = some (xs[0]'(by rw [hxl]; decide)) := List.getElem?_eq_getElem _
 have e1 := e0.trans hx
 have hu : ∃ A n c, u = .slice A n c := by
  rcases open_slice Tryz.underlying184 e1 with ⟨hcs, _⟩ | ⟨a, len, cap, m, n, D, Pl, hcs, _⟩
  ·exact ⟨none, 0, 0, by simpa [Value.cells] using hcs⟩
  ·exact ⟨some a, len, cap, by simpa [Value.cells] using hcs⟩
 obtain ⟨A, n', c, rfl⟩ := hu
 obtain ⟨L, hL⟩ := ld_of_trod (v := .slice A n' c) (by simpa [Value.cells] using e1)
 exact ⟨L, _, rfl, hL⟩
theorem cn_trod {fuel : Nat} {cs : List Value} {x : DataW H × List MemPlace} (h : DataW.trod enc Tryz.prog w base (fun _ => true) held fuel 50 cs = some x) : ∃ f : Ch, wkCh.R w f cs := by
 obtain ⟨xs, n, _, _, hlen, hxl, hg⟩ := DataW.trod_struct Tryz.underlying50 h
 have hN : cs.length = 7 := hlen.trans (by kernel_rfl)
 obtain ⟨c0, c1, c2, c3, c4, c5, c6, rfl⟩ : ∃ c0 c1 c2 c3 c4 c5 c6, cs = [c0, c1, c2, c3, c4, c5, c6] := by
  match cs, hN with
  | [c0, c1, c2, c3, c4, c5, c6], _ => exact ⟨c0, c1, c2, c3, c4, c5, c6, rfl⟩
 have n0 : Tryz.prog.cellsOf 44 = 1 := by kernel_rfl
 have n1 : Tryz.prog.cellsOf 31 = 1 := by kernel_rfl
 have n2 : Tryz.prog.cellsOf 45 = 1 := by kernel_rfl
 have n3 : Tryz.prog.cellsOf 48 = 4 := by kernel_rfl
 have e0 : DataW.trod enc Tryz.prog w base (fun _ => true) held n 44 (([c0, c1, c2, c3, c4, c5, c6].drop 0).take (Tryz.prog.cellsOf 44)) = xs[0]? := hg 0 _ rfl
 have e1 : DataW.trod enc Tryz.prog w base (fun _ => true) held n 31 (([c0, c1, c2, c3, c4, c5, c6].drop 1).take (Tryz.prog.cellsOf 31)) = xs[1]? := hg 1 _ rfl
 have e2 : DataW.trod enc Tryz.prog w base (fun _ => true) held n 45 (([c0, c1, c2, c3, c4, c5, c6].drop 2).take (Tryz.prog.cellsOf 45)) = xs[2]? := hg 2 _ rfl
 have e3 : DataW.trod enc Tryz.prog w base (fun _ => true) held n 48 (([c0, c1, c2, c3, c4, c5, c6].drop 3).take (Tryz.prog.cellsOf 48)) = xs[3]? := hg 3 _ rfl
 rw [n0] at e0
 rw [n1] at e1
 rw [n2] at e2
 rw [n3] at e3
 have x0 : xs[0]? = some (xs[0]'(by rw [hxl]; decide)) := List.getElem?_eq_getElem _
 have x1 : xs[1]? = some (xs[1]'(by rw [hxl]; decide)) := List.getElem?_eq_getElem _
 have x2 : xs[2]? = some (xs[2]'(by rw [hxl]; decide)) := List.getElem?_eq_getElem _
 have x3 : xs[3]? = some (xs[3]'(by rw [hxl]; decide)) := List.getElem?_eq_getElem _
 obtain ⟨L0, h0⟩ := sl_trod (F := wkIm) (tE := 142) (s := 3) Tryz.underlying44 (by kernel_rfl) (fun _ _ _ h => imk_trod h) (show DataW.trod enc Tryz.prog w base (fun _ => true) held n 44 [c0] = _ from e0.trans x0)
 obtain ⟨L1, h1⟩ := ints_trod (show DataW.trod enc Tryz.prog w base (fun _ => true) held n 31 [c1] = _ from e1.trans x1)
 obtain ⟨L2, h2⟩ := sl_trod (F := wkRg) (tE := 186) (s := 1) Tryz.underlying45 (by kernel_rfl) (fun _ _ _ h => rgk_trod h) (show DataW.trod enc Tryz.prog w base (fun _ => true) held n 45 [c2] = _ from e2.trans x2)
 obtain ⟨s, h3⟩ := sn_trod (show DataW.trod enc Tryz.prog w base (fun _ => true) held n 48 [c3, c4, c5, c6] = _ from e3.trans x3)
 obtain ⟨d, hd, h4⟩ := h3
 obtain ⟨rfl, rfl, rfl, rfl⟩ : c3 = .int .i64 s.w ∧ c4 = .int .i64 s.h ∧ c5 = .int .i64 s.back ∧ c6 = d := by simpa [snCells] using hd
 exact ⟨⟨L0, L1, L2, s⟩, _, _, _, _, rfl, h0, ⟨_, rfl, h1⟩, h2, h4⟩
theorem cn_open {r : Reach} {b0 : Nat} {v : Value} {d : DataW H} {p : List MemPlace} (hv : Value.okWide Tryz.prog w r b0 50 v) (h : DataW.Trod enc Tryz.prog w base (fun _ => true) held 50 v d p) : ∃ (f : Ch) (u0 u1 u2 u3 : Value), v = .agg #[u0, u1, u2, .int .i64 f.s.w, .int .i64 f.s.h, .int .i64 f.s.back, u3] ∧ wkCh.R w f [u0, u1, u2, .int .i64 f.s.w, .int .i64 f.s.h, .int .i64 f.s.back, u3] := by
 obtain ⟨cs, rfl, hsz⟩ := okWide_struct Tryz.underlying50 hv
 obtain ⟨fuel, hf⟩ := h
 obtain ⟨f, hR⟩ := cn_trod (show DataW.trod enc Tryz.prog w base (fun _ => true) held fuel 50 cs.toList = _ from hf)
 have hR2 := hR
 obtain ⟨a, b, e, u, hu, _⟩ := hR2
 obtain ⟨l⟩ := cs
 obtain rfl : l = chCells f a b e u := hu
 exact ⟨f, a, b, e, u, rfl, hR⟩
end Go.Proofs.YtnndifemkichmaaGreat
