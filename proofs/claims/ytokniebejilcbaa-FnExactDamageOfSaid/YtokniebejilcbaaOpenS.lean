/- How arguments that are surfaces, scenes, edits and lists of edits are opened. No statement is proved here. -/
import Derived.Test.YtokniebejilcbaaMAv23
import Derived.Test.YtokniebejilcbaaMAv3
import Derived.Test.YtokniebejilcbaaMAv123
import Derived.Test.YtokniebejilcbaaMBv3
import Derived.Test.YtokniebejilcbaaProg
import Derived.WalkKit
import Derived.ProofKit
import Derived.OpenShut
import Derived.WalkLawsBesides
import Derived.WalkSpells
import Derived.ShutString
import Derived.ChangeOld
import Derived.Below
import Derived.Lib.Hide
import Derived.BigQuiet
import Derived.Deep.QuietTactic
import Derived.Maps.AppendAt
import Derived.Deep.OwnRows
import Derived.Handy
import Derived.Deep.Draws
import Derived.OwnWalk
import Derived.Deep.AppendLies
import Derived.Deep.LoopGhost
import Derived.Deep.Onto
import Derived.Deep.MidRow
import Derived.Deep.WholeRow
import Derived.Laws.BitsAllLaws
import Derived.Lib.QuoteBits
import Derived.Deep.RegionHeld3
import Derived.Deep.DeepCutAuto
import Derived.Test.YtokniebejilcbaaShelf
import Derived.Laws.CopyOwn
import Derived.Deep.RegionLaw
import Derived.Great.BuildSlice
import Derived.Deep.Slices
import Derived.Deep.Fields
import Derived.Lib.SmallJoins
namespace Go.Proofs.Ytokniebejilcbaa
open Go.ChangeShapes Go.WideShapes Go.Deep
set_option maxRecDepth 100000
variable {H : Type} {enc : TypeId × Value → H} {w : World} {base : Nat} {held : Bool}
theorem ints_trod {fuel : Nat} {c : Value} {x : DataW H × List MemPlace} (h : DataW.trod enc Try.prog w base (fun _ => true) held fuel 26 [c] = some x) : ∃ L, Rd w c L.length (intCells L) := by
 rcases open_ints Try.underlying26 Try.underlying3 (by kernel_rfl) h with ⟨hcs, _⟩ | ⟨a, l, c, zs, hcs, _, hl, hm, hz, _, hcell, hwz⟩
 ·obtain rfl := (List.cons.inj hcs).1
  exact ⟨_, Rd.of_row (zs := []) (.inl ⟨rfl, rfl, rfl, rfl⟩)⟩
 ·obtain rfl := (List.cons.inj hcs).1
  exact ⟨_, Rd.of_row (a := some a) (len := l) (cap := c) (zs := zs) (.inr ⟨a, rfl, hl, hm, by simpa using hz, hcell, hwz⟩)⟩
theorem sl_trod {α : Type} {F : Wk α} {tS tE : TypeId} {s : Nat} (hu : Try.prog.underlying tS = some (.slice tE)) (hs : Try.prog.cellsOf tE = s) (hel : ∀ n cs (x : DataW H × List MemPlace), DataW.trod enc Try.prog w base (fun _ => true) held n tE cs = some x → ∃ a, F.R w a cs)
  {fuel : Nat} {v : Value} {x : DataW H × List MemPlace} (h : DataW.trod enc Try.prog w base (fun _ => true) held fuel tS [v] = some x) : ∃ L, (wkSl F s).R w L [v] := by
 rcases open_slice hu h with ⟨hcs, _⟩ | ⟨a, len, cap, m, n, D, Pl, hcs, _, hl, hm, hmm, _, hi⟩
 ·obtain rfl : v = .slice none 0 0 := by simpa using hcs
  exact ⟨[], by simp, none, 0, rfl, fun k b hb => by simp at hb⟩
 ·obtain rfl : v = .slice (some a) len cap := by simpa using hcs
  have hlm : len ≤ m := by rw [hmm]; split <;> omega
  have hE : ∀ i : Fin len, ∃ b, ∃ xs, xs.length = s ∧ F.R w b xs ∧ ∀ j u, xs[j]? = some u → w.cell? (a.add (i.1 * s + j)) = some u := fun ⟨i, hil⟩ => by
   obtain ⟨cs', hc, ht⟩ := hi i (by omega)
   rw [hs] at hc
   obtain ⟨_, hcl, hat⟩ := World.cells?_some hc
   obtain ⟨b, hb⟩ := hel _ _ _ ht
   refine ⟨b, cs', hcl, hb, fun j u hu => ?_⟩
   have hj : j < s := by have := (List.getElem?_eq_some_iff.1 hu).1; omega
   have h1 := hat j (by omega)
   rw [show a.add (i * s + j) = (a.add (i * s)).add j by unfold Addr.add; by_cases e1 : i * s = 0 <;> by_cases e2 : j = 0 <;> simp [e1, e2, Nat.add_assoc] <;> omega]
   rw [← hu]
   exact h1
  refine ⟨List.ofFn fun i => Classical.choose (hE i), by simp; omega, some a, cap, by simp, fun k b hb => ?_⟩
  have hk : k < len := by have := (List.getElem?_eq_some_iff.1 hb).1; simpa using this
  have hf : Classical.choose (hE ⟨k, hk⟩) = b := by simpa [List.getElem?_ofFn, hk] using hb
  obtain ⟨xs, h1, h2, h3⟩ := Classical.choose_spec (hE ⟨k, hk⟩)
  rw [hf] at h2
  exact ⟨a, xs, rfl, h1, h2, h3⟩
theorem sf_trod {fuel : Nat} {cs : List Value} {x : DataW H × List MemPlace} (h : DataW.trod enc Try.prog w base (fun _ => true) held fuel 141 cs = some x) : ∃ f : Sf, wkSf.R w f cs := by
 obtain ⟨xs, n, _, _, hlen, hxl, hg⟩ := DataW.trod_struct Try.underlying141 h
 have hN : cs.length = 11 := hlen.trans (by kernel_rfl)
 obtain ⟨c0, c1, c2, c3, c4, c5, c6, c7, c8, c9, c10, rfl⟩ : ∃ c0 c1 c2 c3 c4 c5 c6 c7 c8 c9 c10, cs = [c0, c1, c2, c3, c4, c5, c6, c7, c8, c9, c10] := by
  match cs, hN with
  | [c0, c1, c2, c3, c4, c5, c6, c7, c8, c9, c10], _ => exact ⟨c0, c1, c2, c3, c4, c5, c6, c7, c8, c9, c10, rfl⟩
 have hc0 : Try.prog.cellsOf 3 = 1 := by kernel_rfl
 have e0 : DataW.trod enc Try.prog w base (fun _ => true) held n 3 (([c0, c1, c2, c3, c4, c5, c6, c7, c8, c9, c10].drop 0).take (Try.prog.cellsOf 3)) = xs[0]? := hg 0 _ rfl
 have x0 : xs[0]? = some (xs[0]'(by rw [hxl]; decide)) := List.getElem?_eq_getElem _
 rw [hc0] at e0
 obtain ⟨z0, hz0, _⟩ := DataW.trod_int Try.underlying3 (e0.trans x0)
 obtain rfl : c0 = .int .i64 z0 := (List.cons.inj (show [c0] = [Value.int .i64 z0] from hz0)).1
 have hc1 : Try.prog.cellsOf 3 = 1 := by kernel_rfl
 have e1 : DataW.trod enc Try.prog w base (fun _ => true) held n 3 (([(.int .i64 z0), c1, c2, c3, c4, c5, c6, c7, c8, c9, c10].drop 1).take (Try.prog.cellsOf 3)) = xs[1]? := hg 1 _ rfl
 have x1 : xs[1]? = some (xs[1]'(by rw [hxl]; decide)) := List.getElem?_eq_getElem _
 rw [hc1] at e1
 obtain ⟨z1, hz1, _⟩ := DataW.trod_int Try.underlying3 (e1.trans x1)
 obtain rfl : c1 = .int .i64 z1 := (List.cons.inj (show [c1] = [Value.int .i64 z1] from hz1)).1
 have hc2 : Try.prog.cellsOf 3 = 1 := by kernel_rfl
 have e2 : DataW.trod enc Try.prog w base (fun _ => true) held n 3 (([(.int .i64 z0), (.int .i64 z1), c2, c3, c4, c5, c6, c7, c8, c9, c10].drop 2).take (Try.prog.cellsOf 3)) = xs[2]? := hg 2 _ rfl
 have x2 : xs[2]? = some (xs[2]'(by rw [hxl]; decide)) := List.getElem?_eq_getElem _
 rw [hc2] at e2
 obtain ⟨z2, hz2, _⟩ := DataW.trod_int Try.underlying3 (e2.trans x2)
 obtain rfl : c2 = .int .i64 z2 := (List.cons.inj (show [c2] = [Value.int .i64 z2] from hz2)).1
 have hc3 : Try.prog.cellsOf 3 = 1 := by kernel_rfl
 have e3 : DataW.trod enc Try.prog w base (fun _ => true) held n 3 (([(.int .i64 z0), (.int .i64 z1), (.int .i64 z2), c3, c4, c5, c6, c7, c8, c9, c10].drop 3).take (Try.prog.cellsOf 3)) = xs[3]? := hg 3 _ rfl
 have x3 : xs[3]? = some (xs[3]'(by rw [hxl]; decide)) := List.getElem?_eq_getElem _
 rw [hc3] at e3
 obtain ⟨z3, hz3, _⟩ := DataW.trod_int Try.underlying3 (e3.trans x3)
 obtain rfl : c3 = .int .i64 z3 := (List.cons.inj (show [c3] = [Value.int .i64 z3] from hz3)).1
 have hc4 : Try.prog.cellsOf 3 = 1 := by kernel_rfl
 have e4 : DataW.trod enc Try.prog w base (fun _ => true) held n 3 (([(.int .i64 z0), (.int .i64 z1), (.int .i64 z2), (.int .i64 z3), c4, c5, c6, c7, c8, c9, c10].drop 4).take (Try.prog.cellsOf 3)) = xs[4]? := hg 4 _ rfl
 have x4 : xs[4]? = some (xs[4]'(by rw [hxl]; decide)) := List.getElem?_eq_getElem _
 rw [hc4] at e4
 obtain ⟨z4, hz4, _⟩ := DataW.trod_int Try.underlying3 (e4.trans x4)
 obtain rfl : c4 = .int .i64 z4 := (List.cons.inj (show [c4] = [Value.int .i64 z4] from hz4)).1
 have hc5 : Try.prog.cellsOf 3 = 1 := by kernel_rfl
 have e5 : DataW.trod enc Try.prog w base (fun _ => true) held n 3 (([(.int .i64 z0), (.int .i64 z1), (.int .i64 z2), (.int .i64 z3), (.int .i64 z4), c5, c6, c7, c8, c9, c10].drop 5).take (Try.prog.cellsOf 3)) = xs[5]? := hg 5 _ rfl
 have x5 : xs[5]? = some (xs[5]'(by rw [hxl]; decide)) := List.getElem?_eq_getElem _
 rw [hc5] at e5
 obtain ⟨z5, hz5, _⟩ := DataW.trod_int Try.underlying3 (e5.trans x5)
 obtain rfl : c5 = .int .i64 z5 := (List.cons.inj (show [c5] = [Value.int .i64 z5] from hz5)).1
 have hc6 : Try.prog.cellsOf 3 = 1 := by kernel_rfl
 have e6 : DataW.trod enc Try.prog w base (fun _ => true) held n 3 (([(.int .i64 z0), (.int .i64 z1), (.int .i64 z2), (.int .i64 z3), (.int .i64 z4), (.int .i64 z5), c6, c7, c8, c9, c10].drop 6).take (Try.prog.cellsOf 3)) = xs[6]? := hg 6 _ rfl
 have x6 : xs[6]? = some (xs[6]'(by rw [hxl]; decide)) := List.getElem?_eq_getElem _
 rw [hc6] at e6
 obtain ⟨z6, hz6, _⟩ := DataW.trod_int Try.underlying3 (e6.trans x6)
 obtain rfl : c6 = .int .i64 z6 := (List.cons.inj (show [c6] = [Value.int .i64 z6] from hz6)).1
 have hc7 : Try.prog.cellsOf 4 = 1 := by kernel_rfl
 have e7 : DataW.trod enc Try.prog w base (fun _ => true) held n 4 (([(.int .i64 z0), (.int .i64 z1), (.int .i64 z2), (.int .i64 z3), (.int .i64 z4), (.int .i64 z5), (.int .i64 z6), c7, c8, c9, c10].drop 7).take (Try.prog.cellsOf 4)) = xs[7]? := hg 7 _ rfl
 have x7 : xs[7]? = some (xs[7]'(by rw [hxl]; decide)) := List.getElem?_eq_getElem _
 rw [hc7] at e7
 obtain ⟨z7, hz7, _⟩ := DataW.trod_bool Try.underlying4 (e7.trans x7)
 obtain rfl : c7 = .bool z7 := (List.cons.inj (show [c7] = [Value.bool z7] from hz7)).1
 have hcI : Try.prog.cellsOf 28 = 3 := by kernel_rfl
 have eI : DataW.trod enc Try.prog w base (fun _ => true) held n 28 (([(.int .i64 z0), (.int .i64 z1), (.int .i64 z2), (.int .i64 z3), (.int .i64 z4), (.int .i64 z5), (.int .i64 z6), (.bool z7), c8, c9, c10].drop 8).take (Try.prog.cellsOf 28)) = xs[8]? := hg 8 _ rfl
 have xI : xs[8]? = some (xs[8]'(by rw [hxl]; decide)) := List.getElem?_eq_getElem _
 rw [hcI] at eI
 obtain ⟨ys, n', _, _, _, hyl, hk⟩ := DataW.trod_struct Try.underlying28 (eI.trans xI)
 have hk : ∀ (i : Nat) (f : Field), _ → _ := hk
 have hcJ0 : Try.prog.cellsOf 3 = 1 := by kernel_rfl
 have eI0 : DataW.trod enc Try.prog w base (fun _ => true) held n' 3 (([c8, c9, c10].drop 0).take (Try.prog.cellsOf 3)) = ys[0]? := hk 0 _ rfl
 have xI0 : ys[0]? = some (ys[0]'(by rw [hyl]; decide)) := List.getElem?_eq_getElem _
 rw [hcJ0] at eI0
 obtain ⟨y0, hy0, _⟩ := DataW.trod_int Try.underlying3 (eI0.trans xI0)
 obtain rfl : c8 = .int .i64 y0 := (List.cons.inj (show [c8] = [Value.int .i64 y0] from hy0)).1
 have hcJ1 : Try.prog.cellsOf 3 = 1 := by kernel_rfl
 have eI1 : DataW.trod enc Try.prog w base (fun _ => true) held n' 3 (([(.int .i64 y0), c9, c10].drop 1).take (Try.prog.cellsOf 3)) = ys[1]? := hk 1 _ rfl
 have xI1 : ys[1]? = some (ys[1]'(by rw [hyl]; decide)) := List.getElem?_eq_getElem _
 rw [hcJ1] at eI1
 obtain ⟨y1, hy1, _⟩ := DataW.trod_int Try.underlying3 (eI1.trans xI1)
 obtain rfl : c9 = .int .i64 y1 := (List.cons.inj (show [c9] = [Value.int .i64 y1] from hy1)).1
 have hcJ2 : Try.prog.cellsOf 26 = 1 := by kernel_rfl
 have eI2 : DataW.trod enc Try.prog w base (fun _ => true) held n' 26 (([(.int .i64 y0), (.int .i64 y1), c10].drop 2).take (Try.prog.cellsOf 26)) = ys[2]? := hk 2 _ rfl
 have xI2 : ys[2]? = some (ys[2]'(by rw [hyl]; decide)) := List.getElem?_eq_getElem _
 rw [hcJ2] at eI2
 obtain ⟨L, hL⟩ := ints_trod (show DataW.trod enc Try.prog w base (fun _ => true) held n' 26 [c10] = _ from eI2.trans xI2)
 exact ⟨⟨z0, z1, z2, z3, z4, z5, z6, z7, y0, y1, L⟩, _, rfl, hL⟩
theorem sf_open {r : Reach} {b0 : Nat} {v : Value} {d : DataW H} {p : List MemPlace} (hv : Value.okWide Try.prog w r b0 141 v) (h : DataW.Trod enc Try.prog w base (fun _ => true) held 141 v d p) : ∃ (f : Sf) (u : Value), v = .agg #[.int .i64 f.id, .int .i64 f.x, .int .i64 f.y, .int .i64 f.w, .int .i64 f.h, .int .i64 f.alpha, .int .i64 f.orient, .bool f.vis, .int .i64 f.bw, .int .i64 f.bh, u] ∧ wkSf.R w f [.int .i64 f.id, .int .i64 f.x, .int .i64 f.y, .int .i64 f.w, .int .i64 f.h, .int .i64 f.alpha, .int .i64 f.orient, .bool f.vis, .int .i64 f.bw, .int .i64 f.bh, u] := by
 obtain ⟨cs, rfl, hsz⟩ := okWide_struct Try.underlying141 hv
 obtain ⟨fuel, hf⟩ := h
 obtain ⟨f, hR⟩ := sf_trod (show DataW.trod enc Try.prog w base (fun _ => true) held fuel 141 cs.toList = _ from hf)
 have hR2 := hR
 obtain ⟨u, hu, _⟩ := hR2
 obtain ⟨l⟩ := cs
 obtain rfl : l = sfCells f u := hu
 exact ⟨f, u, rfl, hR⟩
theorem ed_trod {fuel : Nat} {cs : List Value} {x : DataW H × List MemPlace} (h : DataW.trod enc Try.prog w base (fun _ => true) held fuel 51 cs = some x) : ∃ f : Ed, wkEd.R w f cs := by
 obtain ⟨xs, n, _, _, hlen, hxl, hg⟩ := DataW.trod_struct Try.underlying51 h
 have hN : cs.length = 7 := hlen.trans (by kernel_rfl)
 obtain ⟨c0, c1, c2, c3, c4, c5, c6, rfl⟩ : ∃ c0 c1 c2 c3 c4 c5 c6, cs = [c0, c1, c2, c3, c4, c5, c6] := by
  match cs, hN with
  | [c0, c1, c2, c3, c4, c5, c6], _ => exact ⟨c0, c1, c2, c3, c4, c5, c6, rfl⟩
 have hc0 : Try.prog.cellsOf 3 = 1 := by kernel_rfl
 have e0 : DataW.trod enc Try.prog w base (fun _ => true) held n 3 (([c0, c1, c2, c3, c4, c5, c6].drop 0).take (Try.prog.cellsOf 3)) = xs[0]? := hg 0 _ rfl
 have x0 : xs[0]? = some (xs[0]'(by rw [hxl]; decide)) := List.getElem?_eq_getElem _
 rw [hc0] at e0
 obtain ⟨z0, hz0, _⟩ := DataW.trod_int Try.underlying3 (e0.trans x0)
 obtain rfl : c0 = .int .i64 z0 := (List.cons.inj (show [c0] = [Value.int .i64 z0] from hz0)).1
 have hc1 : Try.prog.cellsOf 3 = 1 := by kernel_rfl
 have e1 : DataW.trod enc Try.prog w base (fun _ => true) held n 3 (([(.int .i64 z0), c1, c2, c3, c4, c5, c6].drop 1).take (Try.prog.cellsOf 3)) = xs[1]? := hg 1 _ rfl
 have x1 : xs[1]? = some (xs[1]'(by rw [hxl]; decide)) := List.getElem?_eq_getElem _
 rw [hc1] at e1
 obtain ⟨z1, hz1, _⟩ := DataW.trod_int Try.underlying3 (e1.trans x1)
 obtain rfl : c1 = .int .i64 z1 := (List.cons.inj (show [c1] = [Value.int .i64 z1] from hz1)).1
 have hc2 : Try.prog.cellsOf 3 = 1 := by kernel_rfl
 have e2 : DataW.trod enc Try.prog w base (fun _ => true) held n 3 (([(.int .i64 z0), (.int .i64 z1), c2, c3, c4, c5, c6].drop 2).take (Try.prog.cellsOf 3)) = xs[2]? := hg 2 _ rfl
 have x2 : xs[2]? = some (xs[2]'(by rw [hxl]; decide)) := List.getElem?_eq_getElem _
 rw [hc2] at e2
 obtain ⟨z2, hz2, _⟩ := DataW.trod_int Try.underlying3 (e2.trans x2)
 obtain rfl : c2 = .int .i64 z2 := (List.cons.inj (show [c2] = [Value.int .i64 z2] from hz2)).1
 have hc3 : Try.prog.cellsOf 3 = 1 := by kernel_rfl
 have e3 : DataW.trod enc Try.prog w base (fun _ => true) held n 3 (([(.int .i64 z0), (.int .i64 z1), (.int .i64 z2), c3, c4, c5, c6].drop 3).take (Try.prog.cellsOf 3)) = xs[3]? := hg 3 _ rfl
 have x3 : xs[3]? = some (xs[3]'(by rw [hxl]; decide)) := List.getElem?_eq_getElem _
 rw [hc3] at e3
 obtain ⟨z3, hz3, _⟩ := DataW.trod_int Try.underlying3 (e3.trans x3)
 obtain rfl : c3 = .int .i64 z3 := (List.cons.inj (show [c3] = [Value.int .i64 z3] from hz3)).1
 have hcI : Try.prog.cellsOf 28 = 3 := by kernel_rfl
 have eI : DataW.trod enc Try.prog w base (fun _ => true) held n 28 (([(.int .i64 z0), (.int .i64 z1), (.int .i64 z2), (.int .i64 z3), c4, c5, c6].drop 4).take (Try.prog.cellsOf 28)) = xs[4]? := hg 4 _ rfl
 have xI : xs[4]? = some (xs[4]'(by rw [hxl]; decide)) := List.getElem?_eq_getElem _
 rw [hcI] at eI
 obtain ⟨ys, n', _, _, _, hyl, hk⟩ := DataW.trod_struct Try.underlying28 (eI.trans xI)
 have hk : ∀ (i : Nat) (f : Field), _ → _ := hk
 have hcJ0 : Try.prog.cellsOf 3 = 1 := by kernel_rfl
 have eI0 : DataW.trod enc Try.prog w base (fun _ => true) held n' 3 (([c4, c5, c6].drop 0).take (Try.prog.cellsOf 3)) = ys[0]? := hk 0 _ rfl
 have xI0 : ys[0]? = some (ys[0]'(by rw [hyl]; decide)) := List.getElem?_eq_getElem _
 rw [hcJ0] at eI0
 obtain ⟨y0, hy0, _⟩ := DataW.trod_int Try.underlying3 (eI0.trans xI0)
 obtain rfl : c4 = .int .i64 y0 := (List.cons.inj (show [c4] = [Value.int .i64 y0] from hy0)).1
 have hcJ1 : Try.prog.cellsOf 3 = 1 := by kernel_rfl
 have eI1 : DataW.trod enc Try.prog w base (fun _ => true) held n' 3 (([(.int .i64 y0), c5, c6].drop 1).take (Try.prog.cellsOf 3)) = ys[1]? := hk 1 _ rfl
 have xI1 : ys[1]? = some (ys[1]'(by rw [hyl]; decide)) := List.getElem?_eq_getElem _
 rw [hcJ1] at eI1
 obtain ⟨y1, hy1, _⟩ := DataW.trod_int Try.underlying3 (eI1.trans xI1)
 obtain rfl : c5 = .int .i64 y1 := (List.cons.inj (show [c5] = [Value.int .i64 y1] from hy1)).1
 have hcJ2 : Try.prog.cellsOf 26 = 1 := by kernel_rfl
 have eI2 : DataW.trod enc Try.prog w base (fun _ => true) held n' 26 (([(.int .i64 y0), (.int .i64 y1), c6].drop 2).take (Try.prog.cellsOf 26)) = ys[2]? := hk 2 _ rfl
 have xI2 : ys[2]? = some (ys[2]'(by rw [hyl]; decide)) := List.getElem?_eq_getElem _
 rw [hcJ2] at eI2
 obtain ⟨L, hL⟩ := ints_trod (show DataW.trod enc Try.prog w base (fun _ => true) held n' 26 [c6] = _ from eI2.trans xI2)
 exact ⟨⟨z0, z1, z2, z3, y0, y1, L⟩, _, rfl, hL⟩
theorem ed_open {r : Reach} {b0 : Nat} {v : Value} {d : DataW H} {p : List MemPlace} (hv : Value.okWide Try.prog w r b0 51 v) (h : DataW.Trod enc Try.prog w base (fun _ => true) held 51 v d p) : ∃ (f : Ed) (u : Value), v = .agg #[.int .i64 f.kind, .int .i64 f.id, .int .i64 f.a, .int .i64 f.b, .int .i64 f.bw, .int .i64 f.bh, u] ∧ wkEd.R w f [.int .i64 f.kind, .int .i64 f.id, .int .i64 f.a, .int .i64 f.b, .int .i64 f.bw, .int .i64 f.bh, u] := by
 obtain ⟨cs, rfl, hsz⟩ := okWide_struct Try.underlying51 hv
 obtain ⟨fuel, hf⟩ := h
 obtain ⟨f, hR⟩ := ed_trod (show DataW.trod enc Try.prog w base (fun _ => true) held fuel 51 cs.toList = _ from hf)
 have hR2 := hR
 obtain ⟨u, hu, _⟩ := hR2
 obtain ⟨l⟩ := cs
 obtain rfl : l = edCells f u := hu
 exact ⟨f, u, rfl, hR⟩
theorem sn_trod {fuel : Nat} {cs : List Value} {x : DataW H × List MemPlace} (h : DataW.trod enc Try.prog w base (fun _ => true) held fuel 49 cs = some x) : ∃ f : Sn, wkSn.R w f cs := by
 obtain ⟨xs, n, _, _, hlen, hxl, hg⟩ := DataW.trod_struct Try.underlying49 h
 have hN : cs.length = 4 := hlen.trans (by kernel_rfl)
 obtain ⟨c0, c1, c2, c3, rfl⟩ : ∃ c0 c1 c2 c3, cs = [c0, c1, c2, c3] := by
  match cs, hN with
  | [c0, c1, c2, c3], _ => exact ⟨c0, c1, c2, c3, rfl⟩
 have hc0 : Try.prog.cellsOf 3 = 1 := by kernel_rfl
 have e0 : DataW.trod enc Try.prog w base (fun _ => true) held n 3 (([c0, c1, c2, c3].drop 0).take (Try.prog.cellsOf 3)) = xs[0]? := hg 0 _ rfl
 have x0 : xs[0]? = some (xs[0]'(by rw [hxl]; decide)) := List.getElem?_eq_getElem _
 rw [hc0] at e0
 obtain ⟨z0, hz0, _⟩ := DataW.trod_int Try.underlying3 (e0.trans x0)
 obtain rfl : c0 = .int .i64 z0 := (List.cons.inj (show [c0] = [Value.int .i64 z0] from hz0)).1
 have hc1 : Try.prog.cellsOf 3 = 1 := by kernel_rfl
 have e1 : DataW.trod enc Try.prog w base (fun _ => true) held n 3 (([(.int .i64 z0), c1, c2, c3].drop 1).take (Try.prog.cellsOf 3)) = xs[1]? := hg 1 _ rfl
 have x1 : xs[1]? = some (xs[1]'(by rw [hxl]; decide)) := List.getElem?_eq_getElem _
 rw [hc1] at e1
 obtain ⟨z1, hz1, _⟩ := DataW.trod_int Try.underlying3 (e1.trans x1)
 obtain rfl : c1 = .int .i64 z1 := (List.cons.inj (show [c1] = [Value.int .i64 z1] from hz1)).1
 have hc2 : Try.prog.cellsOf 3 = 1 := by kernel_rfl
 have e2 : DataW.trod enc Try.prog w base (fun _ => true) held n 3 (([(.int .i64 z0), (.int .i64 z1), c2, c3].drop 2).take (Try.prog.cellsOf 3)) = xs[2]? := hg 2 _ rfl
 have x2 : xs[2]? = some (xs[2]'(by rw [hxl]; decide)) := List.getElem?_eq_getElem _
 rw [hc2] at e2
 obtain ⟨z2, hz2, _⟩ := DataW.trod_int Try.underlying3 (e2.trans x2)
 obtain rfl : c2 = .int .i64 z2 := (List.cons.inj (show [c2] = [Value.int .i64 z2] from hz2)).1
 have hcI : Try.prog.cellsOf 47 = 1 := by kernel_rfl
 have eI : DataW.trod enc Try.prog w base (fun _ => true) held n 47 (([(.int .i64 z0), (.int .i64 z1), (.int .i64 z2), c3].drop 3).take (Try.prog.cellsOf 47)) = xs[3]? := hg 3 _ rfl
 have xI : xs[3]? = some (xs[3]'(by rw [hxl]; decide)) := List.getElem?_eq_getElem _
 rw [hcI] at eI
 obtain ⟨L, hL⟩ := sl_trod (F := wkSf) (tE := 141) (s := 11) Try.underlying47 (by kernel_rfl) (fun _ _ _ h => sf_trod h) (show DataW.trod enc Try.prog w base (fun _ => true) held n 47 [c3] = _ from eI.trans xI)
 exact ⟨⟨z0, z1, z2, L⟩, _, rfl, hL⟩
theorem sn_open {r : Reach} {b0 : Nat} {v : Value} {d : DataW H} {p : List MemPlace} (hv : Value.okWide Try.prog w r b0 49 v) (h : DataW.Trod enc Try.prog w base (fun _ => true) held 49 v d p) : ∃ (f : Sn) (u : Value), v = .agg #[.int .i64 f.w, .int .i64 f.h, .int .i64 f.back, u] ∧ wkSn.R w f [.int .i64 f.w, .int .i64 f.h, .int .i64 f.back, u] := by
 obtain ⟨cs, rfl, hsz⟩ := okWide_struct Try.underlying49 hv
 obtain ⟨fuel, hf⟩ := h
 obtain ⟨f, hR⟩ := sn_trod (show DataW.trod enc Try.prog w base (fun _ => true) held fuel 49 cs.toList = _ from hf)
 have hR2 := hR
 obtain ⟨u, hu, _⟩ := hR2
 obtain ⟨l⟩ := cs
 obtain rfl : l = snCells f u := hu
 exact ⟨f, u, rfl, hR⟩
theorem es_open {r : Reach} {b0 : Nat} {v : Value} {d : DataW H} {p : List MemPlace} (hv : Value.okWide Try.prog w r b0 68 v) (h : DataW.Trod enc Try.prog w base (fun _ => true) held 68 v d p) : ∃ (f : List Ed) (u : Value), v = u ∧ wkEds.R w f [u] := by
 obtain ⟨a, l, c, rfl⟩ := okWide_slice Try.underlying68 hv
 obtain ⟨fuel, hf⟩ := h
 obtain ⟨L, hL⟩ := sl_trod (F := wkEd) (tE := 51) (s := 7) Try.underlying68 (by kernel_rfl) (fun _ _ _ h => ed_trod h) (show DataW.trod enc Try.prog w base (fun _ => true) held fuel 68 [.slice a l c] = _ from hf)
 exact ⟨L, _, rfl, hL⟩
end Go.Proofs.Ytokniebejilcbaa
