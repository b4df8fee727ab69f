/- How an argument that is an image is opened. No statement is proved here. -/
import Derived.Test.YtokniebejilcbaaMAv23
import Derived.Test.YtokniebejilcbaaProg
import Derived.WalkKit
import Derived.ProofKit
import Derived.OpenShut
import Derived.WalkLawsBesides
import Derived.WalkSpells
import Derived.ShutString
import Derived.ChangeOld
import Derived.Below
import Derived.Lib.Hide
import Derived.BigQuiet
import Derived.Deep.QuietTactic
import Derived.Maps.AppendAt
import Derived.Deep.OwnRows
import Derived.Handy
import Derived.Deep.Draws
import Derived.OwnWalk
import Derived.Deep.AppendLies
import Derived.Deep.LoopGhost
import Derived.Deep.Onto
import Derived.Deep.Slices
import Derived.Deep.Fields
import Derived.Lib.SmallJoins
namespace Go.Proofs.Ytokniebejilcbaa
open Go.ChangeShapes Go.WideShapes Go.Deep
variable {H : Type} {enc : TypeId × Value → H} {w : World} {base : Nat} {spare : Nat → Bool} {held : Bool}
set_option maxRecDepth 100000 in
theorem im_open {r : Reach} {b0 : Nat} {v : Value} {d : DataW H} {p : List MemPlace} (hv : Value.okWide Try.prog w r b0 28 v) (h : DataW.Trod enc Try.prog w base (fun _ => true) held 28 v d p) :
  ∃ (X Y : Int) (u : Value) (L : List Int), v = .agg #[.int .i64 X, .int .i64 Y, u] ∧ Rd w u L.length (intCells L) := by
 obtain ⟨cs, rfl, hsz⟩ := okWide_struct Try.underlying28 hv
 have h3 : cs.size = 3 := hsz.trans (by kernel_rfl)
 obtain ⟨c0, c1, c2, rfl⟩ : ∃ c0 c1 c2, cs = #[c0, c1, c2] := by
  obtain ⟨l⟩ := cs
  match l, h3 with
  | [c0, c1, c2], _ => exact ⟨c0, c1, c2, rfl⟩
 obtain ⟨fuel, hf⟩ := h
 obtain ⟨xs, n, _, _, _, hxl, hg⟩ := DataW.trod_struct Try.underlying28 hf
 have hone : Try.prog.cellsOf 3 = 1 := by kernel_rfl
 have htwo : Try.prog.cellsOf 26 = 1 := by kernel_rfl
 have e0 : DataW.trod enc Try.prog w base (fun _ => true) held n 3 (([c0, c1, c2].drop 0).take (Try.prog.cellsOf 3)) = xs[0]? := hg 0 _ rfl
 have e1 : DataW.trod enc Try.prog w base (fun _ => true) held n 3 (([c0, c1, c2].drop 1).take (Try.prog.cellsOf 3)) = xs[1]? := hg 1 _ rfl
 have e2 : DataW.trod enc Try.prog w base (fun _ => true) held n 26 (([c0, c1, c2].drop 2).take (Try.prog.cellsOf 26)) = xs[2]? := hg 2 _ rfl
 rw [hone] at e0 e1
 rw [htwo] at e2
 have x0 : xs[0]? = some (xs[0]'(by rw [hxl]; decide)) := List.getElem?_eq_getElem _
 have x1 : xs[1]? = some (xs[1]'(by rw [hxl]; decide)) := List.getElem?_eq_getElem _
 have x2 : xs[2]? = some (xs[2]'(by rw [hxl]; decide)) := List.getElem?_eq_getElem _
 obtain ⟨X, hX, _⟩ := DataW.trod_int Try.underlying3 (e0.trans x0)
 obtain ⟨Y, hY, _⟩ := DataW.trod_int Try.underlying3 (e1.trans x1)
 have hX2 : c0 = .int .i64 X := (List.cons.inj (show [c0] = [Value.int .i64 X] from hX)).1
 have hY2 : c1 = .int .i64 Y := (List.cons.inj (show [c1] = [Value.int .i64 Y] from hY)).1
 subst hX2
 subst hY2
 have e3 : DataW.trod enc Try.prog w base (fun _ => true) held n 26 [c2] = some (xs[2]'(by rw [hxl]; decide)) := e2.trans x2
 rcases open_ints Try.underlying26 Try.underlying3 (by kernel_rfl) e3 with ⟨hcs, _⟩ | ⟨a, l, c, zs, hcs, _, hl, hm, hz, _, hcell, hwz⟩
 ·obtain rfl : c2 = .slice none 0 0 := (List.cons.inj hcs).1
  exact ⟨X, Y, _, _, rfl, Rd.of_row (zs := []) (.inl ⟨rfl, rfl, rfl, rfl⟩)⟩
 ·obtain rfl : c2 = .slice (some a) l c := (List.cons.inj hcs).1
  exact ⟨X, Y, _, _, rfl, by
   have hr := Rd.of_row (a := some a) (len := l) (cap := c) (zs := zs) (.inr ⟨a, rfl, hl, hm, by simpa using hz, hcell, hwz⟩)
   exact hr⟩
end Go.Proofs.Ytokniebejilcbaa
