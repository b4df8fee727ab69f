/- How an argument that is a color map is opened. No statement is proved here. -/
import Derived.Test.YtnndifemkichmaaGreatMA
import Derived.Test.YtnndifemkichmaaGreatProg
import Derived.WalkKit
import Derived.ProofKit
import Derived.OpenShut
import Derived.WalkLawsBesides
import Derived.WalkSpells
import Derived.ShutString
import Derived.ChangeOld
import Derived.Below
import Derived.Lib.Hide
import Derived.BigQuiet
import Derived.Deep.QuietTactic
import Derived.Maps.AppendAt
import Derived.Deep.OwnRows
import Derived.Handy
import Derived.Deep.Draws
import Derived.OwnWalk
import Derived.Deep.AppendLies
import Derived.Deep.LoopGhost
import Derived.Deep.Onto
import Derived.Deep.Slices
import Derived.Deep.Fields
import Derived.Lib.SmallJoins
namespace Go.Proofs.YtnndifemkichmaaGreat
open Go.ChangeShapes Go.WideShapes Go.Deep
variable {H : Type} {enc : TypeId × Value → H} {w : World} {base : Nat} {spare : Nat → Bool} {held : Bool}
theorem ints_rd {n : Nat} {c2 : Value} {d : DataW H × List MemPlace} (e3 : DataW.trod enc Tryz.prog w base (fun _ => true) held n 31 [c2] = some d) : ∃ L : List Int, Rd w c2 L.length (intCells L) := by
 rcases open_ints Tryz.underlying31 Tryz.underlying3 (by kernel_rfl) e3 with ⟨hcs, _⟩ | ⟨a, l, c, zs, hcs, _, hl, hm, hz, _, hcell, hwz⟩
 ·obtain rfl : c2 = .slice none 0 0 := (List.cons.inj hcs).1
  exact ⟨_, Rd.of_row (zs := []) (.inl ⟨rfl, rfl, rfl, rfl⟩)⟩
 ·obtain rfl : c2 = .slice (some a) l c := (List.cons.inj hcs).1
  exact ⟨_, Rd.of_row (a := some a) (len := l) (cap := c) (zs := zs) (.inr ⟨a, rfl, hl, hm, by simpa using hz, hcell, hwz⟩)⟩
set_option maxRecDepth 100000 in
theorem cm_open {r : Reach} {b0 : Nat} {v : Value} {d : DataW H} {p : List MemPlace} (hv : Value.okWide Tryz.prog w r b0 88 v) (h : DataW.Trod enc Tryz.prog w base (fun _ => true) held 88 v d p) :
  ∃ (u uc : Value) (L C : List Int), v = .agg #[u, uc] ∧ Rd w u L.length (intCells L) ∧ Rd w uc C.length (intCells C) := by
 obtain ⟨cs, rfl, hsz⟩ := okWide_struct Tryz.underlying88 hv
 have h3 : cs.size = 2 := hsz.trans (by kernel_rfl)
 obtain ⟨c0, c1, rfl⟩ : ∃ c0 c1, cs = #[c0, c1] := by
  obtain ⟨l⟩ := cs
  match l, h3 with
  | [c0, c1], _ => exact ⟨c0, c1, rfl⟩
 obtain ⟨fuel, hf⟩ := h
 obtain ⟨xs, n, _, _, _, hxl, hg⟩ := DataW.trod_struct Tryz.underlying88 hf
 have htwo : Tryz.prog.cellsOf 31 = 1 := by kernel_rfl
 have e0 : DataW.trod enc Tryz.prog w base (fun _ => true) held n 31 (([c0, c1].drop 0).take (Tryz.prog.cellsOf 31)) = xs[0]? := hg 0 _ rfl
 have e1 : DataW.trod enc Tryz.prog w base (fun _ => true) held n 31 (([c0, c1].drop 1).take (Tryz.prog.cellsOf 31)) = xs[1]? := hg 1 _ rfl
 rw [htwo] at e0 e1
 have x0 : xs[0]? = some (xs[0]'(by rw [hxl]; decide)) := List.getElem?_eq_getElem _
 have x1 : xs[1]? = some (xs[1]'(by rw [hxl]; decide)) := List.getElem?_eq_getElem _
 obtain ⟨L, hL⟩ := ints_rd (c2 := c0) (e0.trans x0)
 obtain ⟨C, hC⟩ := ints_rd (c2 := c1) (e1.trans x1)
 exact ⟨c0, c1, L, C, rfl, hL, hC⟩
end Go.Proofs.YtnndifemkichmaaGreat
