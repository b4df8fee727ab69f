/- How an argument that is a list of rectangles, or a region, is opened. No statement is proved here. -/
import Derived.Test.YtnndifemkichmaaGreatMA
import Derived.Test.YtnndifemkichmaaGreatMAv1
import Derived.Test.YtnndifemkichmaaGreatProg
import Derived.WalkKit
import Derived.ProofKit
import Derived.OpenShut
import Derived.WalkLawsBesides
import Derived.WalkSpells
import Derived.ShutString
import Derived.ChangeOld
import Derived.Below
import Derived.Lib.Hide
import Derived.BigQuiet
import Derived.Deep.QuietTactic
import Derived.Maps.AppendAt
import Derived.Deep.Draws
import Derived.Deep.RegionHeld3
import Derived.Deep.DeepCutAuto
import Derived.OwnWalk
import Derived.Deep.AppendLies
import Derived.Deep.LoopGhost
import Derived.Deep.MidRow
import Derived.Deep.WholeRow
import Derived.Deep.OwnRows
import Derived.Deep.Onto
import Derived.Laws.AppendOwn
import Derived.Deep.Slices
import Derived.Deep.Fields
import Derived.Lib.SmallJoins
namespace Go.Proofs.YtnndifemkichmaaGreat
open Go.ChangeShapes Go.WideShapes Go.Deep
set_option maxRecDepth 100000
variable {H : Type} {enc : TypeId × Value → H} {w : World} {base : Nat} {spare : Nat → Bool} {held : Bool}
theorem four_ints {fuel : Nat} {cs : List Value} {x : DataW H × List MemPlace} (h : DataW.trod enc Tryz.prog w base spare held fuel 248 cs = some x) :
  ∃ r : Rc, cs = [.int .i64 r.x, .int .i64 r.y, .int .i64 r.w, .int .i64 r.h] := by
 obtain ⟨xs, n, _, _, hlen, hxl, hf⟩ := DataW.trod_struct Tryz.underlying248 h
 have h4 : cs.length = 4 := hlen.trans (by kernel_rfl)
 obtain ⟨c0, c1, c2, c3, rfl⟩ : ∃ c0 c1 c2 c3, cs = [c0, c1, c2, c3] := by
  match cs, h4 with
  | [c0, c1, c2, c3], _ => exact ⟨c0, c1, c2, c3, rfl⟩
 have hone : Tryz.prog.cellsOf 3 = 1 := by kernel_rfl
 have one : ∀ (j : Nat) (hj : j < 4), DataW.trod enc Tryz.prog w base spare held n 3 (([c0, c1, c2, c3].drop j).take 1) = xs[j]? → ∃ z : Int, [c0, c1, c2, c3][j]'(by simp; omega) = .int .i64 z := by
  intro j hj e
  have hx : xs[j]? = some (xs[j]'(by rw [hxl]; exact hj)) := List.getElem?_eq_getElem _
  obtain ⟨z, hz, _⟩ := DataW.trod_int Tryz.underlying3 (e.trans hx)
  refine ⟨z, ?_⟩
  rw [List.drop_eq_getElem_cons (by simp; omega)] at hz
  have hz2 : [[c0, c1, c2, c3][j]'(by simp; omega)] = [Value.int .i64 z] := hz
  exact (List.cons.inj hz2).1
 have e0 : DataW.trod enc Tryz.prog w base spare held n 3 (([c0, c1, c2, c3].drop 0).take (Tryz.prog.cellsOf 3)) = xs[0]? := hf 0 _ rfl
 have e1 : DataW.trod enc Tryz.prog w base spare held n 3 (([c0, c1, c2, c3].drop 1).take (Tryz.prog.cellsOf 3)) = xs[1]? := hf 1 _ rfl
 have e2 : DataW.trod enc Tryz.prog w base spare held n 3 (([c0, c1, c2, c3].drop 2).take (Tryz.prog.cellsOf 3)) = xs[2]? := hf 2 _ rfl
 have e3 : DataW.trod enc Tryz.prog w base spare held n 3 (([c0, c1, c2, c3].drop 3).take (Tryz.prog.cellsOf 3)) = xs[3]? := hf 3 _ rfl
 rw [hone] at e0 e1 e2 e3
 obtain ⟨z0, h0⟩ := one 0 (by omega) e0
 obtain ⟨z1, h1⟩ := one 1 (by omega) e1
 obtain ⟨z2, h2⟩ := one 2 (by omega) e2
 obtain ⟨z3, h3⟩ := one 3 (by omega) e3
 refine ⟨⟨z0, z1, z2, z3⟩, ?_⟩
 rw [show c0 = .int .i64 z0 from h0, show c1 = .int .i64 z1 from h1, show c2 = .int .i64 z2 from h2, show c3 = .int .i64 z3 from h3]
theorem ld_of_trod {fuel : Nat} {v : Value} {x : DataW H × List MemPlace} (h : DataW.trod enc Tryz.prog w base spare held fuel 184 v.cells.toList = some x) (hv : v.cells = #[v] := by rfl) : ∃ L, LdR w v L := by
 have hC : Tryz.prog.cellsOf 248 = 4 := by kernel_rfl
 rw [hv] at h
 rcases open_slice Tryz.underlying184 h with ⟨hcs, _⟩ | ⟨a, len, cap, m, n, D, Pl, hcs, _, hl, hm, hmm, _, hi⟩
 ·obtain rfl : v = .slice none 0 0 := by simpa using hcs
  exact ⟨[], by simp, none, 0, rfl, fun h => by simp at h⟩
 ·obtain rfl : v = .slice (some a) len cap := by simpa using hcs
  have hlm : len ≤ m := by rw [hmm]; split <;> omega
  have hel : ∀ i, i < len → ∃ r : Rc, A4 w (a.add (i * 4)) r := fun i hil => by
   obtain ⟨cs', hc, ht⟩ := hi i (by omega)
   rw [hC] at hc
   obtain ⟨_, hcl, hat⟩ := World.cells?_some hc
   obtain ⟨r, hr⟩ := four_ints ht
   subst hr
   have add1 : ∀ j, 0 < j → (a.add (i * 4)).add j = ⟨(a.add (i * 4)).block, (a.add (i * 4)).off + j, none⟩ := fun j hj => by
    conv => lhs; unfold Addr.add
    rw [if_neg (by omega)]
    rfl
   have a0 := hat 0 (by omega)
   have a1 := hat 1 (by omega)
   have a2 := hat 2 (by omega)
   have a3 := hat 3 (by omega)
   rw [add1 1 (by omega)] at a1
   rw [add1 2 (by omega)] at a2
   rw [add1 3 (by omega)] at a3
   exact ⟨r, ⟨a0, a1, a2, a3⟩⟩
  let f : Nat → Rc := fun i => if h : i < len then Classical.choose (hel i h) else ⟨0, 0, 0, 0⟩
  have hlen : ((List.range len).map f).length = len := by simp
  refine ⟨(List.range len).map f, by rw [hlen]; omega, some a, cap, by rw [hlen], fun _ => ⟨a, rfl, fun k r hr => ?_⟩⟩
  have hk : k < len := by have := (List.getElem?_eq_some_iff.1 hr).1; rwa [hlen] at this
  have hf : f k = r := by simpa [hk] using hr
  rw [← hf]
  show A4 w (a.add (k * 4)) (if h : k < len then Classical.choose (hel k h) else ⟨0, 0, 0, 0⟩)
  rw [dif_pos hk]
  exact Classical.choose_spec (hel k hk)
theorem rg_open {r : Reach} {b0 : Nat} {v : Value} {d : DataW H} {p : List MemPlace} (hv : Value.okWide Tryz.prog w r b0 186 v) (h : DataW.Trod enc Tryz.prog w base spare held 186 v d p) :
  ∃ u L, v = .agg #[u] ∧ LdR w u L := by
 obtain ⟨cs, rfl, hsz⟩ := okWide_struct Tryz.underlying186 hv
 have h1 : cs.size = 1 := hsz.trans (by kernel_rfl)
 obtain ⟨u, rfl⟩ : ∃ u, cs = #[u] := ⟨cs[0], by apply Array.ext (by simp [h1]); intro i h2 h3; simp at h3; subst h3; simp⟩
 obtain ⟨fuel, hf⟩ := h
 obtain ⟨xs, n, _, _, _, hxl, hg⟩ := DataW.trod_struct Tryz.underlying186 hf
 have e0 : DataW.trod enc Tryz.prog w base spare held n 184 (([u].drop 0).take (Tryz.prog.cellsOf 184)) = xs[0]? := hg 0 _ rfl
 have hone : Tryz.prog.cellsOf 184 = 1 := by kernel_rfl
 rw [hone] at e0
 have hx : xs[0]? = some (xs[0]'(by rw [hxl]; decide)) := List.getElem?_eq_getElem _
 have e1 := e0.trans hx
 have hu : ∃ A n c, u = .slice A n c := by
  rcases open_slice Tryz.underlying184 e1 with ⟨hcs, _⟩ | ⟨a, len, cap, m, n, D, Pl, hcs, _⟩
  ·exact ⟨none, 0, 0, by simpa [Value.cells] using hcs⟩
  ·exact ⟨some a, len, cap, by simpa [Value.cells] using hcs⟩
 obtain ⟨A, n', c, rfl⟩ := hu
 obtain ⟨L, hL⟩ := ld_of_trod (v := .slice A n' c) (by simpa [Value.cells] using e1)
 exact ⟨_, L, rfl, hL⟩
end Go.Proofs.YtnndifemkichmaaGreat
