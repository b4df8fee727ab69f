/- Texts of mine in one file: Frame, ImR, Bk, PixM, PixC, AllR, ImO, OriM, Blk4, PixS, ClampC, PixI, PixA, PixB, OriP, SclM, ImP, OverS, OverI, DitM. No statement is proved here. -/
import Derived.Test.YtnndifemkichmaaGreatMA
import Derived.Test.YtnndifemkichmaaGreatProg
import Derived.WalkKit
import Derived.ProofKit
import Derived.OpenShut
import Derived.WalkLawsBesides
import Derived.WalkSpells
import Derived.ShutString
import Derived.ChangeOld
import Derived.Below
import Derived.Lib.Hide
import Derived.Maps.AppendAt
import Derived.Deep.Draws
import Derived.BigQuiet
import Derived.Deep.QuietTactic
import Derived.Deep.OwnRows
import Derived.Handy
import Derived.OwnWalk
import Derived.Deep.AppendLies
import Derived.Deep.LoopGhost
import Derived.Deep.Onto
import Derived.Deep.MidRow
import Derived.Deep.WholeRow
import Derived.Laws.BitsAllLaws
import Derived.Lib.QuoteBits
import Derived.Deep.RegionHeld3
import Derived.ChangeKeysEq
import Derived.Deep.DeepCutAuto
namespace Go.Proofs.YtnndifemkichmaaGreat
open Go.RowKit
theorem grown_below {a w w' : World} {row : Option Nat} (h : a.grownBy w row) (hb : Below w.heap.size w w') : a.grownBy w' row :=
 h.trans ⟨hb.os, hb.tape, hb.output, hb.size, fun k hk _ => hb.block k hk⟩
end Go.Proofs.YtnndifemkichmaaGreat
namespace Go.Proofs.YtnndifemkichmaaGreat
open Go.RowKit
theorem tabI_getD (n : Nat) (f : Nat → Int) (k : Nat) (h : k < n) : (tabI n f).getD k 0 = f k := by rw [List.getD_eq_getElem?_getD, tabI_get n f k h]; rfl
theorem intCells_one (L : List Int) : ∀ v ∈ intCells L, v.oneCell' = true := ints_oneCell .i64 L
theorem ownI_call {w w' : World} {B : Nat} {e : TypeId} {size : Nat} {v : Value} {n : Nat} {xs : List Value} (h : w.ownsRow B e size v n xs) (hb : Below w.heap.size w w') : w'.ownsRow B e size v n xs := own_below h hb (Nat.le_refl _)
set_option maxHeartbeats 1000000 in
set_option maxRecDepth 10000 in
theorem heldIS (v : Value) (k0 n : Nat) (w : World) (hm : k0 + n ≤ 1000000000) (hrd : RdI w v (marksI k0 n)) :
  Calls Tryz.prog 56 #[v, .int .i64 k0] w fun ed w' => ed = .returned (.int .i64 ((k0 + n : Nat) : Int)) ∧ w' = w := by
 obtain ⟨A, c, rfl⟩ := hrd.form
 rw [marksI_length] at hrd ⊢
 have Hrd := Lib.hid hrd
 clear hrd
 go_enter Tryz.func56, Tryz.ntmps56
 go_wp2_with fail
 go_loopw [1, 5] (fun s1 i wr => ∃ (k : Nat) (t : Int), k ≤ n ∧ i = .int .i64 k ∧ s1 = .int .i64 t ∧ Hid (t = ((k0 + k : Nat) : Int)) ∧ wr = w) (fun _ i _ => n - (intOf i).toNat)
 case atStart => exact ⟨0, k0, Nat.zero_le _, rfl, rfl, Lib.hid (by simp), rfl⟩
 case round =>
  obtain ⟨k, t, hk, rfl, rfl, Ht, rfl⟩ := hrel
  have ht0 : 0 ≤ t := by have := Ht.out; omega
  have ht1 : t ≤ 5000000000 := by have := Ht.out; omega
  by_cases hlt : k < n
  ·obtain ⟨gq, r, rfl, hr, c0⟩ := Hrd.out.at_ (k := k) (by rw [marksI_length]; exact hlt)
   unfold marksI at hr
   rw [tabI_get n _ k hlt] at hr
   injection hr with hr
   have e0 : r = t := by rw [← hr, Ht.out]
   rw [e0] at c0
   have k0' : (0 : Int) ≤ (k : Int) := by omega
   have k1' : (k : Int) < (n : Int) := by omega
   clear hr e0
   go_wp2_with fail
   go_roundw
   case rel => exact ⟨k + 1, _, by omega, by go_num, rfl, Lib.hid (by have := Ht.out; omega), by first | rfl | trivial⟩
   case measure => simp [intOf]; omega
  ·obtain rfl : k = n := by omega
   go_wp2_with fail
   go_ret
   exact ⟨ret_int Ht.out, rfl⟩
end Go.Proofs.YtnndifemkichmaaGreat
namespace Go.Proofs.YtnndifemkichmaaGreat
open Go.RowKit
theorem BkAt.drewN {w : World} {g : Nat} {t : TypeId} {cs : Array Value} (h : BkAt w g t cs) (n : Nat) : BkAt (w.drewN n) g t cs := h
end Go.Proofs.YtnndifemkichmaaGreat
namespace Go.Proofs.YtnndifemkichmaaGreat
open Go.RowKit
theorem and24 (x : Int) (h0 : 0 ≤ x) (h1 : x ≤ 9223372036854775807) : bits .and .i64 x 16777215 = x % 16777216 := by
 obtain ⟨n, rfl⟩ := Int.eq_ofNat_of_zero_le h0
 show IntKind.i64.wrap ((BitVec.ofInt 64 (n : Int) &&& BitVec.ofInt 64 ((16777215 : Nat) : Int)).toNat : Int) = _
 rw [BitVec.toNat_and, ofInt_u64 n (by omega), ofInt_u64 16777215 (by omega), nat_mask24]
 exact Go.Lib.wrap_i64_small _ (by omega)
theorem or_join (m : Nat) (x y : Int) (h0 : 0 ≤ x) (h1 : x ≤ 4294967295) (hx : x % (2 ^ m : Nat) = 0) (h2 : 0 ≤ y) (h3 : y < (2 ^ m : Nat)) (hm : (2 ^ m : Nat) ≤ 16777216) : bits .or .i64 x y = x + y := by
 obtain ⟨a, rfl⟩ := Int.eq_ofNat_of_zero_le h0
 obtain ⟨b, rfl⟩ := Int.eq_ofNat_of_zero_le h2
 show IntKind.i64.wrap ((BitVec.ofInt 64 (a : Int) ||| BitVec.ofInt 64 (b : Int)).toNat : Int) = _
 rw [BitVec.toNat_or, ofInt_u64 a (by omega), ofInt_u64 b (by omega), nat_join m a b (by exact_mod_cast hx) (by exact_mod_cast h3)]
 exact Go.Lib.wrap_i64_small _ (by omega)
theorem packed_bits (a r g b : Int) (ha : chOk a) (hr : chOk r) (hg : chOk g) (hb : chOk b) :
  bits .or .i64 (bits .or .i64 (bits .or .i64 (a * 16777216) (r * 65536)) (g * 256)) b = pack4 a r g b := by
 unfold chOk at *
 rw [or_join 24 (a * 16777216) (r * 65536) (by omega) (by omega) (by omega) (by omega) (by omega) (by omega),
  or_join 16 (a * 16777216 + r * 65536) (g * 256) (by omega) (by omega) (by omega) (by omega) (by omega) (by omega),
  or_join 8 (a * 16777216 + r * 65536 + g * 256) b (by omega) (by omega) (by omega) (by omega) (by omega) (by omega)]
 rfl
def mixC (x y al : Int) : Int := pxPart x al + pxPart y (255 - al)
theorem mix_bd {x y al lo hi : Int} (_ : chOk x) (_ : chOk y) (ha : chOk al) (h1 : lo ≤ x) (h2 : lo ≤ y) (h3 : x ≤ hi) (h4 : y ≤ hi) : lo ≤ mixC x y al ∧ mixC x y al ≤ hi := by
 unfold chOk at *
 have e1 : lo * al ≤ x * al := Int.mul_le_mul_of_nonneg_right h1 ha.1
 have e2 : x * al ≤ hi * al := Int.mul_le_mul_of_nonneg_right h3 ha.1
 have e3 : lo * (255 - al) ≤ y * (255 - al) := Int.mul_le_mul_of_nonneg_right h2 (by omega)
 have e4 : y * (255 - al) ≤ hi * (255 - al) := Int.mul_le_mul_of_nonneg_right h4 (by omega)
 have e5 : lo * (255 - al) = lo * 255 - lo * al := Int.mul_sub _ _ _
 have e6 : hi * (255 - al) = hi * 255 - hi * al := Int.mul_sub _ _ _
 rw [e5] at e3
 rw [e6] at e4
 unfold mixC pxPart
 generalize x * al = A at *
 generalize y * (255 - al) = B at *
 generalize lo * al = C at *
 generalize hi * al = D at *
 omega
theorem mix_ok {x y al : Int} (hx : chOk x) (hy : chOk y) (ha : chOk al) : chOk (mixC x y al) :=
 mix_bd hx hy ha hx.1 hy.1 hx.2 hy.2
def overK (p q : Int) : Int := pack4 255 (mixC (p / 65536 % 256) (q / 65536 % 256) (p / 16777216)) (mixC (p / 256 % 256) (q / 256 % 256) (p / 16777216)) (mixC (p % 256) (q % 256) (p / 16777216))
def over (p q : Int) : Int := if pixOk p ∧ pixOk q then overK p q else -1
theorem ch_255 : chOk 255 := ⟨by omega, by omega⟩
end Go.Proofs.YtnndifemkichmaaGreat
namespace Go.Proofs.YtnndifemkichmaaGreat
open Go.RowKit
theorem ch_no {a : Int} (h : ¬ chOk a) : a < 0 ∨ 255 < a := by unfold chOk at h; omega
theorem partI_ok (a b : Int) (ha : chOk a) (hb : chOk b) (w : World) :
  Calls Tryz.prog 256 #[.int .i64 a, .int .i64 b] w fun e w' => e = .returned (.int .i64 (pxPart a b)) ∧ w = w' := by
 obtain ⟨m0, m1⟩ := mul_bd ha hb
 have Ha := Lib.hid ha
 have Hb := Lib.hid hb
 clear ha hb
 go_enter Tryz.func256, Tryz.ntmps256
 go_wp2_with fail
 refine (inI_yes a 0 255 _ Ha.out.1 Ha.out.2).mono ?_
 rintro e w' ⟨rfl, rfl⟩
 go_wp2_with fail
 refine (inI_yes b 0 255 _ Hb.out.1 Hb.out.2).mono ?_
 rintro e w' ⟨rfl, rfl⟩
 go_wp2
 go_ret
 exact ⟨rfl, rfl⟩
theorem partS_ok (a b : Int) (ha : chOk a) (hb : chOk b) (w : World) :
  Calls Tryz.prog 222 #[.int .i64 a, .int .i64 b] w fun e w' => e = .returned (.int .i64 (pxPart a b)) ∧ w = w' := by
 obtain ⟨m0, m1⟩ := mul_bd ha hb
 have Ha := Lib.hid ha
 have Hb := Lib.hid hb
 clear ha hb
 go_enter Tryz.func222, Tryz.ntmps222
 go_wp2_with fail
 refine (inS_yes a 0 255 _ Ha.out.1 Ha.out.2).mono ?_
 rintro e w' ⟨rfl, rfl⟩
 go_wp2_with fail
 refine (inS_yes b 0 255 _ Hb.out.1 Hb.out.2).mono ?_
 rintro e w' ⟨rfl, rfl⟩
 go_wp2
 go_ret
 exact ⟨rfl, rfl⟩
end Go.Proofs.YtnndifemkichmaaGreat
namespace Go.Proofs.YtnndifemkichmaaGreat
open Go.RowKit
theorem allIn_get {L : List Int} {lo hi : Int} (h : allIn L lo hi) (k : Nat) (hk : k < L.length) : lo ≤ L.getD k 0 ∧ L.getD k 0 ≤ hi := by
 rw [List.getD_eq_getElem?_getD, List.getElem?_eq_getElem hk]
 exact h k _ (List.getElem?_eq_getElem hk)
end Go.Proofs.YtnndifemkichmaaGreat
namespace Go.Proofs.YtnndifemkichmaaGreat
open Go.RowKit
theorem sz_pos {W H : Int} (h : szOk W H) : 1 ≤ W * H := by
 obtain ⟨h1, h2, h3, h4⟩ := h
 have := Int.mul_le_mul (a := 1) (b := 1) (c := W) (d := H) h1 h3 (by omega) (by omega)
 omega
end Go.Proofs.YtnndifemkichmaaGreat
namespace Go.Proofs.YtnndifemkichmaaGreat
open Go.RowKit
theorem ori_undo {a : Int} (ha : orOk a) (p : Pp) : Pp.ori (undoO a) (Pp.ori a p) = p := by
 obtain ⟨w, h, x, y⟩ := p
 rcases ha.cases with rfl | rfl | rfl | rfl | rfl | rfl | rfl | rfl <;>
  (simp [Pp.ori, Pp.rep, Pp.mir, Pp.qt, undoO]; try omega)
theorem undo_undo {a : Int} (ha : orOk a) (p : Pp) : Pp.ori a (Pp.ori (undoO a) p) = p := by
 obtain ⟨w, h, x, y⟩ := p
 rcases ha.cases with rfl | rfl | rfl | rfl | rfl | rfl | rfl | rfl <;>
  (simp [Pp.ori, Pp.rep, Pp.mir, Pp.qt, undoO]; try omega)
end Go.Proofs.YtnndifemkichmaaGreat
namespace Go.Proofs.YtnndifemkichmaaGreat
open Go.RowKit
theorem RcAt.set2 {w : World} {g : Nat} {r : Rc} (h : RcAt w g r) (c d : Int) : RcAt ((w.setCell ⟨g, 2, none⟩ (.int .i64 c)).setCell ⟨g, 3, none⟩ (.int .i64 d)) g ⟨r.x, r.y, c, d⟩ := by
 unfold RcAt at *
 simp [World.setCell, Array.getElem?_modify, h]
end Go.Proofs.YtnndifemkichmaaGreat
namespace Go.Proofs.YtnndifemkichmaaGreat
open Go.RowKit
theorem fadeS_in (p al : Int) (hp : pixOk p) (ha : chOk al) (w : World) :
  Calls Tryz.prog 221 #[.int .i64 p, .int .i64 al] w fun e w' => e = .returned (.int .i64 (fade p al)) ∧ w = w' := by
 have Hn : Hid (fade p al = fadeK p al) := if_pos ⟨hp, ha⟩
 obtain ⟨x, hx⟩ : ∃ x, x = pxPart (p / 16777216) al := ⟨_, rfl⟩
 obtain ⟨x0, x1⟩ : chOk x := by rw [hx]; exact part_ok (ch_0 hp) ha
 have hP := partS_ok (p / 16777216) al (ch_0 hp) ha
 have hC := chS_in p 0 hp (by omega) (by omega)
 rw [chan_0 hp] at hC
 rw [← hx] at hP
 have HP := Lib.hid hP
 have HC := Lib.hid hC
 have HX := Lib.hid hx
 have Hp := Lib.hid hp
 have Ha := Lib.hid ha
 have hm : bits .and .i64 p 16777215 = p % 16777216 := and24 p hp.1 (by have := hp.2; omega)
 clear hP hC hx hp ha
 go_enter Tryz.func221, Tryz.ntmps221
 go_wp2_with fail
 refine (pixS_yes p Hp.out _).mono ?_
 rintro e w' ⟨rfl, rfl⟩
 go_wp2_with fail
 refine (inS_yes _ 0 255 _ Ha.out.1 Ha.out.2).mono ?_
 rintro e w' ⟨rfl, rfl⟩
 go_wp2_with fail
 refine (HC.out _).mono ?_
 rintro e w' ⟨rfl, rfl⟩
 go_wp2_with fail
 refine (HP.out _).mono ?_
 rintro e w' ⟨rfl, rfl⟩
 go_wp2
 go_ret
 exact ⟨ret_int (by rw [Hn.out]; unfold fadeK pack4; rw [← HX.out]; omega), rfl⟩
theorem fadeS_any (p al : Int) (w : World) :
  Calls Tryz.prog 221 #[.int .i64 p, .int .i64 al] w fun e w' => e = .returned (.int .i64 (fade p al)) ∧ w = w' := by
 by_cases hp : pixOk p
 ·by_cases ha : chOk al
  ·exact fadeS_in p al hp ha w
  ·have Hn : Hid (fade p al = -1) := if_neg fun h => ha h.2
   have Hp := Lib.hid hp
   have Ha := Lib.hid ha
   clear hp ha
   go_enter Tryz.func221, Tryz.ntmps221
   go_wp2_with fail
   refine (pixS_yes p Hp.out _).mono ?_
   rintro e w' ⟨rfl, rfl⟩
   go_wp2_with fail
   refine (inS_no _ 0 255 _ (ch_no Ha.out)).mono ?_
   rintro e w' ⟨rfl, rfl⟩
   go_wp2
   go_ret
   exact ⟨ret_int Hn.out.symm, rfl⟩
 ·have Hn : Hid (fade p al = -1) := if_neg fun h => hp h.1
  have Hp := Lib.hid hp
  clear hp
  go_enter Tryz.func221, Tryz.ntmps221
  go_wp2_with fail
  refine (pixS_no p Hp.out _).mono ?_
  rintro e w' ⟨rfl, rfl⟩
  go_wp2
  go_ret
  exact ⟨ret_int Hn.out.symm, rfl⟩
end Go.Proofs.YtnndifemkichmaaGreat
namespace Go.Proofs.YtnndifemkichmaaGreat
open Go.RowKit
def clamp (n lo hi : Int) : Int := if hi < lo ∨ n < lo then lo else if hi < n then hi else n
theorem clampI (n lo hi : Int) (w : World) :
  Calls Tryz.prog 252 #[.int .i64 n, .int .i64 lo, .int .i64 hi] w fun e w' => e = .returned (.int .i64 (clamp n lo hi)) ∧ w = w' := by
 go_enter Tryz.func252, Tryz.ntmps252
 go_wp2
 all_goals go_ret
 all_goals exact ⟨ret_int (by unfold clamp; omega), rfl⟩
end Go.Proofs.YtnndifemkichmaaGreat
namespace Go.Proofs.YtnndifemkichmaaGreat
open Go.RowKit
theorem packedI (a r g b : Int) (ha : chOk a) (hr : chOk r) (hg : chOk g) (hb : chOk b) (w : World) :
  Calls Tryz.prog 237 #[.agg #[.int .i64 a, .int .i64 r, .int .i64 g, .int .i64 b]] w fun e w' => e = .returned (.int .i64 (pack4 a r g b)) ∧ Below w.heap.size w w' := by
 have hp := packed_bits a r g b ha hr hg hb
 obtain ⟨a0, a1⟩ := ha
 obtain ⟨r0, r1⟩ := hr
 obtain ⟨g0, g1⟩ := hg
 obtain ⟨b0, b1⟩ := hb
 go_enter Tryz.func237, Tryz.ntmps237
 go_wp2
 go_ret
 exact ⟨rfl, (Below.refl _ _).alloc (Nat.le_refl _) _⟩
end Go.Proofs.YtnndifemkichmaaGreat
namespace Go.Proofs.YtnndifemkichmaaGreat
open Go.RowKit
def ChAt (w : World) (g : Nat) (a b c d : Int) : Prop := w.heap[g]? = some (.cells #[.int .i64 a, .int .i64 b, .int .i64 c, .int .i64 d] 240 (0, 0))
section
variable {w w' : World} {g B : Nat} {a b c d : Int}
theorem ChAt.lt (h : ChAt w g a b c d) : g < w.heap.size := (Array.getElem?_eq_some_iff.1 h).1
theorem ChAt.cells (h : ChAt w g a b c d) :
  w.cell? ⟨g, 0, none⟩ = some (.int .i64 a) ∧ w.cell? ⟨g, 1, none⟩ = some (.int .i64 b) ∧ w.cell? ⟨g, 2, none⟩ = some (.int .i64 c) ∧ w.cell? ⟨g, 3, none⟩ = some (.int .i64 d) := by
 unfold ChAt at h
 refine ⟨?_, ?_, ?_, ?_⟩ <;> simp [World.cell?, h]
theorem ChAt.frozen (h : ChAt w g a b c d) (o : Nat) : w.frozen? ⟨g, o, none⟩ = false := by
 unfold ChAt at h; simp [World.frozen?, h]
theorem ChAt.below (h : ChAt w g a b c d) (hb : Below B w w') (hg : g < B) : ChAt w' g a b c d := (hb.block g hg).trans h
theorem ChAt.call (h : ChAt w g a b c d) (hb : Below w.heap.size w w') : ChAt w' g a b c d := h.below hb h.lt
theorem ChAt.alloc (h : ChAt w g a b c d) (o : Obj) : ChAt (w.alloc o) g a b c d := (Below.heap_alloc w o g h.lt).trans h
theorem ChAt.new (w : World) (a b c d : Int) : ChAt (w.alloc (.cells #[.int .i64 a, .int .i64 b, .int .i64 c, .int .i64 d] 240)) w.heap.size a b c d := heap_alloc_new w _
theorem ChAt.newAt (h : w.heap.size = g) (a b c d : Int) : ChAt (w.alloc (.cells #[.int .i64 a, .int .i64 b, .int .i64 c, .int .i64 d] 240)) g a b c d := h ▸ ChAt.new w a b c d
theorem ChAt.drew (h : ChAt w g a b c d) : ChAt w.drew g a b c d := h
theorem ChAt.far (h : ChAt w g a b c d) {p : Addr} (hp : g ≠ p.block) (v : Value) : ChAt (w.setCell p v) g a b c d := (Below.heap_setCell w p v g hp).trans h
theorem ChAt.set1 (h : ChAt w g a b c d) (x : Int) : ChAt (w.setCell ⟨g, 1, none⟩ (.int .i64 x)) g a x c d := by
 unfold ChAt at *; simp [World.setCell, Array.getElem?_modify, h]
theorem ChAt.set2 (h : ChAt w g a b c d) (x : Int) : ChAt (w.setCell ⟨g, 2, none⟩ (.int .i64 x)) g a b x d := by
 unfold ChAt at *; simp [World.setCell, Array.getElem?_modify, h]
theorem ChAt.set3 (h : ChAt w g a b c d) (x : Int) : ChAt (w.setCell ⟨g, 3, none⟩ (.int .i64 x)) g a b c x := by
 unfold ChAt at *; simp [World.setCell, Array.getElem?_modify, h]
end
theorem px_call {a w w' : World} (h : Below a.heap.size a w) (hb : Below w.heap.size w w') : Below a.heap.size a w' := h.trans (hb.mono h.size)
end Go.Proofs.YtnndifemkichmaaGreat
namespace Go.Proofs.YtnndifemkichmaaGreat
open Go.RowKit
theorem fadeI_in (p al : Int) (hp : pixOk p) (ha : chOk al) (w : World) :
  Calls Tryz.prog 255 #[.int .i64 p, .int .i64 al] w fun e w' => e = .returned (.int .i64 (fade p al)) ∧ Below w.heap.size w w' := by
 have Hn : Hid (fade p al = fadeK p al) := if_pos ⟨hp, ha⟩
 obtain ⟨c0, h0⟩ : ∃ x, x = p / 16777216 := ⟨_, rfl⟩
 obtain ⟨c1, h1⟩ : ∃ x, x = p / 65536 % 256 := ⟨_, rfl⟩
 obtain ⟨c2, h2⟩ : ∃ x, x = p / 256 % 256 := ⟨_, rfl⟩
 obtain ⟨c3, h3⟩ : ∃ x, x = p % 256 := ⟨_, rfl⟩
 have HU := Lib.hid (unpackedI p hp)
 have Hc0 : Hid (chOk c0) := by rw [h0]; exact ch_0 hp
 have Hc1 : Hid (chOk c1) := by rw [h1]; exact ch_1 p
 have Hc2 : Hid (chOk c2) := by rw [h2]; exact ch_2 p
 have Hc3 : Hid (chOk c3) := by rw [h3]; exact ch_3 p
 rw [fadeK, ← h0, ← h1, ← h2, ← h3] at Hn
 rw [← h0, ← h1, ← h2, ← h3] at HU
 have HP := Lib.hid (partI_ok c0 al Hc0.out ha)
 have Hx := Lib.hid (part_ok Hc0.out ha)
 obtain ⟨x, hx⟩ : ∃ x, x = pxPart c0 al := ⟨_, rfl⟩
 rw [← hx] at HP Hn Hx
 have Hp := Lib.hid hp
 have Ha := Lib.hid ha
 clear h0 h1 h2 h3 hx hp ha
 go_enter Tryz.func255, Tryz.ntmps255
 go_wp2_with fail
 refine (pixI_yes p Hp.out _).mono ?_
 rintro e w' ⟨rfl, rfl⟩
 go_wp2_with fail
 refine (inI_yes _ 0 255 _ Ha.out.1 Ha.out.2).mono ?_
 rintro e w' ⟨rfl, rfl⟩
 go_wp2_with fail
 refine (HU.out _).mono ?_
 rintro e w1 ⟨rfl, K⟩
 go_wp2_with fail
 refine (HP.out _).mono ?_
 rintro e w' ⟨rfl, rfl⟩
 go_wp2_with fail
 refine (packedI x c1 c2 c3 Hx.out Hc1.out Hc2.out Hc3.out _).mono ?_
 rintro e w2 ⟨rfl, hb⟩
 go_wp2_with fail
 go_ret
 exact ⟨ret_int Hn.out.symm, px_call (by repeat first | exact K | refine Below.setCell ?_ (by have := K.size; first | (simp; done) | (simp; omega)) _ | refine Below.alloc ?_ (by have := K.size; first | (simp; done) | (simp; omega)) _) hb⟩
theorem fadeI_any (p al : Int) (w : World) :
  Calls Tryz.prog 255 #[.int .i64 p, .int .i64 al] w fun e w' => e = .returned (.int .i64 (fade p al)) ∧ Below w.heap.size w w' := by
 by_cases hp : pixOk p
 ·by_cases ha : chOk al
  ·exact fadeI_in p al hp ha w
  ·have Hn : Hid (fade p al = -1) := if_neg fun h => ha h.2
   have Hp := Lib.hid hp
   have Ha := Lib.hid ha
   clear hp ha
   go_enter Tryz.func255, Tryz.ntmps255
   go_wp2_with fail
   refine (pixI_yes p Hp.out _).mono ?_
   rintro e w' ⟨rfl, rfl⟩
   go_wp2_with fail
   refine (inI_no _ 0 255 _ (ch_no Ha.out)).mono ?_
   rintro e w' ⟨rfl, rfl⟩
   go_wp2
   go_ret
   exact ⟨ret_int Hn.out.symm, Below.refl _ _⟩
 ·have Hn : Hid (fade p al = -1) := if_neg fun h => hp h.1
  have Hp := Lib.hid hp
  clear hp
  go_enter Tryz.func255, Tryz.ntmps255
  go_wp2_with fail
  refine (pixI_no p Hp.out _).mono ?_
  rintro e w' ⟨rfl, rfl⟩
  go_wp2
  go_ret
  exact ⟨ret_int Hn.out.symm, Below.refl _ _⟩
end Go.Proofs.YtnndifemkichmaaGreat
namespace Go.Proofs.YtnndifemkichmaaGreat
open Go.RowKit
open Classical in
noncomputable def opM (w h o x y : Int) : Int × Int := if orOk o ∧ (⟨w, h, x, y⟩ : Pp).ok then ((Pp.ori o ⟨w, h, x, y⟩).x, (Pp.ori o ⟨w, h, x, y⟩).y) else (-1, -1)
theorem op_yes {w h o x y : Int} (h1 : orOk o) (h2 : (⟨w, h, x, y⟩ : Pp).ok) : opM w h o x y = ((Pp.ori o ⟨w, h, x, y⟩).x, (Pp.ori o ⟨w, h, x, y⟩).y) := if_pos ⟨h1, h2⟩
theorem op_no {w h o x y : Int} (h0 : ¬ (orOk o ∧ (⟨w, h, x, y⟩ : Pp).ok)) : opM w h o x y = (-1, -1) := if_neg h0
theorem or_no {o : Int} (h : ¬ orOk o) : o < 0 ∨ 7 < o := by unfold orOk at h; omega
set_option maxHeartbeats 1000000 in
theorem opS_ok (a b o x y : Int) (ho : orOk o) (hp : (⟨a, b, x, y⟩ : Pp).ok) (w : World) : Calls Tryz.prog 244 #[.int .i64 a, .int .i64 b, .int .i64 o, .int .i64 x, .int .i64 y] w (TwoAns ((Pp.ori o ⟨a, b, x, y⟩).x, (Pp.ori o ⟨a, b, x, y⟩).y) w) := by
 have Ho := Lib.hid ho
 have Hp := Lib.hid hp
 obtain ⟨o1, o2⟩ := ho
 obtain ⟨p1, p2, p3, p4, p5, p6, p7, p8⟩ := hp
 dsimp only at *
 obtain ⟨q, hq⟩ : ∃ q : Pp, q = Pp.rep Pp.mir (o / 4).toNat ⟨a, b, x, y⟩ := ⟨_, rfl⟩
 have hqo : q.ok := by rw [hq]; exact Pp.rep_ok (fun _ => Pp.mir_ok) _ Hp.out
 have hA : (Pp.ori o ⟨a, b, x, y⟩) = Pp.rep Pp.qt (o % 4).toNat q := by rw [hq]; rfl
 rw [hA]
 obtain ⟨r, hr⟩ : ∃ r : Nat, (r : Int) = o % 4 := ⟨(o % 4).toNat, by omega⟩
 have hr3 : r ≤ 3 := by omega
 rw [show (o % 4).toNat = r by omega]
 have hr' : o % 4 = (r : Int) := hr.symm
 have Hq := Lib.hid hqo
 by_cases h4 : 4 ≤ o
 ·have e : q = ⟨a, b, a - 1 - x, y⟩ := by rw [hq, show (o / 4).toNat = 1 by omega]; rfl
  clear hq hA hr hqo
  subst e
  go_enter Tryz.func244, Tryz.ntmps244
  go_wp2_with ((go_at_call 147; (with_reducible refine (inS_yes _ _ _ _ (by omega) (by omega)).mono ?_); rintro e w' ⟨rfl, rfl⟩))
  go_loopw [0, 1, 3, 4, 12] (fun s0 s1 s3 s4 i wr => ∃ (k : Nat) (c : Pp), k ≤ r ∧ i = .int .i64 k ∧ s0 = .int .i64 c.w ∧ s1 = .int .i64 c.h ∧ s3 = .int .i64 c.x ∧ s4 = .int .i64 c.y ∧ Hid (c = Pp.rep Pp.qt k ⟨a, b, a - 1 - x, y⟩) ∧ c.ok ∧ wr = w) (fun _ _ _ _ i _ => r - (intOf i).toNat)
  case atStart => exact ⟨0, ⟨a, b, a - 1 - x, y⟩, Nat.zero_le _, rfl, rfl, rfl, rfl, rfl, Lib.hid rfl, Hq.out, rfl⟩
  case round =>
   obtain ⟨k, c, hk, rfl, rfl, rfl, rfl, rfl, Hc, hc, rfl⟩ := hrel
   obtain ⟨cw, ch, cx, cy⟩ := c
   have hc2 := hc
   obtain ⟨c1, c2, c3, c4, c5, c6, c7, c8⟩ := hc2
   dsimp only at *
   by_cases hlt : k < r
   ·have k1 : (k : Int) < (r : Int) := by omega
    go_wp2_with fail
    go_roundw
    case rel => exact ⟨k + 1, ⟨ch, cw, ch - 1 - cy, cx⟩, by omega, by go_num, rfl, rfl, rfl, rfl, Lib.hid (by show _ = Pp.qt _; rw [← Hc.out]; rfl), Pp.qt_ok hc, by first | rfl | trivial⟩
    case measure => simp [intOf]; omega
   ·obtain rfl : k = r := by omega
    go_wp2_with fail
    go_ret2
    exact ⟨ret_two (by rw [← Hc.out]), Below.refl _ _⟩
 ·have e : q = ⟨a, b, x, y⟩ := by rw [hq, show (o / 4).toNat = 0 by omega]; rfl
  clear hq hA hr hqo
  subst e
  go_enter Tryz.func244, Tryz.ntmps244
  go_wp2_with ((go_at_call 147; (with_reducible refine (inS_yes _ _ _ _ (by omega) (by omega)).mono ?_); rintro e w' ⟨rfl, rfl⟩))
  go_loopw [0, 1, 3, 4, 12] (fun s0 s1 s3 s4 i wr => ∃ (k : Nat) (c : Pp), k ≤ r ∧ i = .int .i64 k ∧ s0 = .int .i64 c.w ∧ s1 = .int .i64 c.h ∧ s3 = .int .i64 c.x ∧ s4 = .int .i64 c.y ∧ Hid (c = Pp.rep Pp.qt k ⟨a, b, x, y⟩) ∧ c.ok ∧ wr = w) (fun _ _ _ _ i _ => r - (intOf i).toNat)
  case atStart => exact ⟨0, ⟨a, b, x, y⟩, Nat.zero_le _, rfl, rfl, rfl, rfl, rfl, Lib.hid rfl, Hq.out, rfl⟩
  case round =>
   obtain ⟨k, c, hk, rfl, rfl, rfl, rfl, rfl, Hc, hc, rfl⟩ := hrel
   obtain ⟨cw, ch, cx, cy⟩ := c
   have hc2 := hc
   obtain ⟨c1, c2, c3, c4, c5, c6, c7, c8⟩ := hc2
   dsimp only at *
   by_cases hlt : k < r
   ·have k1 : (k : Int) < (r : Int) := by omega
    go_wp2_with fail
    go_roundw
    case rel => exact ⟨k + 1, ⟨ch, cw, ch - 1 - cy, cx⟩, by omega, by go_num, rfl, rfl, rfl, rfl, Lib.hid (by show _ = Pp.qt _; rw [← Hc.out]; rfl), Pp.qt_ok hc, by first | rfl | trivial⟩
    case measure => simp [intOf]; omega
   ·obtain rfl : k = r := by omega
    go_wp2_with fail
    go_ret2
    exact ⟨ret_two (by rw [← Hc.out]), Below.refl _ _⟩
theorem opS_bad (a b o x y : Int) (w : World) (h : ¬ (orOk o ∧ (⟨a, b, x, y⟩ : Pp).ok)) : Calls Tryz.prog 244 #[.int .i64 a, .int .i64 b, .int .i64 o, .int .i64 x, .int .i64 y] w (TwoAns (-1, -1) w) := by
 unfold orOk Pp.ok at h
 dsimp only at h
 by_cases ha : 1 ≤ a ∧ a ≤ 16
 ·obtain ⟨a1, a2⟩ := ha
  by_cases hb : 1 ≤ b ∧ b ≤ 16
  ·obtain ⟨b1, b2⟩ := hb
   by_cases ho : 0 ≤ o ∧ o ≤ 7
   ·obtain ⟨o1, o2⟩ := ho
    by_cases hx : 0 ≤ x ∧ x ≤ a - 1
    ·obtain ⟨x1, x2⟩ := hx
     have H7 := Lib.hid (show y < 0 ∨ b - 1 < y by omega)
     clear h
     go_enter Tryz.func244, Tryz.ntmps244
     go_wp2_with (first | (go_at_call 147; (with_reducible refine (inS_yes _ _ _ _ (by omega) (by omega)).mono ?_); rintro e w' ⟨rfl, rfl⟩) | (go_at_call 147; (with_reducible refine (inS_no _ _ _ _ H7.out).mono ?_); rintro e w' ⟨rfl, rfl⟩))
     go_ret2
     exact ⟨rfl, Below.refl _ _⟩
    ·have H7 := Lib.hid (show x < 0 ∨ a - 1 < x by omega)
     clear h hx
     go_enter Tryz.func244, Tryz.ntmps244
     go_wp2_with (first | (go_at_call 147; (with_reducible refine (inS_yes _ _ _ _ (by omega) (by omega)).mono ?_); rintro e w' ⟨rfl, rfl⟩) | (go_at_call 147; (with_reducible refine (inS_no _ _ _ _ H7.out).mono ?_); rintro e w' ⟨rfl, rfl⟩))
     go_ret2
     exact ⟨rfl, Below.refl _ _⟩
   ·have H7 := Lib.hid (show o < 0 ∨ 7 < o by omega)
    clear h ho
    go_enter Tryz.func244, Tryz.ntmps244
    go_wp2_with (first | (go_at_call 147; (with_reducible refine (inS_yes _ _ _ _ (by omega) (by omega)).mono ?_); rintro e w' ⟨rfl, rfl⟩) | (go_at_call 147; (with_reducible refine (inS_no _ _ _ _ H7.out).mono ?_); rintro e w' ⟨rfl, rfl⟩))
    go_ret2
    exact ⟨rfl, Below.refl _ _⟩
  ·have H7 := Lib.hid (show b < 1 ∨ 16 < b by omega)
   clear h hb
   go_enter Tryz.func244, Tryz.ntmps244
   go_wp2_with (first | (go_at_call 147; (with_reducible refine (inS_yes _ _ _ _ (by omega) (by omega)).mono ?_); rintro e w' ⟨rfl, rfl⟩) | (go_at_call 147; (with_reducible refine (inS_no _ _ _ _ H7.out).mono ?_); rintro e w' ⟨rfl, rfl⟩))
   go_ret2
   exact ⟨rfl, Below.refl _ _⟩
 ·have H7 := Lib.hid (show a < 1 ∨ 16 < a by omega)
  clear h ha
  go_enter Tryz.func244, Tryz.ntmps244
  go_wp2_with (go_at_call 147; (with_reducible refine (inS_no _ _ _ _ H7.out).mono ?_); rintro e w' ⟨rfl, rfl⟩)
  go_ret2
  exact ⟨rfl, Below.refl _ _⟩
theorem opS (a b o x y : Int) (w : World) : Calls Tryz.prog 244 #[.int .i64 a, .int .i64 b, .int .i64 o, .int .i64 x, .int .i64 y] w (TwoAns (opM a b o x y) w) := by
 by_cases h : orOk o ∧ (⟨a, b, x, y⟩ : Pp).ok
 ·rw [op_yes h.1 h.2]; exact opS_ok a b o x y h.1 h.2 w
 ·rw [op_no h]; exact opS_bad a b o x y w h
end Go.Proofs.YtnndifemkichmaaGreat
namespace Go.Proofs.YtnndifemkichmaaGreat
open Go.RowKit
theorem scl_num {f t k : Nat} (h1 : 1 ≤ f ∧ f ≤ 16) (h2 : 1 ≤ t ∧ t ≤ 16) (h3 : k < t) :
  ∃ m q : Nat, (k : Int) * (f : Int) = (m : Int) ∧ m ≤ 256 ∧ Int.tdiv (m : Int) (t : Int) = (q : Int) ∧ (m : Int) / (t : Int) = (q : Int) ∧ sclN f t k = q ∧ q < f := by
 refine ⟨k * f, k * f / t, by simp, Nat.mul_le_mul (show k ≤ 16 by omega) h1.2, ?_, by simp, rfl, sclN_lt h1.1 h3⟩
 rw [Int.tdiv_eq_ediv_of_nonneg (by omega)]; simp
theorem scI_yes {f t k : Nat} (h1 : 1 ≤ f ∧ f ≤ 16) (h2 : 1 ≤ t ∧ t ≤ 16) (h3 : k < t) (w : World) : Calls Tryz.prog 265 #[.int .i64 f, .int .i64 t, .int .i64 k] w fun e w' => e = .returned (.int .i64 (sclN f t k : Nat)) ∧ w = w' := by
 obtain ⟨m, q, hm, m1, d1, d2, hq, q1⟩ := scl_num h1 h2 h3
 have Hq := Lib.hid hq
 obtain ⟨f1, f2⟩ := h1
 obtain ⟨t1, t2⟩ := h2
 have h0 : ¬ (t : Int) = 0 := by omega
 have hk : (k : Int) ≤ (t : Int) - 1 := by omega
 clear hq
 go_enter Tryz.func265, Tryz.ntmps265
 go_wp2_with ((go_at_call 62; (with_reducible refine (inI_yes _ _ _ _ (by omega) (by omega)).mono ?_); rintro e w' ⟨rfl, rfl⟩))
 go_ret
 exact ⟨ret_int (by rw [Hq.out]), rfl⟩
theorem scS_yes {f t k : Nat} (h1 : 1 ≤ f ∧ f ≤ 16) (h2 : 1 ≤ t ∧ t ≤ 16) (h3 : k < t) (w : World) : Calls Tryz.prog 245 #[.int .i64 f, .int .i64 t, .int .i64 k] w fun e w' => e = .returned (.int .i64 (sclN f t k : Nat)) ∧ w = w' := by
 obtain ⟨m, q, hm, m1, d1, d2, hq, q1⟩ := scl_num h1 h2 h3
 have Hq := Lib.hid hq
 obtain ⟨f1, f2⟩ := h1
 obtain ⟨t1, t2⟩ := h2
 have h0 : ¬ (t : Int) = 0 := by omega
 have hk : (k : Int) ≤ (t : Int) - 1 := by omega
 clear hq
 go_enter Tryz.func245, Tryz.ntmps245
 go_wp2_with ((go_at_call 147; (with_reducible refine (inS_yes _ _ _ _ (by omega) (by omega)).mono ?_); rintro e w' ⟨rfl, rfl⟩))
 go_ret
 exact ⟨ret_int (by rw [Hq.out]), rfl⟩
end Go.Proofs.YtnndifemkichmaaGreat
namespace Go.Proofs.YtnndifemkichmaaGreat
open Go.RowKit
theorem px_place {W H x y : Int} {L : List Int} (h : imOk W H L) (hx : 0 ≤ x ∧ x < W) (hy : 0 ≤ y ∧ y < H) :
  0 ≤ y * W ∧ y * W ≤ 240 ∧ 0 ≤ y * W + x ∧ y * W + x < (L.length : Int) ∧ L.length ≤ 256 := by
 obtain ⟨⟨s1, s2, s3, s4⟩, hl, _⟩ := h
 have m1 := sz_mul (W := W) (H := H) ⟨s1, s2, s3, s4⟩
 have h1 : 0 ≤ y * W := Int.mul_nonneg hy.1 (by omega)
 have h2 : y * W ≤ 15 * 16 := Int.mul_le_mul (by omega) s2 (by omega) (by omega)
 have h3 : (y + 1) * W ≤ H * W := Int.mul_le_mul_of_nonneg_right (by omega) (by omega)
 rw [Int.add_mul, Int.one_mul, Int.mul_comm H W] at h3
 omega
theorem pixelI (W H x y : Int) (v : Value) (L : List Int) (w : World) (h : imOk W H L) (hx : 0 ≤ x ∧ x < W) (hy : 0 ≤ y ∧ y < H) (hv : RdI w v L) :
  Calls Tryz.prog 121 #[.agg #[.int .i64 W, .int .i64 H, v], .int .i64 x, .int .i64 y] w fun e w' => e = .returned (.int .i64 (L.getD (y * W + x).toNat 0)) ∧ Below w.heap.size w w' := by
 have hv2 := hv.alloc (.cells #[.int .i64 W, .int .i64 H, v] 149)
 have hw := (Below.refl w.heap.size w).alloc (Nat.le_refl _) (.cells #[.int .i64 W, .int .i64 H, v] 149)
 obtain ⟨m0, m1, p0, p1, pn⟩ := px_place h hx hy
 obtain ⟨A, c, rfl⟩ := hv.form
 obtain ⟨m, hm⟩ := Int.eq_ofNat_of_zero_le m0
 obtain ⟨x, rfl⟩ := Int.eq_ofNat_of_zero_le hx.1
 obtain ⟨g, p, rfl, hp, hc⟩ := hv2.at_ (k := m + x) (by omega)
 have Hp : Hid (L.getD (y * W + (x : Int)).toNat 0 = p) := Lib.hid (by
  rw [show (y * W + (x : Int)).toNat = m + x by omega, List.getD_eq_getElem?_getD, hp]; rfl)
 obtain ⟨n, hn⟩ : ∃ n, n = L.length := ⟨_, rfl⟩
 rw [← hn] at p1 pn hw hc ⊢
 rw [hm] at p1 m1
 have Hw := Lib.hid hw
 clear hv hv2 hp hw hn h p0
 have hy0 := hy.1
 have hmx : (m : Int) + (x : Int) < (n : Int) := p1
 have hm2 : (m : Int) ≤ 240 := m1
 go_enter Tryz.func121, Tryz.ntmps121
 go_wp2_with fail
 go_ret
 exact ⟨ret_int Hp.out.symm, Hw.out⟩
end Go.Proofs.YtnndifemkichmaaGreat
namespace Go.Proofs.YtnndifemkichmaaGreat
open Go.RowKit
theorem over_no {p q : Int} (h : ¬ (pixOk p ∧ pixOk q)) : over p q = -1 := if_neg h
theorem over_yes {p q : Int} (hp : pixOk p) (hq : pixOk q) : over p q = overK p q := if_pos ⟨hp, hq⟩
set_option maxHeartbeats 600000 in
theorem overS_in (p q : Int) (hp : pixOk p) (hq : pixOk q) (w : World) :
  Calls Tryz.prog 178 #[.int .i64 p, .int .i64 q] w fun e w' => e = .returned (.int .i64 (over p q)) ∧ w = w' := by
 have Hn : Hid (over p q = overK p q) := over_yes hp hq
 obtain ⟨al, ha⟩ : ∃ x, x = p / 16777216 := ⟨_, rfl⟩
 obtain ⟨x1, hx1⟩ : ∃ x, x = p / 65536 % 256 := ⟨_, rfl⟩
 obtain ⟨x2, hx2⟩ : ∃ x, x = p / 256 % 256 := ⟨_, rfl⟩
 obtain ⟨x3, hx3⟩ : ∃ x, x = p % 256 := ⟨_, rfl⟩
 obtain ⟨y1, hy1⟩ : ∃ x, x = q / 65536 % 256 := ⟨_, rfl⟩
 obtain ⟨y2, hy2⟩ : ∃ x, x = q / 256 % 256 := ⟨_, rfl⟩
 obtain ⟨y3, hy3⟩ : ∃ x, x = q % 256 := ⟨_, rfl⟩
 have hal : chOk al := by rw [ha]; exact ch_0 hp
 have hbl : chOk (255 - al) := by unfold chOk at hal ⊢; omega
 have Cp0 := Lib.hid (chS_in p 0 hp (by omega) (by omega))
 have Cp1 := Lib.hid (chS_in p 1 hp (by omega) (by omega))
 have Cp2 := Lib.hid (chS_in p 2 hp (by omega) (by omega))
 have Cp3 := Lib.hid (chS_in p 3 hp (by omega) (by omega))
 have Cq1 := Lib.hid (chS_in q 1 hq (by omega) (by omega))
 have Cq2 := Lib.hid (chS_in q 2 hq (by omega) (by omega))
 have Cq3 := Lib.hid (chS_in q 3 hq (by omega) (by omega))
 rw [chan_0 hp, ← ha] at Cp0
 rw [chan_1 hp, ← hx1] at Cp1
 rw [chan_2 hp, ← hx2] at Cp2
 rw [chan_3 hp, ← hx3] at Cp3
 rw [chan_1 hq, ← hy1] at Cq1
 rw [chan_2 hq, ← hy2] at Cq2
 rw [chan_3 hq, ← hy3] at Cq3
 have k1 : chOk x1 := by rw [hx1]; exact ch_1 p
 have k2 : chOk x2 := by rw [hx2]; exact ch_2 p
 have k3 : chOk x3 := by rw [hx3]; exact ch_3 p
 have l1 : chOk y1 := by rw [hy1]; exact ch_1 q
 have l2 : chOk y2 := by rw [hy2]; exact ch_2 q
 have l3 : chOk y3 := by rw [hy3]; exact ch_3 q
 have P1 := Lib.hid (partS_ok x1 al k1 hal)
 have P2 := Lib.hid (partS_ok x2 al k2 hal)
 have P3 := Lib.hid (partS_ok x3 al k3 hal)
 have Q1 := Lib.hid (partS_ok y1 (255 - al) l1 hbl)
 have Q2 := Lib.hid (partS_ok y2 (255 - al) l2 hbl)
 have Q3 := Lib.hid (partS_ok y3 (255 - al) l3 hbl)
 obtain ⟨a1, ea1⟩ : ∃ x, x = pxPart x1 al := ⟨_, rfl⟩
 obtain ⟨a2, ea2⟩ : ∃ x, x = pxPart x2 al := ⟨_, rfl⟩
 obtain ⟨a3, ea3⟩ : ∃ x, x = pxPart x3 al := ⟨_, rfl⟩
 obtain ⟨b1, eb1⟩ : ∃ x, x = pxPart y1 (255 - al) := ⟨_, rfl⟩
 obtain ⟨b2, eb2⟩ : ∃ x, x = pxPart y2 (255 - al) := ⟨_, rfl⟩
 obtain ⟨b3, eb3⟩ : ∃ x, x = pxPart y3 (255 - al) := ⟨_, rfl⟩
 obtain ⟨a10, a11⟩ : chOk a1 := by rw [ea1]; exact part_ok k1 hal
 obtain ⟨a20, a21⟩ : chOk a2 := by rw [ea2]; exact part_ok k2 hal
 obtain ⟨a30, a31⟩ : chOk a3 := by rw [ea3]; exact part_ok k3 hal
 obtain ⟨b10, b11⟩ : chOk b1 := by rw [eb1]; exact part_ok l1 hbl
 obtain ⟨b20, b21⟩ : chOk b2 := by rw [eb2]; exact part_ok l2 hbl
 obtain ⟨b30, b31⟩ : chOk b3 := by rw [eb3]; exact part_ok l3 hbl
 rw [overK, ← ha, ← hx1, ← hx2, ← hx3, ← hy1, ← hy2, ← hy3, mixC, mixC, mixC, ← ea1, ← ea2, ← ea3, ← eb1, ← eb2, ← eb3, pack4] at Hn
 rw [← ea1] at P1
 rw [← ea2] at P2
 rw [← ea3] at P3
 rw [← eb1] at Q1
 rw [← eb2] at Q2
 rw [← eb3] at Q3
 obtain ⟨al0, al1⟩ := hal
 have Hp := Lib.hid hp
 have Hq := Lib.hid hq
 clear ha hx1 hx2 hx3 hy1 hy2 hy3 ea1 ea2 ea3 eb1 eb2 eb3 hbl k1 k2 k3 l1 l2 l3 hp hq
 go_enter Tryz.func178, Tryz.ntmps178
 go_wp2_with fail
 refine (pixS_yes p Hp.out _).mono ?_
 rintro e w' ⟨rfl, rfl⟩
 go_wp2_with fail
 refine (pixS_yes q Hq.out _).mono ?_
 rintro e w' ⟨rfl, rfl⟩
 go_wp2_with fail
 refine (Cp0.out _).mono ?_
 rintro e w' ⟨rfl, rfl⟩
 go_wp2_with fail
 go_loop [6, 7] (fun s i => (i = .int .i64 1 ∧ s = .int .i64 255) ∨ (i = .int .i64 2 ∧ s = .int .i64 (65280 + a1 + b1)) ∨ (i = .int .i64 3 ∧ s = .int .i64 ((65280 + a1 + b1) * 256 + a2 + b2)) ∨ (i = .int .i64 4 ∧ s = .int .i64 (((65280 + a1 + b1) * 256 + a2 + b2) * 256 + a3 + b3))) (fun _ i => 4 - (intOf i).toNat)
 case atStart => exact .inl ⟨rfl, rfl⟩
 case round =>
  rcases hrel with ⟨rfl, rfl⟩ | ⟨rfl, rfl⟩ | ⟨rfl, rfl⟩ | ⟨rfl, rfl⟩
  ·go_wp2_with fail
   refine (Cp1.out _).mono ?_
   rintro e w' ⟨rfl, rfl⟩
   go_wp2_with fail
   refine (P1.out _).mono ?_
   rintro e w' ⟨rfl, rfl⟩
   go_wp2_with fail
   refine (Cq1.out _).mono ?_
   rintro e w' ⟨rfl, rfl⟩
   go_wp2_with fail
   refine (Q1.out _).mono ?_
   rintro e w' ⟨rfl, rfl⟩
   go_wp2_with fail
   go_round
   case rel => exact .inr (.inl ⟨rfl, rfl⟩)
   case measure => simp [intOf]
  ·go_wp2_with fail
   refine (Cp2.out _).mono ?_
   rintro e w' ⟨rfl, rfl⟩
   go_wp2_with fail
   refine (P2.out _).mono ?_
   rintro e w' ⟨rfl, rfl⟩
   go_wp2_with fail
   refine (Cq2.out _).mono ?_
   rintro e w' ⟨rfl, rfl⟩
   go_wp2_with fail
   refine (Q2.out _).mono ?_
   rintro e w' ⟨rfl, rfl⟩
   go_wp2_with fail
   go_round
   case rel => exact .inr (.inr (.inl ⟨rfl, rfl⟩))
   case measure => simp [intOf]
  ·go_wp2_with fail
   refine (Cp3.out _).mono ?_
   rintro e w' ⟨rfl, rfl⟩
   go_wp2_with fail
   refine (P3.out _).mono ?_
   rintro e w' ⟨rfl, rfl⟩
   go_wp2_with fail
   refine (Cq3.out _).mono ?_
   rintro e w' ⟨rfl, rfl⟩
   go_wp2_with fail
   refine (Q3.out _).mono ?_
   rintro e w' ⟨rfl, rfl⟩
   go_wp2_with fail
   go_round
   case rel => exact .inr (.inr (.inr ⟨rfl, rfl⟩))
   case measure => simp [intOf]
  ·go_wp2_with fail
   go_ret
   exact ⟨ret_int (by rw [Hn.out]; omega), rfl⟩
theorem overS_any (p q : Int) (w : World) :
  Calls Tryz.prog 178 #[.int .i64 p, .int .i64 q] w fun e w' => e = .returned (.int .i64 (over p q)) ∧ w = w' := by
 by_cases hp : pixOk p
 ·by_cases hq : pixOk q
  ·exact overS_in p q hp hq w
  ·have Hn : Hid (over p q = -1) := over_no fun h => hq h.2
   have Hp := Lib.hid hp
   have Hq := Lib.hid hq
   clear hp hq
   go_enter Tryz.func178, Tryz.ntmps178
   go_wp2_with fail
   refine (pixS_yes p Hp.out _).mono ?_
   rintro e w' ⟨rfl, rfl⟩
   go_wp2_with fail
   refine (pixS_no q Hq.out _).mono ?_
   rintro e w' ⟨rfl, rfl⟩
   go_wp2
   go_ret
   exact ⟨ret_int Hn.out.symm, rfl⟩
 ·have Hn : Hid (over p q = -1) := over_no fun h => hp h.1
  have Hp := Lib.hid hp
  clear hp
  go_enter Tryz.func178, Tryz.ntmps178
  go_wp2_with fail
  refine (pixS_no p Hp.out _).mono ?_
  rintro e w' ⟨rfl, rfl⟩
  go_wp2
  go_ret
  exact ⟨ret_int Hn.out.symm, rfl⟩
end Go.Proofs.YtnndifemkichmaaGreat
namespace Go.Proofs.YtnndifemkichmaaGreat
open Go.RowKit
set_option maxHeartbeats 1000000 in
theorem overI_in (p q : Int) (hp : pixOk p) (hq : pixOk q) (w : World) :
  Calls Tryz.prog 239 #[.int .i64 p, .int .i64 q] w fun e w' => e = .returned (.int .i64 (over p q)) ∧ Below w.heap.size w w' := by
 have Hn : Hid (over p q = overK p q) := over_yes hp hq
 obtain ⟨al, ha⟩ : ∃ x, x = p / 16777216 := ⟨_, rfl⟩
 obtain ⟨x1, hx1⟩ : ∃ x, x = p / 65536 % 256 := ⟨_, rfl⟩
 obtain ⟨x2, hx2⟩ : ∃ x, x = p / 256 % 256 := ⟨_, rfl⟩
 obtain ⟨x3, hx3⟩ : ∃ x, x = p % 256 := ⟨_, rfl⟩
 obtain ⟨y0, hy0⟩ : ∃ x, x = q / 16777216 := ⟨_, rfl⟩
 obtain ⟨y1, hy1⟩ : ∃ x, x = q / 65536 % 256 := ⟨_, rfl⟩
 obtain ⟨y2, hy2⟩ : ∃ x, x = q / 256 % 256 := ⟨_, rfl⟩
 obtain ⟨y3, hy3⟩ : ∃ x, x = q % 256 := ⟨_, rfl⟩
 have hal : chOk al := by rw [ha]; exact ch_0 hp
 have hbl : chOk (255 - al) := by unfold chOk at hal ⊢; omega
 have Up := Lib.hid (unpackedI p hp)
 have Uq := Lib.hid (unpackedI q hq)
 rw [← ha, ← hx1, ← hx2, ← hx3] at Up
 rw [← hy0, ← hy1, ← hy2, ← hy3] at Uq
 have k1 : chOk x1 := by rw [hx1]; exact ch_1 p
 have k2 : chOk x2 := by rw [hx2]; exact ch_2 p
 have k3 : chOk x3 := by rw [hx3]; exact ch_3 p
 have l1 : chOk y1 := by rw [hy1]; exact ch_1 q
 have l2 : chOk y2 := by rw [hy2]; exact ch_2 q
 have l3 : chOk y3 := by rw [hy3]; exact ch_3 q
 have M1 : Hid (chOk (mixC x1 y1 al)) := mix_ok k1 l1 hal
 have M2 : Hid (chOk (mixC x2 y2 al)) := mix_ok k2 l2 hal
 have M3 : Hid (chOk (mixC x3 y3 al)) := mix_ok k3 l3 hal
 have P1 := Lib.hid (partI_ok x1 al k1 hal)
 have P2 := Lib.hid (partI_ok x2 al k2 hal)
 have P3 := Lib.hid (partI_ok x3 al k3 hal)
 have Q1 := Lib.hid (partI_ok y1 (255 - al) l1 hbl)
 have Q2 := Lib.hid (partI_ok y2 (255 - al) l2 hbl)
 have Q3 := Lib.hid (partI_ok y3 (255 - al) l3 hbl)
 obtain ⟨a1, ea1⟩ : ∃ x, x = pxPart x1 al := ⟨_, rfl⟩
 obtain ⟨a2, ea2⟩ : ∃ x, x = pxPart x2 al := ⟨_, rfl⟩
 obtain ⟨a3, ea3⟩ : ∃ x, x = pxPart x3 al := ⟨_, rfl⟩
 obtain ⟨b1, eb1⟩ : ∃ x, x = pxPart y1 (255 - al) := ⟨_, rfl⟩
 obtain ⟨b2, eb2⟩ : ∃ x, x = pxPart y2 (255 - al) := ⟨_, rfl⟩
 obtain ⟨b3, eb3⟩ : ∃ x, x = pxPart y3 (255 - al) := ⟨_, rfl⟩
 obtain ⟨a10, a11⟩ : chOk a1 := by rw [ea1]; exact part_ok k1 hal
 obtain ⟨a20, a21⟩ : chOk a2 := by rw [ea2]; exact part_ok k2 hal
 obtain ⟨a30, a31⟩ : chOk a3 := by rw [ea3]; exact part_ok k3 hal
 obtain ⟨b10, b11⟩ : chOk b1 := by rw [eb1]; exact part_ok l1 hbl
 obtain ⟨b20, b21⟩ : chOk b2 := by rw [eb2]; exact part_ok l2 hbl
 obtain ⟨b30, b31⟩ : chOk b3 := by rw [eb3]; exact part_ok l3 hbl
 rw [overK, ← ha, ← hx1, ← hx2, ← hx3, ← hy1, ← hy2, ← hy3, mixC, mixC, mixC, ← ea1, ← ea2, ← ea3, ← eb1, ← eb2, ← eb3] at Hn
 rw [mixC, ← ea1, ← eb1] at M1
 rw [mixC, ← ea2, ← eb2] at M2
 rw [mixC, ← ea3, ← eb3] at M3
 rw [← ea1] at P1
 rw [← ea2] at P2
 rw [← ea3] at P3
 rw [← eb1] at Q1
 rw [← eb2] at Q2
 rw [← eb3] at Q3
 obtain ⟨al0, al1⟩ := hal
 have Hp := Lib.hid hp
 have Hq := Lib.hid hq
 have s1 : IntKind.i64.wrap (a1 + b1) = a1 + b1 := IntWalk.i64_in _ (by omega)
 have s2 : IntKind.i64.wrap (a2 + b2) = a2 + b2 := IntWalk.i64_in _ (by omega)
 have s3 : IntKind.i64.wrap (a3 + b3) = a3 + b3 := IntWalk.i64_in _ (by omega)
 have s4 : IntKind.i64.wrap (255 - al) = 255 - al := IntWalk.i64_in _ (by omega)
 clear ha hx1 hx2 hx3 hy0 hy1 hy2 hy3 ea1 ea2 ea3 eb1 eb2 eb3 hbl k1 k2 k3 l1 l2 l3 hp hq
 go_enter Tryz.func239, Tryz.ntmps239
 go_wp2_with fail
 refine (pixI_yes p Hp.out _).mono ?_
 rintro e w' ⟨rfl, rfl⟩
 go_wp2_with fail
 refine (pixI_yes q Hq.out _).mono ?_
 rintro e w' ⟨rfl, rfl⟩
 go_wp2_with fail
 refine (Up.out _).mono ?_
 rintro e w1 ⟨rfl, K⟩
 go_wp2_with fail
 refine (Uq.out _).mono ?_
 rintro e w2 ⟨rfl, hb⟩
 replace K := px_call K hb
 have hlw := K.size
 clear hb
 go_wp2_with fail
 go_loopw [9] (fun i wr => ∃ (k : Nat) (m1 m2 m3 : Int), 1 ≤ k ∧ k ≤ 4 ∧ i = .int .i64 k ∧ Hid ((1 < k → m1 = a1 + b1) ∧ (2 < k → m2 = a2 + b2) ∧ (3 < k → m3 = a3 + b3)) ∧
  ChAt wr w2.heap.size al x1 x2 x3 ∧ ChAt wr (w2.heap.size + 1) y0 y1 y2 y3 ∧ ChAt wr (w2.heap.size + 1 + 1) 255 m1 m2 m3 ∧ Below w.heap.size w wr) (fun i _ => 4 - (intOf i).toNat)
 case atStart =>
  exact ⟨1, 0, 0, 0, by omega, by omega, rfl, ⟨fun h => by omega, fun h => by omega, fun h => by omega⟩, ((ChAt.new w2 al x1 x2 x3).alloc _).alloc _, (ChAt.newAt (by simp) y0 y1 y2 y3).alloc _, ChAt.newAt (by simp) 255 0 0 0,
   ((K.alloc K.size _).alloc (by simp; omega) _).alloc (by simp; omega) _⟩
 case round =>
  clear K
  obtain ⟨k, m1, m2, m3, hk0, hk, rfl, Hm, hU, hL, hM, K⟩ := hrel
  have hsz := hM.lt
  have mf := hM.frozen
  have hsz1 := hL.lt
  have hsz0 := hU.lt
  obtain ⟨u0, u1, u2, u3⟩ := hU.cells
  obtain ⟨v0, v1, v2, v3⟩ := hL.cells
  obtain ⟨n0, n1, n2, n3⟩ := hM.cells
  have HU := Lib.hid hU
  have HL := Lib.hid hL
  have HM := Lib.hid hM
  have HK := Lib.hid K
  clear hU hL hM K
  obtain rfl | rfl | rfl | rfl : k = 1 ∨ k = 2 ∨ k = 3 ∨ k = 4 := by omega
  ·have P := P1
   have Q := Q1
   clear P1 P2 P3 Q1 Q2 Q3
   clear u0 u2 u3 v0 v2 v3
   go_wp2_with fail
   go_region_held3 (fun w' => w'.cell? ⟨w2.heap.size, 1, none⟩ = some (.int .i64 x1) ∧ w'.cell? ⟨w2.heap.size + 1, 1, none⟩ = some (.int .i64 y1))
    (first | exact ⟨((HU.out.far (p := ⟨w2.heap.size + 1 + 1, 1, none⟩) (by show w2.heap.size ≠ w2.heap.size + 1 + 1; omega) _).drew.cells).2.1, ((HL.out.far (p := ⟨w2.heap.size + 1 + 1, 1, none⟩) (by show w2.heap.size + 1 ≠ w2.heap.size + 1 + 1; omega) _).drew.cells).2.1⟩ | go_keep | fail)
    (first | (go_at_call 256; (with_reducible refine (P.out _).mono ?_); rintro e w' ⟨rfl, rfl⟩) | (go_at_call 256; (with_reducible refine (Q.out _).mono ?_); rintro e w' ⟨rfl, rfl⟩))
   all_goals
    go_wp2_with fail
    go_roundw
    case rel => exact ⟨2, _, m2, m3, by omega, by omega, rfl, ⟨fun _ => rfl, fun h => by omega, fun h => by omega⟩, HU.out.drew.far (by show w2.heap.size ≠ w2.heap.size + 1 + 1; omega) _, HL.out.drew.far (by show w2.heap.size + 1 ≠ w2.heap.size + 1 + 1; omega) _, HM.out.drew.set1 _, HK.out.drew.setCell (by simp; omega) _⟩
    case measure => simp [intOf]
  ·have P := P2
   have Q := Q2
   clear P1 P2 P3 Q1 Q2 Q3
   clear u0 u1 u3 v0 v1 v3
   go_wp2_with fail
   go_region_held3 (fun w' => w'.cell? ⟨w2.heap.size, 2, none⟩ = some (.int .i64 x2) ∧ w'.cell? ⟨w2.heap.size + 1, 2, none⟩ = some (.int .i64 y2))
    (first | exact ⟨((HU.out.far (p := ⟨w2.heap.size + 1 + 1, 2, none⟩) (by show w2.heap.size ≠ w2.heap.size + 1 + 1; omega) _).drew.cells).2.2.1, ((HL.out.far (p := ⟨w2.heap.size + 1 + 1, 2, none⟩) (by show w2.heap.size + 1 ≠ w2.heap.size + 1 + 1; omega) _).drew.cells).2.2.1⟩ | go_keep | fail)
    (first | (go_at_call 256; (with_reducible refine (P.out _).mono ?_); rintro e w' ⟨rfl, rfl⟩) | (go_at_call 256; (with_reducible refine (Q.out _).mono ?_); rintro e w' ⟨rfl, rfl⟩))
   all_goals
    go_wp2_with fail
    go_roundw
    case rel => exact ⟨3, m1, _, m3, by omega, by omega, rfl, ⟨fun _ => Hm.out.1 (by omega), fun _ => rfl, fun h => by omega⟩, HU.out.drew.far (by show w2.heap.size ≠ w2.heap.size + 1 + 1; omega) _, HL.out.drew.far (by show w2.heap.size + 1 ≠ w2.heap.size + 1 + 1; omega) _, HM.out.drew.set2 _, HK.out.drew.setCell (by simp; omega) _⟩
    case measure => simp [intOf]
  ·have P := P3
   have Q := Q3
   clear P1 P2 P3 Q1 Q2 Q3
   clear u0 u1 u2 v0 v1 v2
   go_wp2_with fail
   go_region_held3 (fun w' => w'.cell? ⟨w2.heap.size, 3, none⟩ = some (.int .i64 x3) ∧ w'.cell? ⟨w2.heap.size + 1, 3, none⟩ = some (.int .i64 y3))
    (first | exact ⟨((HU.out.far (p := ⟨w2.heap.size + 1 + 1, 3, none⟩) (by show w2.heap.size ≠ w2.heap.size + 1 + 1; omega) _).drew.cells).2.2.2, ((HL.out.far (p := ⟨w2.heap.size + 1 + 1, 3, none⟩) (by show w2.heap.size + 1 ≠ w2.heap.size + 1 + 1; omega) _).drew.cells).2.2.2⟩ | go_keep | fail)
    (first | (go_at_call 256; (with_reducible refine (P.out _).mono ?_); rintro e w' ⟨rfl, rfl⟩) | (go_at_call 256; (with_reducible refine (Q.out _).mono ?_); rintro e w' ⟨rfl, rfl⟩))
   all_goals
    go_wp2_with fail
    go_roundw
    case rel => exact ⟨4, m1, m2, _, by omega, by omega, rfl, ⟨fun _ => Hm.out.1 (by omega), fun _ => Hm.out.2.1 (by omega), fun _ => rfl⟩, HU.out.drew.far (by show w2.heap.size ≠ w2.heap.size + 1 + 1; omega) _, HL.out.drew.far (by show w2.heap.size + 1 ≠ w2.heap.size + 1 + 1; omega) _, HM.out.drew.set3 _, HK.out.drew.setCell (by simp; omega) _⟩
    case measure => simp [intOf]
  ·obtain rfl : m1 = a1 + b1 := Hm.out.1 (by omega)
   obtain rfl : m2 = a2 + b2 := Hm.out.2.1 (by omega)
   obtain rfl : m3 = a3 + b3 := Hm.out.2.2 (by omega)
   go_wp2_with fail
   refine (packedI 255 _ _ _ ch_255 M1.out M2.out M3.out _).mono ?_
   rintro e w3 ⟨rfl, hb⟩
   go_wp2_with fail
   go_ret
   exact ⟨ret_int Hn.out.symm, px_call HK.out hb⟩
theorem overI_any (p q : Int) (w : World) :
  Calls Tryz.prog 239 #[.int .i64 p, .int .i64 q] w fun e w' => e = .returned (.int .i64 (over p q)) ∧ Below w.heap.size w w' := by
 by_cases hp : pixOk p
 ·by_cases hq : pixOk q
  ·exact overI_in p q hp hq w
  ·have Hn : Hid (over p q = -1) := over_no fun h => hq h.2
   have Hp := Lib.hid hp
   have Hq := Lib.hid hq
   clear hp hq
   go_enter Tryz.func239, Tryz.ntmps239
   go_wp2_with fail
   refine (pixI_yes p Hp.out _).mono ?_
   rintro e w' ⟨rfl, rfl⟩
   go_wp2_with fail
   refine (pixI_no q Hq.out _).mono ?_
   rintro e w' ⟨rfl, rfl⟩
   go_wp2
   go_ret
   exact ⟨ret_int Hn.out.symm, Below.refl _ _⟩
 ·have Hn : Hid (over p q = -1) := over_no fun h => hp h.1
  have Hp := Lib.hid hp
  clear hp
  go_enter Tryz.func239, Tryz.ntmps239
  go_wp2_with fail
  refine (pixI_no p Hp.out _).mono ?_
  rintro e w' ⟨rfl, rfl⟩
  go_wp2
  go_ret
  exact ⟨ret_int Hn.out.symm, Below.refl _ _⟩
end Go.Proofs.YtnndifemkichmaaGreat
namespace Go.Proofs.YtnndifemkichmaaGreat
open Go.RowKit
theorem and1 (x : Int) : bits .and .i64 x 1 = x % 2 := by
 show IntKind.i64.wrap ((BitVec.ofInt 64 x &&& BitVec.ofInt 64 1).toNat : Int) = _
 rw [BitVec.toNat_and, BitVec.toNat_ofInt, show (BitVec.ofInt 64 1).toNat = 1 from rfl, Nat.and_one_is_mod]
 rw [Go.Lib.wrap_i64_small _ (by omega)]
 omega
def thr (x y : Int) : Int := if x % 2 = 0 then (if y % 2 = 0 then 0 else 3) else (if y % 2 = 0 then 2 else 1)
theorem thr_bd (x y : Int) : 0 ≤ thr x y ∧ thr x y ≤ 3 := by unfold thr; split <;> split <;> omega
def lev (v t : Int) : Int := (252 * v + 255 * t) / 1020
theorem lev_bd {v t : Int} (h : chOk v) (h0 : 0 ≤ t) (h1 : t ≤ 3) : 0 ≤ lev v t ∧ lev v t ≤ 63 := by
 unfold chOk at h; unfold lev; omega
def levV (v x y : Int) : Int := if chOk v then lev v (thr x y) else -1
theorem levV_yes {v : Int} (h : chOk v) (x y : Int) : levV v x y = lev v (thr x y) := if_pos h
theorem levV_no {v : Int} (h : ¬ chOk v) (x y : Int) : levV v x y = -1 := if_neg h
def dotK (p t : Int) : Int := lev (p / 65536 % 256) t * 4096 + lev (p / 256 % 256) t * 64 + lev (p % 256) t
def dotV (p x y : Int) : Int := if pixOk p then dotK p (thr x y) else -1
theorem dotV_yes {p : Int} (h : pixOk p) (x y : Int) : dotV p x y = dotK p (thr x y) := if_pos h
theorem dotV_no {p : Int} (h : ¬ pixOk p) (x y : Int) : dotV p x y = -1 := if_neg h
def ditL (W H : Int) (L : List Int) : List Int := tabI (W * H).toNat (fun k => dotV (L.getD k 0) ((k : Int) % W) ((k : Int) / W))
noncomputable def ditA (W H : Int) (L : List Int) : List Int := @ite _ (imOk W H L) (Classical.propDecidable _) (ditL W H L) []
theorem ditA_yes {W H : Int} {L : List Int} (h : imOk W H L) : ditA W H L = ditL W H L := by unfold ditA; exact if_pos h
theorem ditA_no {W H : Int} {L : List Int} (h : ¬ imOk W H L) : ditA W H L = [] := by unfold ditA; exact if_neg h
theorem ditL_len (W H : Int) (L : List Int) : (ditL W H L).length = (W * H).toNat := tabI_length _ _
theorem ditA_len (W H : Int) (L : List Int) : (ditA W H L).length ≤ L.length := by
 by_cases h : imOk W H L
 ·rw [ditA_yes h, ditL_len]; have := h.2.1; omega
 ·rw [ditA_no h]; simp
end Go.Proofs.YtnndifemkichmaaGreat
