/- The contract of impl.MakePixel, impl.Fade. No statement is proved here. -/
import Derived.Test.YtfehdcenmncbpaaBase
import Derived.Test.YtfehdcenmncbpaaRectC
import Derived.Test.YtfehdcenmncbpaaPixM
import Derived.Test.YtfehdcenmncbpaaPixC
import Derived.Test.YtfehdcenmncbpaaPixS
import Derived.Test.YtfehdcenmncbpaaPixI
import Derived.Test.YtfehdcenmncbpaaPixA
import Derived.Test.YtfehdcenmncbpaaProg
import Derived.WalkKit
import Derived.ProofKit
import Derived.OpenShut
import Derived.WalkLawsBesides
import Derived.WalkSpells
import Derived.ShutString
import Derived.ChangeOld
import Derived.Below
import Derived.Lib.Hide
import Derived.Laws.BitsAllLaws
import Derived.Lib.QuoteBits
import Derived.Deep.RegionHeld3
import Derived.ChangeKeysEq
namespace Go.Proofs.Ytfehdcenmncbpaa
open Go.RowKit
theorem cells_int : Try.prog.cellsOf 3 = 1 := by kernel_rfl
theorem info_int : ∃ i, Try.prog.info? 3 = some i := Option.isSome_iff_exists.1 (by kernel_rfl)
theorem eq_int' (d : Nat) (x a : Int) (W : World) : (Op.equalIn (d + 1) 3 (.int .i64 x) (.int .i64 a)).run Try.prog W = .ok (x == a) W := by
  simp [Op.equalIn, run_underlying Try.underlying3, go_sem]
theorem eq_int (x a : Int) (W : World) : (Op.equalIn 9999 3 (.int .i64 x) (.int .i64 a)).run Try.prog W = .ok (x == a) W := eq_int' 9998 x a W
theorem part0 (a b c d : Value) (W : World) : (Go.part 3 #[a, b, c, d] 0).run Try.prog W = .ok a W := by kernel_rfl
theorem part1 (a b c d : Value) (W : World) : (Go.part 3 #[a, b, c, d] 1).run Try.prog W = .ok b W := by kernel_rfl
theorem part2 (a b c d : Value) (W : World) : (Go.part 3 #[a, b, c, d] 2).run Try.prog W = .ok c W := by kernel_rfl
theorem part3 (a b c d : Value) (W : World) : (Go.part 3 #[a, b, c, d] 3).run Try.prog W = .ok d W := by kernel_rfl
theorem eq_ch (x0 x1 x2 x3 a r g b : Int) (W : World) : (Op.equalIn 10000 78 (.agg #[.int .i64 x0, .int .i64 x1, .int .i64 x2, .int .i64 x3]) (.agg #[.int .i64 a, .int .i64 r, .int .i64 g, .int .i64 b])).run Try.prog W =
    .ok (x0 == a && (x1 == r && (x2 == g && x3 == b))) W := by
  obtain ⟨i, hi⟩ := info_int
  rw [show (10000 : Nat) = 9999 + 1 from rfl, run_equalIn_array W 9999 _ _ Try.underlying78 hi, cells_int]
  simp only [show List.range 4 = [0, 1, 2, 3] from rfl, Op.eqItems, Nat.mul_one, Sem.run_bind, part0, eq_int, Result.andThen_ok]
  by_cases h0 : x0 = a <;> by_cases h1 : x1 = r <;> by_cases h2 : x2 = g <;> by_cases h3 : x3 = b <;> simp [h0, h1, h2, h3, eq_int, part1, part2, part3]
theorem clC_iff (x : Int) : clC x = x ↔ chOk x := ⟨fun h => Classical.byContradiction fun hn => clC_no hn h, clC_ok⟩
theorem cl_eq (a r g b : Int) : (clC a == a && (clC r == r && (clC g == g && clC b == b))) = decide (chOk a ∧ chOk r ∧ chOk g ∧ chOk b) := by
  rw [Bool.eq_iff_iff]
  simp [clC_iff]
/-- Whether four numbers are channels. -/
def chsB (a r g b : Int) : Bool := decide (chOk a ∧ chOk r ∧ chOk g ∧ chOk b)
theorem areChI (a r g b : Int) (w : World) :
    Calls Try.prog 70 #[.agg #[.int .i64 a, .int .i64 r, .int .i64 g, .int .i64 b]] w fun e w' => e = .returned (.bool (chsB a r g b)) ∧ Below w.heap.size w w' := by
  have heq := eq_ch (clC a) (clC r) (clC g) (clC b) a r g b
  rw [cl_eq] at heq
  obtain ⟨q, hq⟩ : ∃ q, q = chsB a r g b := ⟨_, rfl⟩
  have hq' : decide (chOk a ∧ chOk r ∧ chOk g ∧ chOk b) = q := hq.symm
  rw [hq'] at heq
  rw [← hq]
  have HI := Lib.hid (clampedI a r g b)
  have hG : ChAt (w.alloc (.cells #[.int .i64 a, .int .i64 r, .int .i64 g, .int .i64 b] 78)) w.heap.size a r g b := ChAt.new w a r g b
  have K := (Below.refl w.heap.size w).alloc (Nat.le_refl _) (.cells #[.int .i64 a, .int .i64 r, .int .i64 g, .int .i64 b] 78)
  obtain ⟨d0, d1, d2, d3⟩ := hG.cells
  clear hq hq'
  cases q
  all_goals
    go_enter Try.func70, Try.ntmps70
    go_wp2_with fail
    go_region_held3 (fun w' => w'.cell? ⟨w.heap.size, 0, none⟩ = some (.int .i64 a) ∧ w'.cell? ⟨w.heap.size, 1, none⟩ = some (.int .i64 r) ∧ w'.cell? ⟨w.heap.size, 2, none⟩ = some (.int .i64 g) ∧ w'.cell? ⟨w.heap.size, 3, none⟩ = some (.int .i64 b))
      (with_reducible first | exact hG.cells | exact hG.drew.cells | fail)
      (first | (go_at_call 94; (with_reducible refine (HI.out _).mono ?_); rintro e w1 ⟨rfl, hb⟩; replace hG := hG.call hb; replace K := px_call K hb) | (go_at_call 94; (with_reducible refine (HI.out _).mono ?_); rintro e w1 ⟨rfl, hb⟩; replace hG := hG.drew.call hb; replace K := px_call K.drew hb))
    all_goals
      clear d0 d1 d2 d3 heq
      go_wp2_with fail
      go_ret
      exact ⟨rfl, K⟩
theorem mkI_any (a r g b : Int) (w : World) :
    Calls Try.prog 42 #[.int .i64 a, .int .i64 r, .int .i64 g, .int .i64 b] w fun e w' => e = .returned (.int .i64 (mkPix a r g b)) ∧ Below w.heap.size w w' := by
  have HI := Lib.hid (areChI a r g b)
  have hG : ChAt (w.alloc (.cells #[.int .i64 a, .int .i64 r, .int .i64 g, .int .i64 b] 78)) w.heap.size a r g b := ChAt.new w a r g b
  have K := (Below.refl w.heap.size w).alloc (Nat.le_refl _) (.cells #[.int .i64 a, .int .i64 r, .int .i64 g, .int .i64 b] 78)
  obtain ⟨d0, d1, d2, d3⟩ := hG.cells
  by_cases hk : chOk a ∧ chOk r ∧ chOk g ∧ chOk b
  · rw [show chsB a r g b = true from decide_eq_true hk] at HI
    have Hk := Lib.hid hk
    clear hk
    go_enter Try.func42, Try.ntmps42
    go_wp2_with fail
    refine (HI.out _).mono ?_
    rintro e w1 ⟨rfl, hb⟩
    replace hG := hG.call hb
    replace K := px_call K hb
    clear d0 d1 d2 d3 hb
    obtain ⟨d0, d1, d2, d3⟩ := hG.cells
    go_wp2_with fail
    refine (packedI a r g b Hk.out.1 Hk.out.2.1 Hk.out.2.2.1 Hk.out.2.2.2 _).mono ?_
    rintro e w2 ⟨rfl, hb2⟩
    go_wp2_with fail
    go_ret
    exact ⟨ret_int (mk_yes Hk.out.1 Hk.out.2.1 Hk.out.2.2.1 Hk.out.2.2.2).symm, px_call K hb2⟩
  · rw [show chsB a r g b = false from decide_eq_false hk] at HI
    have Hk := Lib.hid hk
    clear hk
    go_enter Try.func42, Try.ntmps42
    go_wp2_with fail
    refine (HI.out _).mono ?_
    rintro e w1 ⟨rfl, hb⟩
    replace K := px_call K hb
    go_wp2_with fail
    go_ret
    exact ⟨ret_int (mk_no Hk.out).symm, K⟩
theorem fadeI_in (p al : Int) (hp : pixOk p) (ha : chOk al) (w : World) :
    Calls Try.prog 45 #[.int .i64 p, .int .i64 al] w fun e w' => e = .returned (.int .i64 (fade p al)) ∧ Below w.heap.size w w' := by
  have Hn : Hid (fade p al = fadeK p al) := if_pos ⟨hp, ha⟩
  obtain ⟨c0, h0⟩ : ∃ x, x = p / 16777216 := ⟨_, rfl⟩
  obtain ⟨c1, h1⟩ : ∃ x, x = p / 65536 % 256 := ⟨_, rfl⟩
  obtain ⟨c2, h2⟩ : ∃ x, x = p / 256 % 256 := ⟨_, rfl⟩
  obtain ⟨c3, h3⟩ : ∃ x, x = p % 256 := ⟨_, rfl⟩
  have HU := Lib.hid (unpackedI p hp)
  have Hc0 : Hid (chOk c0) := by rw [h0]; exact ch_0 hp
  have Hc1 : Hid (chOk c1) := by rw [h1]; exact ch_1 p
  have Hc2 : Hid (chOk c2) := by rw [h2]; exact ch_2 p
  have Hc3 : Hid (chOk c3) := by rw [h3]; exact ch_3 p
  rw [fadeK, ← h0, ← h1, ← h2, ← h3] at Hn
  rw [← h0, ← h1, ← h2, ← h3] at HU
  have HP := Lib.hid (partI_ok c0 al Hc0.out ha)
  have Hx := Lib.hid (part_ok Hc0.out ha)
  obtain ⟨x, hx⟩ : ∃ x, x = pxPart c0 al := ⟨_, rfl⟩
  rw [← hx] at HP Hn Hx
  have Hp := Lib.hid hp
  have Ha := Lib.hid ha
  clear h0 h1 h2 h3 hx hp ha
  go_enter Try.func45, Try.ntmps45
  go_wp2_with fail
  refine (pixI_yes p Hp.out _).mono ?_
  rintro e w' ⟨rfl, rfl⟩
  go_wp2_with fail
  refine (inI_yes _ 0 255 _ Ha.out.1 Ha.out.2).mono ?_
  rintro e w' ⟨rfl, rfl⟩
  go_wp2_with fail
  refine (HU.out _).mono ?_
  rintro e w1 ⟨rfl, K⟩
  go_wp2_with fail
  refine (HP.out _).mono ?_
  rintro e w' ⟨rfl, rfl⟩
  go_wp2_with fail
  refine (packedI x c1 c2 c3 Hx.out Hc1.out Hc2.out Hc3.out _).mono ?_
  rintro e w2 ⟨rfl, hb⟩
  go_wp2_with fail
  go_ret
  exact ⟨ret_int Hn.out.symm, px_call (by repeat first | exact K | refine Below.setCell ?_ (by have := K.size; first | (simp; done) | (simp; omega)) _ | refine Below.alloc ?_ (by have := K.size; first | (simp; done) | (simp; omega)) _) hb⟩
theorem fadeI_any (p al : Int) (w : World) :
    Calls Try.prog 45 #[.int .i64 p, .int .i64 al] w fun e w' => e = .returned (.int .i64 (fade p al)) ∧ Below w.heap.size w w' := by
  by_cases hp : pixOk p
  · by_cases ha : chOk al
    · exact fadeI_in p al hp ha w
    · have Hn : Hid (fade p al = -1) := if_neg fun h => ha h.2
      have Hp := Lib.hid hp
      have Ha := Lib.hid ha
      clear hp ha
      go_enter Try.func45, Try.ntmps45
      go_wp2_with fail
      refine (pixI_yes p Hp.out _).mono ?_
      rintro e w' ⟨rfl, rfl⟩
      go_wp2_with fail
      refine (inI_no _ 0 255 _ (ch_no Ha.out)).mono ?_
      rintro e w' ⟨rfl, rfl⟩
      go_wp2
      go_ret
      exact ⟨ret_int Hn.out.symm, Below.refl _ _⟩
  · have Hn : Hid (fade p al = -1) := if_neg fun h => hp h.1
    have Hp := Lib.hid hp
    clear hp
    go_enter Try.func45, Try.ntmps45
    go_wp2_with fail
    refine (pixI_no p Hp.out _).mono ?_
    rintro e w' ⟨rfl, rfl⟩
    go_wp2
    go_ret
    exact ⟨ret_int Hn.out.symm, Below.refl _ _⟩
end Go.Proofs.Ytfehdcenmncbpaa
