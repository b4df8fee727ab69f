/- The contracts of spec.l01Figure and spec.EncodeHex. No statement is proved here. -/
import Derived.Test.YteichodalcdbcaaBase
import Derived.BigQuiet
import Derived.Deep.QuietTactic
import Derived.Maps.AppendAt
import Derived.StillTailTactics
import Derived.Lib.UnsafeStr
import Derived.Laws.IdiomStrings
import Derived.Laws.BytesArg
import Derived.OwnWalk
import Derived.Handy
import Derived.Deep.RegionHeld3
import Derived.Deep.AppendLies
import Derived.Deep.DrawnRows
namespace Go.Proofs.Yteichodalcdbcaa
open Go.RowKit

/-- the digit of a number from 0 to 15 -/
def fig (x : Nat) : UInt8 := if x < 10 then (48 + x).toUInt8 else (87 + x).toUInt8
def hexOf (l : List UInt8) : List UInt8 := l.flatMap fun c => [fig (c.toNat / 16), fig (c.toNat % 16)]

theorem figS (x : Int) (h0 : 0 ≤ x) (h1 : x < 16) (w : World) :
    Calls Try.prog 25 #[.int .i64 x] w fun e w' => e = .returned (.int .u8 (fig x.toNat).toNat) ∧ w = w' := by
  obtain ⟨k, rfl⟩ := Int.eq_ofNat_of_zero_le h0
  by_cases h : k < 10
  · go_enter Try.func25, Try.ntmps25
    go_wp2
    go_ret
    refine ⟨ret_int ?_, rfl⟩
    unfold fig
    simp [h]
    omega
  · go_enter Try.func25, Try.ntmps25
    go_wp2
    go_ret
    refine ⟨ret_int ?_, rfl⟩
    unfold fig
    simp [h]
    omega

theorem figHi (c : UInt8) (w : World) : Calls Try.prog 25 #[.int .i64 ((c.toNat : Int) / 16)] w fun e w' => e = .returned (.int .u8 (fig (c.toNat / 16)).toNat) ∧ w = w' := by
  have h : c.toNat < 256 := c.toNat_lt
  exact figS ((c.toNat : Int) / 16) (by omega) (by omega) w
theorem figLo (c : UInt8) (w : World) : Calls Try.prog 25 #[.int .i64 ((c.toNat : Int) % 16)] w fun e w' => e = .returned (.int .u8 (fig (c.toNat % 16)).toNat) ∧ w = w' := by
  have h : c.toNat < 256 := c.toNat_lt
  exact figS ((c.toNat : Int) % 16) (by omega) (by omega) w
theorem figHiW (c : UInt8) (w : World) : Calls Try.prog 25 #[.int .i64 (IntKind.i64.wrap ((IntKind.i64.wrap (c.toNat : Int)).tdiv 16))] w fun e w' => e = .returned (.int .u8 (fig (c.toNat / 16)).toNat) ∧ w = w' := by
  have h : c.toNat < 256 := c.toNat_lt
  have e1 : IntKind.i64.wrap (c.toNat : Int) = c.toNat := IntWalk.i64_in _ (by omega)
  rw [e1, Int.tdiv_eq_ediv_of_nonneg (by omega), IntWalk.i64_in _ (by omega)]; exact figHi c w
theorem figLoW (c : UInt8) (w : World) : Calls Try.prog 25 #[.int .i64 ((IntKind.i64.wrap (c.toNat : Int)).tmod 16)] w fun e w' => e = .returned (.int .u8 (fig (c.toNat % 16)).toNat) ∧ w = w' := by
  have h : c.toNat < 256 := c.toNat_lt
  have e1 : IntKind.i64.wrap (c.toNat : Int) = c.toNat := IntWalk.i64_in _ (by omega)
  rw [e1, Int.tmod_eq_emod_of_nonneg (by omega)]; exact figLo c w
theorem infoByte : (Try.prog.info? 5).map (fun i => (i.zero, i.size, i.bytes)) = some (some (.int .u8 0), 1, 1) := by kernel_rfl

theorem hexOf_snoc (l : List UInt8) (c : UInt8) : hexOf (l ++ [c]) = hexOf l ++ [fig (c.toNat / 16), fig (c.toNat % 16)] := by simp [hexOf]
theorem take_snoc (s : ByteArray) (k : Nat) (h : k < s.size) : s.data.toList.take (k + 1) = s.data.toList.take k ++ [s[k]] := by
  rw [List.take_succ_eq_append_getElem (by simpa using h)]; rfl
theorem hexCells_snoc (s : ByteArray) (k : Nat) (h : k < s.size) : Lib.byteCells (hexOf (s.data.toList.take (k + 1))) = Lib.byteCells (hexOf (s.data.toList.take k)) ++ [.int .u8 (fig (s[k].toNat / 16)).toNat, .int .u8 (fig (s[k].toNat % 16)).toNat] := by
  rw [take_snoc s k h, hexOf_snoc]; simp [Lib.byteCells]

theorem hexOf_length (l : List UInt8) : (hexOf l).length = 2 * l.length := by
  induction l with
  | nil => rfl
  | cons c l ih => simp [hexOf] at ih ⊢; omega

/-- 'string(b)' of a row of the call's own. -/
theorem conv_own {P : Program} (w : World) (src dst e : TypeId) (hs : P.underlying src = some (.slice e)) (he : P.underlying e = some (.int .u8)) (hd : P.underlying dst = some .string)
    {base n : Nat} {v : Value} {l : List UInt8} (hown : w.ownsRow base e 1 v n (Lib.byteCells l)) (hn : l.length = n) : (convert src dst v).run P w = .ok (.string ⟨l.toArray⟩) w := by
  subst hn
  rcases hown.2 with ⟨rfl, h0⟩ | ⟨g, cap, cur, rfl, -, -, -, -, -, -⟩
  · have : l = [] := List.eq_nil_of_length_eq_zero h0
    subst this
    exact run_convert_bytes_nil w src e hs he 0 0 dst hd
  · exact run_convert_bytes_back (P := P) w src dst e ⟨g, 0, none⟩ cap l hs he hd (fun j hj => hown.cells (g := g) rfl j _ (by simp [Lib.byteCells, hj]))

def EncOut (s : ByteArray) (w : World) (e : Ending) (w' : World) : Prop :=
  e = .returned (.tuple #[.string ⟨(hexOf s.data.toList).toArray⟩, .bool true]) ∧ Below w.heap.size w w'

set_option maxHeartbeats 1000000 in
set_option maxRecDepth 100000 in
theorem encS (s : ByteArray) (hs : s.size ≤ 20000) (w : World) :
    Calls Try.prog 11 #[.string s] w (EncOut s w) := by
  obtain ⟨i0, hi, hz0, hz1, hz2⟩ := info_parts infoByte
  go_enter Try.func11, Try.ntmps11
  go_wp2_with fail
  go_loopw [4, 5] (fun v i wr => ∃ k : Nat, k ≤ s.size ∧ i = .int .i64 k ∧ wr.ownsRow w.heap.size 5 1 v (2 * k) (Lib.byteCells (hexOf (s.data.toList.take k))) ∧ Below w.heap.size w wr) (fun _ i _ => s.size - (intOf i).toNat)
  case atStart => exact ⟨0, Nat.zero_le _, rfl, World.ownsRow_made w #[] 0 (Nat.le_refl _) (by unfold maxLen; omega) rfl, (Below.refl _ _).alloc (Nat.le_refl _) _⟩
  case round =>
    obtain ⟨k, hk, rfl, hown, hb⟩ := hrel
    by_cases hlt : k < s.size
    · have hb0 := (s[k]'hlt).toNat_lt
      have i0' : (0 : Int) ≤ (k : Int) := by omega
      have i1' : (k : Int) < (s.size : Int) := by omega
      have hsz := hb.size
      go_wp2_with fail
      go_region_held3 (fun _ => True) (trivial) ((first | (go_at_call 25; (with_reducible refine (figHiW _ _).mono ?_); rintro e w' ⟨rfl, rfl⟩) | (go_at_call 25; (with_reducible refine (figLoW _ _).mono ?_); rintro e w' ⟨rfl, rfl⟩) | (refine step_append_lies _ (by rfl) _ _ _ (by rfl) w.heap.size 5 i0 _ 1 1 Try.underlying22 hi hz0 hz1 hz2 rfl (by omega) u4 (2 * k) _ (by rfl) ((hown.alloc _).drew) ⟨wr.heap.size, 0, none⟩ 2 2 _ (by rfl) (by rfl) (World.news_of_block (fr := (0, 0)) (heap_alloc_new wr _)) (by simp [Value.oneCell']) (by omega) (by unfold maxLen; omega) (by omega) (by simp; omega) (wr.heap.size + 1) (by simp) ?_; intro gg cap w1 hown1 hgrow hat hlt1)))
      all_goals
        go_wp2
        go_roundw
        case rel => exact ⟨k + 1, by omega, by go_num, by rw [hexCells_snoc s k hlt]; exact hown1, (hb.drew.alloc (by simpa using hsz) _).grown hgrow (by simp; omega) (fun g hg => (hown.lt g hg).1)⟩
        case measure => simp [intOf]; omega
    · obtain rfl : k = s.size := by omega
      rw [List.take_of_length_le (by simp)] at hown
      have hcv := conv_own (P := Try.prog) wr 22 9 5 Try.underlying22 Try.underlying5 Try.underlying9 hown (by rw [hexOf_length]; simp)
      have Hb := Lib.hid hb
      clear hb hown
      go_wp2_with fail
      go_ret2
      exact ⟨rfl, Hb.out⟩

theorem encS_no (s : ByteArray) (hs : 20000 < s.size) (hm : s.size ≤ 9223372036854775807) (w : World) :
    Calls Try.prog 11 #[.string s] w fun e w' => e = .returned (.tuple #[.string ByteArray.empty, .bool false]) ∧ w = w' := by
  go_enter Try.func11, Try.ntmps11
  go_wp2_with fail
  go_ret2
  exact ⟨rfl, rfl⟩
end Go.Proofs.Yteichodalcdbcaa
