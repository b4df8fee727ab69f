/- The contracts of spec.Blend, impl.Blend. No statement is proved here. -/
import Derived.Test.YtfehdcenmncbpaaBase
import Derived.Test.YtfehdcenmncbpaaRd
import Derived.Test.YtfehdcenmncbpaaIntR
import Derived.Test.YtfehdcenmncbpaaPixM
import Derived.Test.YtfehdcenmncbpaaPixC
import Derived.Test.YtfehdcenmncbpaaPixA
import Derived.Test.YtfehdcenmncbpaaOverI
import Derived.Test.YtfehdcenmncbpaaProg
import Derived.WalkKit
import Derived.ProofKit
import Derived.OpenShut
import Derived.WalkLawsBesides
import Derived.WalkSpells
import Derived.ShutString
import Derived.ChangeOld
import Derived.Below
import Derived.Lib.Hide
import Derived.Laws.BitsAllLaws
import Derived.Lib.QuoteBits
import Derived.Deep.RegionHeld3
import Derived.BigQuiet
import Derived.Deep.QuietTactic
import Derived.Maps.AppendAt
import Derived.Deep.OwnRows
import Derived.Handy
namespace Go.Proofs.Ytfehdcenmncbpaa
open Go.RowKit
theorem take_fold (L : List Int) (q : Int) (k : Nat) (x : Int) (h : L[k]? = some x) : (L.take (k + 1)).foldl (fun o p => over p o) q = over x ((L.take k).foldl (fun o p => over p o) q) := by
  have hk := (List.getElem?_eq_some_iff.1 h).1
  have hx := (List.getElem?_eq_some_iff.1 h).2
  rw [List.take_succ_eq_append_getElem hk, List.foldl_append, hx]
  rfl
theorem blend_yes {L : List Int} {q : Int} (h : pixOk q) : blend L q = L.foldl (fun o p => over p o) q := if_pos h
theorem blend_no {L : List Int} {q : Int} (h : ¬ pixOk q) : blend L q = -1 := if_neg h
set_option maxHeartbeats 600000 in
theorem blendI_in (v : Value) (L : List Int) (q : Int) (hq : pixOk q) (w : World) (h : Rd w v L.length (intCells L)) :
    Calls Try.prog 46 #[v, .int .i64 q] w fun e w' => e = .returned (.int .i64 (blend L q)) ∧ Below w.heap.size w w' := by
  obtain ⟨A, c, rfl⟩ := h.form
  have hn1 : L.length ≤ 9223372036854775807 := by have := h.len.2; unfold maxLen at this; omega
  have Hb : Hid (blend L q = L.foldl (fun o p => over p o) q) := blend_yes hq
  obtain ⟨n, hn⟩ : ∃ n, n = L.length := ⟨_, rfl⟩
  rw [← hn] at h hn1 ⊢
  have Hn := Lib.hid hn
  have H := Lib.hid h
  have Hq := Lib.hid hq
  clear hn h hq
  go_enter Try.func46, Try.ntmps46
  go_wp2_with fail
  refine (pixI_yes q Hq.out _).mono ?_
  rintro e w' ⟨rfl, rfl⟩
  go_wp2_with fail
  go_loopw [5, 14] (fun s i wr => ∃ (k : Nat) (o : Int), k ≤ n ∧ i = .int .i64 k ∧ s = .int .i64 o ∧ Hid (o = (L.take k).foldl (fun o p => over p o) q) ∧ Below w.heap.size w wr) (fun _ i _ => n - (intOf i).toNat)
  case atStart => exact ⟨0, q, Nat.zero_le _, rfl, rfl, rfl, Below.refl _ _⟩
  case round =>
    obtain ⟨k, o, hk, rfl, rfl, Ho, K⟩ := hrel
    by_cases hlt : k < n
    · obtain ⟨a, x, rfl, hx, hc⟩ := (H.out.call K).int_at hlt
      have Hx := Lib.hid hx
      clear hx
      have k0 : (0 : Int) ≤ (k : Int) := by omega
      have k1 : (k : Int) < (n : Int) := by omega
      have Hf : Hid (over x o = (L.take (k + 1)).foldl (fun o p => over p o) q) := by
        show over x o = (L.take (k + 1)).foldl (fun o p => over p o) q
        rw [take_fold L q k x Hx.out, ← Ho.out]
      go_wp2_with fail
      refine (overI_any x o _).mono ?_
      rintro e w' ⟨rfl, hb⟩
      go_wp2_with fail
      go_roundw
      case rel => exact ⟨k + 1, _, by omega, by go_num, rfl, Hf, px_call K hb⟩
      case measure => simp [intOf]; omega
    · obtain rfl : k = n := by omega
      go_wp2_with fail
      go_ret
      exact ⟨ret_int (by rw [Hb.out, Ho.out, Hn.out, List.take_length]), K⟩
theorem blendI_any (v : Value) (L : List Int) (q : Int) (w : World) (h : Rd w v L.length (intCells L)) :
    Calls Try.prog 46 #[v, .int .i64 q] w fun e w' => e = .returned (.int .i64 (blend L q)) ∧ Below w.heap.size w w' := by
  by_cases hq : pixOk q
  · exact blendI_in v L q hq w h
  · obtain ⟨A, c, rfl⟩ := h.form
    have Hb : Hid (blend L q = -1) := blend_no hq
    have Hq := Lib.hid hq
    clear h hq
    go_enter Try.func46, Try.ntmps46
    go_wp2_with fail
    refine (pixI_no q Hq.out _).mono ?_
    rintro e w' ⟨rfl, rfl⟩
    go_wp2_with fail
    go_ret
    exact ⟨ret_int Hb.out.symm, Below.refl _ _⟩
end Go.Proofs.Ytfehdcenmncbpaa
