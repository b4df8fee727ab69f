/- Lists of rectangles that come into a law; the contracts of laws.toRectS, toRegion, szRectS, szRegion. No statement is proved here. -/
import Derived.Test.YtfehdcenmncbpabRd
import Derived.Test.YtfehdcenmncbpabRectC
import Derived.Test.YtfehdcenmncbpabFrame
import Derived.Test.YtfehdcenmncbpabBlk4
import Derived.Test.YtfehdcenmncbpabRegM
import Derived.Test.YtfehdcenmncbpabGrid
import Derived.Test.YtfehdcenmncbpabHasC
import Derived.Test.YtfehdcenmncbpabRectEq
import Derived.Test.YtfehdcenmncbpabRds
import Derived.Test.YtfehdcenmncbpabGridS
import Derived.Test.YtfehdcenmncbpabGridI
import Derived.Test.YtfehdcenmncbpabCanS
import Derived.Test.YtfehdcenmncbpabRunP
import Derived.Test.YtfehdcenmncbpabRunI
import Derived.Test.YtfehdcenmncbpabCanI
import Derived.Test.YtfehdcenmncbpabRgnC
import Derived.Test.YtfehdcenmncbpabEqR
import Derived.Test.YtfehdcenmncbpabProg
import Derived.WalkKit
import Derived.ProofKit
import Derived.OpenShut
import Derived.WalkLawsBesides
import Derived.WalkSpells
import Derived.ShutString
import Derived.ChangeOld
import Derived.Below
import Derived.Lib.Hide
import Derived.BigQuiet
import Derived.Deep.QuietTactic
import Derived.Maps.AppendAt
import Derived.Deep.Draws
import Derived.Deep.RegionHeld3
import Derived.Deep.DeepCutAuto
import Derived.OwnWalk
import Derived.Deep.AppendLies
import Derived.Deep.LoopGhost
import Derived.Deep.MidRow
import Derived.Deep.WholeRow
import Derived.Deep.OwnRows
import Derived.Deep.Onto
import Derived.Laws.AppendOwn
namespace Go.Proofs.Ytfehdcenmncbpab
open Go.RowKit
/-- The four cells from address a on hold r. -/
structure A4 (w : World) (a : Addr) (r : Rc) : Prop where
  c0 : w.cell? a = some (.int .i64 r.x)
  c1 : w.cell? ⟨a.block, a.off + 1, none⟩ = some (.int .i64 r.y)
  c2 : w.cell? ⟨a.block, a.off + 2, none⟩ = some (.int .i64 r.w)
  c3 : w.cell? ⟨a.block, a.off + 3, none⟩ = some (.int .i64 r.h)
/-- The slice v of the laws' own rectangles reads L. -/
def LdR (w : World) (v : Value) (L : List Rc) : Prop :=
  L.length ≤ maxLen ∧ ∃ A c, v = .slice A L.length c ∧ (0 < L.length → ∃ a, A = some a ∧ ∀ k r, L[k]? = some r → A4 w (a.add (k * 4)) r)
theorem A4.call {w w' : World} {a : Addr} {r : Rc} (h : A4 w a r) (hb : Below w.heap.size w w') : A4 w' a r := by
  have hl := World.block_lt_of_cell? w _ h.c0
  exact ⟨(hb.cell hl).trans h.c0, (hb.cell (p := ⟨a.block, a.off + 1, none⟩) hl).trans h.c1, (hb.cell (p := ⟨a.block, a.off + 2, none⟩) hl).trans h.c2, (hb.cell (p := ⟨a.block, a.off + 3, none⟩) hl).trans h.c3⟩
theorem LdR.call {w w' : World} {v : Value} {L : List Rc} (h : LdR w v L) (hb : Below w.heap.size w w') : LdR w' v L := by
  obtain ⟨hm, A, c, rfl, hc⟩ := h
  refine ⟨hm, A, c, rfl, fun h0 => ?_⟩
  obtain ⟨a, rfl, hd⟩ := hc h0
  exact ⟨a, rfl, fun k r hr => (hd k r hr).call hb⟩
theorem LdR.form {w : World} {v : Value} {L : List Rc} (h : LdR w v L) : ∃ A c, v = .slice A L.length c := by
  obtain ⟨_, A, c, rfl, _⟩ := h; exact ⟨A, c, rfl⟩
theorem LdR.at_ {w : World} {A : Option Addr} {n c k : Nat} {L : List Rc} (h : LdR w (.slice A n c) L) (hk : k < L.length) : ∃ a r, A = some a ∧ L[k]? = some r ∧ A4 w (a.add (k * 4)) r := by
  obtain ⟨_, A', c', he, hc⟩ := h
  injection he with e1 e2 e3
  subst e1
  obtain ⟨g, rfl, hd⟩ := hc (by omega)
  exact ⟨g, L[k], rfl, List.getElem?_eq_getElem _, hd k _ (List.getElem?_eq_getElem _)⟩
theorem szRS_yes (n : Nat) (A : Option Addr) (c : Nat) (l : Int) (h : (n : Int) ≤ l) (hl : l ≤ 2097152) (w : World) :
    Calls Try.prog 76 #[.slice A n c, .int .i64 l] w fun e w' => e = .returned (.int .i64 (l - n)) ∧ w = w' := by
  have h1 : ¬ (l - (n : Int) < 0) := by omega
  go_enter Try.func76, Try.ntmps76
  go_wp2
  go_ret
  exact ⟨rfl, rfl⟩
theorem szRS_no (n : Nat) (A : Option Addr) (c : Nat) (hn : n ≤ maxLen) (l : Int) (h0 : 0 ≤ l) (h : l < (n : Int)) (w : World) :
    Calls Try.prog 76 #[.slice A n c, .int .i64 l] w fun e w' => e = .returned (.int .i64 (-1)) ∧ w = w' := by
  unfold maxLen at hn
  have h1 : l - (n : Int) < 0 := by omega
  go_enter Try.func76, Try.ntmps76
  go_wp2
  go_ret
  exact ⟨rfl, rfl⟩
theorem szRg_yes (n : Nat) (A : Option Addr) (c : Nat) (l : Int) (h : (n : Int) ≤ l) (hl : l ≤ 2097152) (w : World) :
    Calls Try.prog 29 #[.agg #[.slice A n c], .int .i64 l] w fun e w' => e = .returned (.int .i64 (l - n)) ∧ Below w.heap.size w w' := by
  have h1 : ¬ (l - (n : Int) < 0) := by omega
  go_enter Try.func29, Try.ntmps29
  go_wp2_with fail
  refine (szRS_yes n A c l h hl _).mono ?_
  rintro e w1 ⟨rfl, rfl⟩
  go_wp2_with fail
  go_ret
  exact ⟨rfl, (Below.refl _ _).alloc (Nat.le_refl _) _⟩
theorem szRg_no (n : Nat) (A : Option Addr) (c : Nat) (hn : n ≤ maxLen) (l : Int) (h0 : 0 ≤ l) (h : l < (n : Int)) (w : World) :
    Calls Try.prog 29 #[.agg #[.slice A n c], .int .i64 l] w fun e w' => e = .returned (.int .i64 (-1)) ∧ Below w.heap.size w w' := by
  go_enter Try.func29, Try.ntmps29
  go_wp2_with fail
  refine (szRS_no n A c hn l h0 h _).mono ?_
  rintro e w1 ⟨rfl, rfl⟩
  go_wp2_with fail
  go_ret
  exact ⟨rfl, (Below.refl _ _).alloc (Nat.le_refl _) _⟩
/-- A row as make makes it. -/
theorem made_rects (n : Nat) : (madeCells #[.int .i64 0, .int .i64 0, .int .i64 0, .int .i64 0] (n * 4)).toList = rcsCells (List.replicate n ⟨0, 0, 0, 0⟩) := by
  have h1 : (madeCells #[.int .i64 0, .int .i64 0, .int .i64 0, .int .i64 0] (n * 4)).toList = List.replicate (n * 4) (.int .i64 0) := by
    rw [List.eq_replicate_iff]
    refine ⟨by simp [size_madeCells], fun b hb => ?_⟩
    simp only [madeCells, Array.toList_map, Array.toList_range, List.mem_map] at hb
    obtain ⟨i, _, rfl⟩ := hb
    have : i % 4 < 4 := Nat.mod_lt _ (by omega)
    show (#[Value.int .i64 0, .int .i64 0, .int .i64 0, .int .i64 0] : Array Value)[i % 4]! = _
    obtain ⟨j, hj⟩ : ∃ j, j = i % 4 := ⟨_, rfl⟩
    rw [← hj] at this ⊢
    match j, this with
    | 0, _ => rfl
    | 1, _ => rfl
    | 2, _ => rfl
    | 3, _ => rfl
  have h2 : rcsCells (List.replicate n ⟨0, 0, 0, 0⟩) = List.replicate (n * 4) (.int .i64 0) := by
    rw [List.eq_replicate_iff]
    refine ⟨by rw [rcsCells_length, List.length_replicate], fun b hb => ?_⟩
    simp only [rcsCells, List.mem_flatMap] at hb
    obtain ⟨r, hr, hb⟩ := hb
    obtain rfl := List.eq_of_mem_replicate hr
    simp [rcCells] at hb
    exact hb
  rw [h1, h2]
theorem make_rects (n : Nat) (hn : n ≤ 2097152) (W : World) : (Instr.makeSlice 32 (.int .i64 (n : Int)) (.int .i64 (n : Int))).run Try.prog W =
    .ok (.slice (some ⟨W.heap.size, 0, none⟩) n n) (W.alloc (.cells (madeCells #[.int .i64 0, .int .i64 0, .int .i64 0, .int .i64 0] (n * 4)) 31)) := by
  obtain ⟨i0, hi, hz0, hz1, hz2⟩ := info_parts infoRect
  have h := run_make (P := Try.prog) W 32 31 i0 _ Try.underlying32 hi hz0 .i64 .i64 n n (by omega) (by omega) (by rw [hz2]; omega) (by omega)
  rw [hz1] at h
  simpa [Value.cells] using h
theorem own_made_rects (W : World) (B n : Nat) (hB : B ≤ W.heap.size) (hn : n ≤ 2097152) :
    (W.alloc (.cells (madeCells #[.int .i64 0, .int .i64 0, .int .i64 0, .int .i64 0] (n * 4)) 31)).ownsRow B 31 4 (.slice (some ⟨W.heap.size, 0, none⟩) n n) n (rcsCells (List.replicate n ⟨0, 0, 0, 0⟩)) := by
  refine ⟨by rw [rcsCells_length, List.length_replicate], .inr ⟨W.heap.size, n, _, rfl, hB, heap_alloc_new W _, Nat.le_refl _, by unfold maxLen; omega, size_madeCells _ _, ?_⟩⟩
  rw [made_rects, List.take_of_length_le (by rw [rcsCells_length, List.length_replicate]; exact Nat.le_refl _)]
/-- What toRectS answers. -/
def ToRS (L : List Rc) (w : World) (e : Ending) (w' : World) : Prop :=
  ∃ v, e = .returned v ∧ w'.ownsRow w.heap.size 31 4 v L.length (rcsCells L) ∧ Below w.heap.size w w'
set_option maxHeartbeats 1000000 in
set_option maxRecDepth 10000 in
theorem toRS (v : Value) (L : List Rc) (w : World) (hm : L.length ≤ 1048576) (h : LdR w v L) : Calls Try.prog 79 #[v] w (ToRS L w) := by
  obtain ⟨A, c, rfl⟩ := h.form
  obtain ⟨n, hn⟩ : ∃ n, n = L.length := ⟨_, rfl⟩
  rw [← hn] at hm h ⊢
  have Hn := Lib.hid hn
  have H := Lib.hid h
  have hmk := fun W => make_rects n (by omega) W
  clear h hn
  go_enter Try.func79, Try.ntmps79
  go_wp2_with fail
  go_loopw [4] (fun i wr => ∃ k : Nat, k ≤ n ∧ i = .int .i64 k ∧ wr.ownsRow w.heap.size 31 4 (.slice (some ⟨w.heap.size, 0, none⟩) n n) n (rcsCells (L.take k ++ List.replicate (n - k) ⟨0, 0, 0, 0⟩)) ∧ Below w.heap.size w wr) (fun i _ => n - (intOf i).toNat)
  case atStart => exact ⟨0, Nat.zero_le _, rfl, by simpa using own_made_rects w w.heap.size n (Nat.le_refl _) (by omega), (Below.refl _ _).alloc (Nat.le_refl _) _⟩
  case round =>
    obtain ⟨k, hk, rfl, hown, hb⟩ := hrel
    clear hmk
    by_cases hlt : k < n
    · obtain ⟨a, r, rfl, hr, hA⟩ := (H.out.call hb).at_ (k := k) (by rw [← Hn.out]; exact hlt)
      have Hr := Lib.hid hr
      clear hr
      obtain ⟨c0, c1, c2, c3⟩ := hA
      have k0' : (0 : Int) ≤ (k : Int) := by omega
      have k1' : (k : Int) < (n : Int) := by omega
      go_wp2_with fail
      refine (toRect_any r _).mono ?_
      rintro e w1 ⟨rfl, hb1⟩
      have hb2 := hb.trans (hb1.mono hb.size)
      have hown2 := own_below hown hb1 (Nat.le_refl _)
      rw [show n - k = (n - (k + 1)) + 1 by omega, List.replicate_succ] at hown2
      have hlk : k = (L.take k).length := by rw [List.length_take, ← Hn.out]; omega
      have hC : C4 w1 w.heap.size (k * 4) ⟨0, 0, 0, 0⟩ := by
        obtain ⟨g', r', e1, e2, e3⟩ := (RdR.of_own hown2).at_ (k := k) (by rw [← own_len hown2]; exact hlt)
        injection e1 with e1
        injection e1 with e1
        rw [List.getElem?_append_right (by omega), ← hlk, Nat.sub_self] at e2
        injection e2 with e2
        rw [e1, e2]; exact e3
      have Hlk := Lib.hid hlk
      obtain ⟨d0, d1, d2, d3⟩ := hC.cells
      have f0 := hown2.frozenAt (k * 4)
      have f1 := hown2.frozenAt (k * 4 + 1)
      have f2 := hown2.frozenAt (k * 4 + 2)
      have f3 := hown2.frozenAt (k * 4 + 3)
      have Hown := Lib.hid hown2
      have Hb2 := Lib.hid hb2
      clear hown hown2 hb hb1 hb2 hC hlk c0 c1 c2 c3
      go_wp2_with fail
      go_roundw
      case rel =>
        obtain ⟨p1, p2⟩ := own_put4 Hown.out (j := k) Hlk.out r.x r.y r.w r.h
        refine ⟨k + 1, by omega, by go_num, ?_, Hb2.out.grown p2 Hb2.out.size (fun k hk => by injection hk with hk; omega)⟩
        rw [List.take_add_one, Hr.out, List.append_assoc]
        exact p1
      case measure => simp [intOf]; omega
    · obtain rfl : k = n := by omega
      rw [Nat.sub_self, List.replicate_zero, List.append_nil, List.take_of_length_le (by rw [← Hn.out]; exact Nat.le_refl _)] at hown
      have Hown := Lib.hid hown
      clear hown
      go_wp2_with fail
      go_ret
      exact ⟨_, rfl, by rw [← Hn.out]; exact Hown.out, hb⟩
/-- What toRegion answers. -/
def ToRg (L : List Rc) (w : World) (e : Ending) (w' : World) : Prop :=
  ∃ v, e = .returned (.agg #[v]) ∧ w'.ownsRow w.heap.size 31 4 v L.length (rcsCells L) ∧ Below w.heap.size w w'
set_option maxHeartbeats 1000000 in
set_option maxRecDepth 10000 in
theorem toRg (v : Value) (L : List Rc) (w : World) (hm : L.length ≤ 1048576) (h : LdR w v L) : Calls Try.prog 31 #[.agg #[v]] w (ToRg L w) := by
  have hb0 := (((Below.refl w.heap.size w).alloc (Nat.le_refl _) (.cells #[v] 50)).alloc (by simp) (.cells #[.slice none 0 0] 34)).alloc (by simp; omega) (.cells #[.slice none 0 0] 34)
  have h2 := h.call hb0
  have hin := new_cell w v 50
  clear h
  go_enter Try.func31, Try.ntmps31
  go_wp2_with fail
  refine (toRS v L _ hm h2).mono ?_
  rintro e w1 ⟨u, rfl, hown, hb1⟩
  have h1 : w1.heap[w.heap.size + 1]? = some (.cells #[.slice none 0 0] 34 (0, 0)) := (hb1.block _ (by simp)).trans ((Below.heap_alloc _ _ _ (by simp)).trans (by have := heap_alloc_new (w.alloc (.cells #[v] 50)) (.cells #[.slice none 0 0] 34); simpa using this))
  have h3 : w1.heap[w.heap.size + 2]? = some (.cells #[.slice none 0 0] 34 (0, 0)) := (hb1.block _ (by simp)).trans (by have := heap_alloc_new ((w.alloc (.cells #[v] 50)).alloc (.cells #[.slice none 0 0] 34)) (.cells #[.slice none 0 0] 34); simpa using this)
  have r1 : w1.cell? ⟨w.heap.size + 1, 0, none⟩ = some (.slice none 0 0) := by simp [World.cell?, h1]
  have r3 : w1.cell? ⟨w.heap.size + 2, 0, none⟩ = some (.slice none 0 0) := by simp [World.cell?, h3]
  have f1 : w1.frozen? ⟨w.heap.size + 1, 0, none⟩ = false := by simp [World.frozen?, h1]
  have f3 : w1.frozen? ⟨w.heap.size + 2, 0, none⟩ = false := by simp [World.frozen?, h3]
  obtain ⟨A, c, hu⟩ := own_shape hown
  subst hu
  have hz := hb1.size
  simp at hz
  have Hb := Lib.hid (hb0.trans (hb1.mono hb0.size))
  have Hown := Lib.hid hown
  clear hown hb1 hb0 h1 h3
  go_wp2_with fail
  exact bodyPost_ret (v := .agg #[.slice A L.length c]) (by simp [results, Try.results31, go_sem, r1]) rfl ⟨_, rfl, own_set (own_set Hown.out (show w.heap.size + 2 ≤ _ by simp) (by simp) _) (Nat.le_add_right _ _) (by omega) _, (Hb.out.setCell (by simp; omega) _).setCell (by simp) _⟩
end Go.Proofs.Ytfehdcenmncbpab
